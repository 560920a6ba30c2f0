/- package inst: Text, in one def: what chapter 6 says of it; it turns nothing that was in memory. -/
import Derived.Test.YtfafkijcejbcpaaGreatDoorRows
import Derived.Test.YtfafkijcejbcpaaGreatDoorKeyPure
import Derived.Test.YtfafkijcejbcpaaGreatDoorShelf
import Derived.Test.YtfafkijcejbcpaaGreatDoorInstShape
import Derived.Test.YtfafkijcejbcpaaGreatDoorInstLaid
import Derived.Test.YtfafkijcejbcpaaGreatDoorInstDev
import Derived.Test.YtfafkijcejbcpaaGreatDoorTextPure
import Derived.WalkKit
import Derived.ProofKit
import Derived.Deep.RegionHeld3
namespace Go.Proofs.YtfafkijcejbcpaaGreatDoor
open Go.ChangeShapes Go.WideShapes Go.ChangeAt Go.RowKit
set_option linter.unusedSimpArgs false

theorem grow_below (w : World) (k : Nat) (os : Array Obj) : Below w.heap.size w (Sort.grow (w.drewN k) os) :=
  ⟨rfl, rfl, rfl, by simp, fun j hj => by
    show (w.heap ++ os)[j]? = _
    exact Array.getElem?_append_left hj⟩
theorem inst_itoa (n : Int) (w : World) (hP : Pw w) (hn : -9223372036854775808 ≤ n ∧ n ≤ 9223372036854775807) :
    Calls Tryz.prog 77 #[.int .i64 n] w fun e w' => e = .returned (.string (bL (Lib.itoa n))) ∧ Below w.heap.size w w' :=
  (Tryz.strconv_Itoa n hn.1 hn.2 w hP).mono fun e w' ⟨he, k, os, hw⟩ => ⟨he, by rw [hw]; exact grow_below w k os⟩
theorem inst_tell (k n : Int) (w : World) (hP : Pw w) (hn : -9223372036854775808 ≤ n ∧ n ≤ 9223372036854775807) :
    Calls Tryz.prog 92 #[.int .i64 k, .int .i64 n] w fun e w' => e = .returned (.string (bL (tellL k n))) ∧ Below w.heap.size w w' := by
  have z := itoa_len n hn
  obtain ⟨T, hT⟩ : ∃ T, bL (Lib.itoa n) = T := ⟨_, rfl⟩
  have zT : T.size ≤ 21 := by rw [← hT, bL_size]; exact z
  have cI := inst_itoa n w hP hn
  rw [hT] at cI
  by_cases h0 : k = 0
  · subst h0
    have e1 : (⟨#[]⟩ : ByteArray) = bL (tellL 0 n) := rfl
    rw [← e1]
    clear e1 cI
    go_enter Tryz.func92, Tryz.ntmps92
    go_wp2
    go_ret
    exact ⟨rfl, Below.refl _ _⟩
  · have g0 : (k == 0) = false := by simpa using h0
    by_cases h1 : k = 1
    · subst h1
      have e1 : (⟨#[32, 114]⟩ : ByteArray) ++ T = bL (tellL 1 n) := by rw [← hT]; exact bL_add [32, 114] (Lib.itoa n)
      rw [← e1]
      clear e1 hT
      go_enter Tryz.func92, Tryz.ntmps92
      go_wp2_with (go_at_call 77; refine cI.mono ?_; rintro e w1 ⟨rfl, hB⟩)
      go_ret
      exact ⟨rfl, hB⟩
    · have g1 : (k == 1) = false := by simpa using h1
      have e1 : (⟨#[32]⟩ : ByteArray) ++ T = bL (tellL k n) := by
        have : tellL k n = [32] ++ Lib.itoa n := by unfold tellL; rw [if_neg h0, if_neg h1]; rfl
        rw [← hT, this]; exact bL_add [32] (Lib.itoa n)
      rw [← e1]
      clear e1 hT
      go_enter Tryz.func92, Tryz.ntmps92
      go_wp2_with (go_at_call 77; refine cI.mono ?_; rintro e w1 ⟨rfl, hB⟩)
      go_ret
      exact ⟨rfl, hB⟩
set_option maxHeartbeats 4000000 in
set_option maxRecDepth 100000 in
theorem text_in (n : Nat) (hn : n < 23) (a b c : Int) (hc : chkD n a b c = 0) (w : World) (hS : Shp w) (hP : Pw w) (hb : (-9223372036854775808 ≤ a ∧ a ≤ 9223372036854775807) ∧ (-9223372036854775808 ≤ b ∧ b ≤ 9223372036854775807) ∧ (-9223372036854775808 ≤ c ∧ c ≤ 9223372036854775807)) :
    Calls Tryz.prog 79 #[.agg #[.int .i64 (n : Int), .int .i64 a, .int .i64 b, .int .i64 c]] w fun e w' => e = .returned (.tuple #[.string (bL (textL n a b c)), .int .i64 0]) ∧ Below w.heap.size w w' := by
  obtain ⟨T0, hT0⟩ : ∃ T, bL (shW n) = T := ⟨_, rfl⟩
  obtain ⟨TA, hTA⟩ : ∃ T, bL (tellL (shA n) a) = T := ⟨_, rfl⟩
  obtain ⟨TB, hTB⟩ : ∃ T, bL (tellL (shB n) b) = T := ⟨_, rfl⟩
  obtain ⟨TC, hTC⟩ : ∃ T, bL (tellL (shC n) c) = T := ⟨_, rfl⟩
  have z0 : T0.size ≤ 6 := by rw [← hT0, bL_size]; exact word_len n hn
  have zA : TA.size ≤ 23 := by rw [← hTA, bL_size]; exact tell_len _ a hb.1
  have zB : TB.size ≤ 23 := by rw [← hTB, bL_size]; exact tell_len _ b hb.2.1
  have zC : TC.size ≤ 23 := by rw [← hTC, bL_size]; exact tell_len _ c hb.2.2
  have eT : T0 ++ TA ++ TB ++ TC = bL (textL n a b c) := by rw [← hT0, ← hTA, ← hTB, ← hTC, bL_add, bL_add, bL_add]; rfl
  rw [← eT]
  clear eT
  have hb0 := Below.one w (.cells #[.int .i64 (n : Int), .int .i64 a, .int .i64 b, .int .i64 c] 43)
  go_enter Tryz.func79, Tryz.ntmps79
  go_wp2_with (go_at_call 46; refine (inst_check _ _ _ _ _ (hS.below hb0)).mono ?_; simp only [hc]; rintro e w1 ⟨rfl, hbb⟩; have B1 := (Box.new w _ _).below hbb; have q1 := B1.cell; have hB1 := Below.step0 hb0 hbb; obtain ⟨c0, c1, c2, c3⟩ := (hS.below hB1).row n hn; change _ = some (Value.string (bL (shW n))) at c0; rw [hT0] at c0; clear hbb)
  refine wp_region_held_drew (S := Cls w [(w.heap.size, #[.int .i64 (n : Int), .int .i64 a, .int .i64 b, .int .i64 c]), (w1.heap.size, #[.string T0, .int .i64 (shA n), .int .i64 (shB n), .int .i64 (shC n)])]) (by kernel_rfl) (Cls.drew (Cls.mk2 (hB1.alloc hB1.size _) (B1.alloc _) (Box.new _ _ _))) (fun hHeld => ?_)
  refine wpAnyH_take (i := 0) (v := .pointer (some ⟨w1.heap.size, 0, none⟩)) rfl (by kernel_rfl) (by kernel_rfl) (by kernel_rfl) (fun _ _ _ h => h) (Or.inl ⟨by rfl, fun w hSw => by go_simp⟩) (by assumption) ?_
  try simp only [Act.put, List.getElem_toArray, List.getElem_cons_zero, List.getElem_cons_succ, List.setIfInBounds_toArray, List.set_cons_zero, List.set_cons_succ]
  refine wpAnyH_take (i := 1) (v := .string T0) rfl (by kernel_rfl) (by kernel_rfl) (by kernel_rfl) (fun _ _ _ h => h) (Or.inl ⟨by rfl, fun w hSw => by have q := hSw.b1.cell; go_simp⟩) (by assumption) ?_
  try simp only [Act.put, List.getElem_toArray, List.getElem_cons_zero, List.getElem_cons_succ, List.setIfInBounds_toArray, List.set_cons_zero, List.set_cons_succ]
  refine wpAnyH_take (i := 2) (v := .pointer (some ⟨w1.heap.size, 1, none⟩)) rfl (by kernel_rfl) (by kernel_rfl) (by kernel_rfl) (fun _ _ _ h => h) (Or.inl ⟨by rfl, fun w hSw => by go_simp⟩) (by assumption) ?_
  try simp only [Act.put, List.getElem_toArray, List.getElem_cons_zero, List.getElem_cons_succ, List.setIfInBounds_toArray, List.set_cons_zero, List.set_cons_succ]
  refine wpAnyH_take (i := 3) (v := .int .i64 (shA n)) rfl (by kernel_rfl) (by kernel_rfl) (by kernel_rfl) (fun _ _ _ h => h) (Or.inl ⟨by rfl, fun w hSw => by have q := hSw.b1.cell; go_simp⟩) (by assumption) ?_
  try simp only [Act.put, List.getElem_toArray, List.getElem_cons_zero, List.getElem_cons_succ, List.setIfInBounds_toArray, List.set_cons_zero, List.set_cons_succ]
  refine wpAnyH_take (i := 4) (v := .pointer (some ⟨w.heap.size, 1, none⟩)) rfl (by kernel_rfl) (by kernel_rfl) (by kernel_rfl) (fun _ _ _ h => h) (Or.inl ⟨by rfl, fun w hSw => by go_simp⟩) (by assumption) ?_
  try simp only [Act.put, List.getElem_toArray, List.getElem_cons_zero, List.getElem_cons_succ, List.setIfInBounds_toArray, List.set_cons_zero, List.set_cons_succ]
  refine wpAnyH_take (i := 5) (v := .int .i64 a) rfl (by kernel_rfl) (by kernel_rfl) (by kernel_rfl) (fun _ _ _ h => h) (Or.inl ⟨by rfl, fun w hSw => by have q := hSw.b0.cell; go_simp⟩) (by assumption) ?_
  try simp only [Act.put, List.getElem_toArray, List.getElem_cons_zero, List.getElem_cons_succ, List.setIfInBounds_toArray, List.set_cons_zero, List.set_cons_succ]
  refine wpAnyH_take (i := 8) (v := .pointer (some ⟨w1.heap.size, 2, none⟩)) rfl (by kernel_rfl) (by kernel_rfl) (by kernel_rfl) (fun _ _ _ h => h) (Or.inl ⟨by rfl, fun w hSw => by go_simp⟩) (by assumption) ?_
  try simp only [Act.put, List.getElem_toArray, List.getElem_cons_zero, List.getElem_cons_succ, List.setIfInBounds_toArray, List.set_cons_zero, List.set_cons_succ]
  refine wpAnyH_take (i := 9) (v := .int .i64 (shB n)) rfl (by kernel_rfl) (by kernel_rfl) (by kernel_rfl) (fun _ _ _ h => h) (Or.inl ⟨by rfl, fun w hSw => by have q := hSw.b1.cell; go_simp⟩) (by assumption) ?_
  try simp only [Act.put, List.getElem_toArray, List.getElem_cons_zero, List.getElem_cons_succ, List.setIfInBounds_toArray, List.set_cons_zero, List.set_cons_succ]
  refine wpAnyH_take (i := 10) (v := .pointer (some ⟨w.heap.size, 2, none⟩)) rfl (by kernel_rfl) (by kernel_rfl) (by kernel_rfl) (fun _ _ _ h => h) (Or.inl ⟨by rfl, fun w hSw => by go_simp⟩) (by assumption) ?_
  try simp only [Act.put, List.getElem_toArray, List.getElem_cons_zero, List.getElem_cons_succ, List.setIfInBounds_toArray, List.set_cons_zero, List.set_cons_succ]
  refine wpAnyH_take (i := 11) (v := .int .i64 b) rfl (by kernel_rfl) (by kernel_rfl) (by kernel_rfl) (fun _ _ _ h => h) (Or.inl ⟨by rfl, fun w hSw => by have q := hSw.b0.cell; go_simp⟩) (by assumption) ?_
  try simp only [Act.put, List.getElem_toArray, List.getElem_cons_zero, List.getElem_cons_succ, List.setIfInBounds_toArray, List.set_cons_zero, List.set_cons_succ]
  refine wpAnyH_take (i := 14) (v := .pointer (some ⟨w1.heap.size, 3, none⟩)) rfl (by kernel_rfl) (by kernel_rfl) (by kernel_rfl) (fun _ _ _ h => h) (Or.inl ⟨by rfl, fun w hSw => by go_simp⟩) (by assumption) ?_
  try simp only [Act.put, List.getElem_toArray, List.getElem_cons_zero, List.getElem_cons_succ, List.setIfInBounds_toArray, List.set_cons_zero, List.set_cons_succ]
  refine wpAnyH_take (i := 15) (v := .int .i64 (shC n)) rfl (by kernel_rfl) (by kernel_rfl) (by kernel_rfl) (fun _ _ _ h => h) (Or.inl ⟨by rfl, fun w hSw => by have q := hSw.b1.cell; go_simp⟩) (by assumption) ?_
  try simp only [Act.put, List.getElem_toArray, List.getElem_cons_zero, List.getElem_cons_succ, List.setIfInBounds_toArray, List.set_cons_zero, List.set_cons_succ]
  refine wpAnyH_take (i := 16) (v := .pointer (some ⟨w.heap.size, 3, none⟩)) rfl (by kernel_rfl) (by kernel_rfl) (by kernel_rfl) (fun _ _ _ h => h) (Or.inl ⟨by rfl, fun w hSw => by go_simp⟩) (by assumption) ?_
  try simp only [Act.put, List.getElem_toArray, List.getElem_cons_zero, List.getElem_cons_succ, List.setIfInBounds_toArray, List.set_cons_zero, List.set_cons_succ]
  refine wpAnyH_take (i := 17) (v := .int .i64 c) rfl (by kernel_rfl) (by kernel_rfl) (by kernel_rfl) (fun _ _ _ h => h) (Or.inl ⟨by rfl, fun w hSw => by have q := hSw.b0.cell; go_simp⟩) (by assumption) ?_
  try simp only [Act.put, List.getElem_toArray, List.getElem_cons_zero, List.getElem_cons_succ, List.setIfInBounds_toArray, List.set_cons_zero, List.set_cons_succ]
  refine wpAnyH_ready (rs := [6]) (by kernel_rfl) (by simp) (AllReadyH.cons rfl (fun K hK => ?_) AllReadyH.nil)
  go_simp
  refine (inst_tell _ a _ (hP.below hHeld.1) hb.1).mono ?_
  rw [hTA]
  rintro e w1 ⟨rfl, hbb⟩
  refine hK.out _ _ (hHeld.step hbb) (fun hHeld => ?_)
  clear hK K hbb
  try simp only [Act.put, List.getElem_toArray, List.getElem_cons_zero, List.getElem_cons_succ, List.setIfInBounds_toArray, List.set_cons_zero, List.set_cons_succ]
  refine wpAnyH_take (i := 7) (v := .string (T0 ++ TA)) rfl (by kernel_rfl) (by kernel_rfl) (by kernel_rfl) (fun _ _ _ h => h) (Or.inl ⟨by rfl, fun w hSw => by go_simp; omega⟩) (by assumption) ?_
  try simp only [Act.put, List.getElem_toArray, List.getElem_cons_zero, List.getElem_cons_succ, List.setIfInBounds_toArray, List.set_cons_zero, List.set_cons_succ]
  refine wpAnyH_ready (rs := [12]) (by kernel_rfl) (by simp) (AllReadyH.cons rfl (fun K hK => ?_) AllReadyH.nil)
  go_simp
  refine (inst_tell _ b _ (hP.below hHeld.1) hb.2.1).mono ?_
  rw [hTB]
  rintro e w1 ⟨rfl, hbb⟩
  refine hK.out _ _ (hHeld.step hbb) (fun hHeld => ?_)
  clear hK K hbb
  try simp only [Act.put, List.getElem_toArray, List.getElem_cons_zero, List.getElem_cons_succ, List.setIfInBounds_toArray, List.set_cons_zero, List.set_cons_succ]
  refine wpAnyH_take (i := 13) (v := .string (T0 ++ TA ++ TB)) rfl (by kernel_rfl) (by kernel_rfl) (by kernel_rfl) (fun _ _ _ h => h) (Or.inl ⟨by rfl, fun w hSw => by go_simp; omega⟩) (by assumption) ?_
  try simp only [Act.put, List.getElem_toArray, List.getElem_cons_zero, List.getElem_cons_succ, List.setIfInBounds_toArray, List.set_cons_zero, List.set_cons_succ]
  refine wpAnyH_ready (rs := [18]) (by kernel_rfl) (by simp) (AllReadyH.cons rfl (fun K hK => ?_) AllReadyH.nil)
  go_simp
  refine (inst_tell _ c _ (hP.below hHeld.1) hb.2.2).mono ?_
  rw [hTC]
  rintro e w1 ⟨rfl, hbb⟩
  refine hK.out _ _ (hHeld.step hbb) (fun hHeld => ?_)
  clear hK K hbb
  try simp only [Act.put, List.getElem_toArray, List.getElem_cons_zero, List.getElem_cons_succ, List.setIfInBounds_toArray, List.set_cons_zero, List.set_cons_succ]
  refine wpAnyH_take (i := 19) (v := .string (T0 ++ TA ++ TB ++ TC)) rfl (by kernel_rfl) (by kernel_rfl) (by kernel_rfl) (fun _ _ _ h => h) (Or.inl ⟨by rfl, fun w hSw => by go_simp; omega⟩) (by assumption) ?_
  try simp only [Act.put, List.getElem_toArray, List.getElem_cons_zero, List.getElem_cons_succ, List.setIfInBounds_toArray, List.set_cons_zero, List.set_cons_succ]
  refine wpAnyH_take (i := 20) (v := .string (T0 ++ TA ++ TB ++ TC)) rfl (by kernel_rfl) (by kernel_rfl) (by kernel_rfl) (fun _ _ _ h => h) (Or.inl ⟨by rfl, fun w hSw => by go_simp⟩) (by assumption) ?_
  try simp only [Act.put, List.getElem_toArray, List.getElem_cons_zero, List.getElem_cons_succ, List.setIfInBounds_toArray, List.set_cons_zero, List.set_cons_succ]
  refine wpAnyH_take (i := 21) (v := .int .i64 0) rfl (by kernel_rfl) (by kernel_rfl) (by kernel_rfl) (fun _ _ _ h => h) (Or.inl ⟨by rfl, fun w hSw => by go_simp⟩) (by assumption) ?_
  try simp only [Act.put, List.getElem_toArray, List.getElem_cons_zero, List.getElem_cons_succ, List.setIfInBounds_toArray, List.set_cons_zero, List.set_cons_succ]
  refine wpAnyH_done (by kernel_rfl) ?_ _
  go_wp2
  go_ret2
  exact ⟨rfl, hHeld.1⟩
theorem inst_text (o a b c : Int) (w : World) (hS : Shp w) (hP : Pw w) :
    Calls Tryz.prog 79 #[.agg #[.int .i64 o, .int .i64 a, .int .i64 b, .int .i64 c]] w fun e w' => e = .returned (.tuple #[.string (bL (textD o a b c)), .int .i64 (chkD o a b c)]) ∧ Below w.heap.size w w' := by
  by_cases hc : chkD o a b c = 0
  · have hr := chkD_ok hc
    obtain ⟨n, rfl⟩ := Int.eq_ofNat_of_zero_le hr.1.1
    have e1 : textD n a b c = textL n a b c := by unfold textD; rw [if_pos hc]; rfl
    rw [e1, hc]
    exact text_in n (by omega) a b c hc w hS hP (by omega)
  · have e1 : textD o a b c = [] := by unfold textD; rw [if_neg hc]
    have hc' : (chkD o a b c == 0) = false := by simpa using hc
    rw [e1, show bL [] = (⟨#[]⟩ : ByteArray) from rfl]
    have hb0 := Below.one w (.cells #[.int .i64 o, .int .i64 a, .int .i64 b, .int .i64 c] 43)
    go_enter Tryz.func79, Tryz.ntmps79
    go_wp2_with (go_at_call 46; refine (inst_check _ _ _ _ _ (hS.below hb0)).mono ?_; rintro e w1 ⟨rfl, hbb⟩; have B1 := (Box.new w _ _).below hbb; have q1 := B1.cell; have hB1 := Below.step0 hb0 hbb; clear hbb)
    go_ret2
    exact ⟨rfl, hB1⟩
end Go.Proofs.YtfafkijcejbcpaaGreatDoor
