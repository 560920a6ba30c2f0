/- package cell's Read: for whatever text just the value that chapter 5 tells, or its error, in new memory. -/
import Derived.Test.YtilbijocapmjbaaRows
import Derived.Test.YtilbijocapmjbaaBits
import Derived.Test.YtilbijocapmjbaaKeyPure
import Derived.Test.YtilbijocapmjbaaKeyChk
import Derived.Test.YtilbijocapmjbaaCellPure
import Derived.Test.YtilbijocapmjbaaCellChk
import Derived.Test.YtilbijocapmjbaaCellBytes
import Derived.Test.YtilbijocapmjbaaCellApp
import Derived.Test.YtilbijocapmjbaaCellPack
import Derived.WalkKit
import Derived.ProofKit
import Derived.OpenShut
import Derived.BigQuiet
import Derived.Deep.RegionHeld3
namespace Go.Proofs.Ytilbijocapmjbaa
open Go.ChangeShapes Go.WideShapes Go.ChangeAt Go.RowKit
set_option linter.unusedSimpArgs false

theorem ext_list (s : ByteArray) (i j : Nat) : (s.extract i j).data.toList = (s.data.extract i j).toList := by rw [ByteArray.data_extract]
theorem ext_size (s : ByteArray) (i j : Nat) (h : j ≤ s.size) : (s.extract i j).size = j - i := by rw [ByteArray.size_extract]; omega
/-- What is taken of ten bytes. -/
theorem unp10 (s : ByteArray) (hs : s.size = 10) : unp s.data.toList =
    if s[0] = 1 then ⟨true, 0, s[1].toNat, valL (s.extract 3 5).data.toList, valL (s.extract 5 7).data.toList, valL (s.extract 7 9).data.toList, s[2].toNat, 0⟩ else ⟨false, valL (s.extract 1 5).data.toList - 2147483648, 0, 0, 0, 0, 0, 0⟩ := by
  rw [ext_list, ext_list, ext_list, ext_list]
  obtain ⟨⟨l⟩⟩ := s
  obtain ⟨c0, c1, c2, c3, c4, c5, c6, c7, c8, c9, rfl⟩ := list10 (l := l) hs
  rfl
theorem last10 (s : ByteArray) (hs : s.size = 10) : s.data.toList.getD 9 0 = s[9] ∧ s.data.toList.take 9 = (s.extract 0 9).data.toList := by
  rw [ext_list]
  obtain ⟨⟨l⟩⟩ := s
  obtain ⟨c0, c1, c2, c3, c4, c5, c6, c7, c8, c9, rfl⟩ := list10 (l := l) hs
  exact ⟨rfl, rfl⟩
theorem vl4 (s : ByteArray) (h : s.size ≤ 4) : valL s.data.toList < 4294967296 := by
  have h1 := val_lt s.data.toList
  have h2 : s.data.toList.length ≤ 4 := by simpa using h
  have := Nat.pow_le_pow_right (show 0 < 256 by decide) h2
  omega
/-- The same, shut. -/
def valB (s : ByteArray) : Int := (valL s.data.toList : Int)
def sumB (s : ByteArray) : Int := ((sumL s.data.toList).toNat : Int)
theorem valB_lt (s : ByteArray) (h : s.size ≤ 4) : 0 ≤ valB s ∧ valB s < 4294967296 := by
  have := vl4 s h
  unfold valB
  omega
theorem cell_highfirst' (s : ByteArray) (w : World) (hs : s.size ≤ 4) :
    Calls Try.prog 32 #[.string s] w fun e w' => e = .returned (.int .i64 (valB s)) ∧ w' = w := cell_highfirst s w hs
theorem cell_sum' (s : ByteArray) (w : World) (hs : s.size ≤ 16) :
    Calls Try.prog 19 #[.string s] w fun e w' => e = .returned (.int .u8 (sumB s)) ∧ w' = w := cell_sum s w hs
theorem cell_unpack_num (s : ByteArray) (w : World) (hs : s.size = 10) (h0 : ((s[0].toNat : Int) == 1) = false) :
    Calls Try.prog 27 #[.string s] w fun e w' => e = .returned (.agg #[.bool false, .int .i64 (valB (s.extract 1 5) - 2147483648), .int .i64 0, .int .i64 0, .int .i64 0, .int .i64 0, .int .i64 0]) ∧ Below w.heap.size w w' := by
  have e1 := ext_size s 1 5 (by omega)
  have e2 := valB_lt (s.extract 1 5) (by omega)
  go_enter Try.func27, Try.ntmps27
  go_wp2_with (go_at_call 32; refine (cell_highfirst' _ _ (by omega)).mono ?_; rintro e w1 ⟨rfl, rfl⟩)
  refine bodyPost_ret (v := .agg #[.bool false, .int .i64 (valB (s.extract 1 5) + -2147483648), .int .i64 0, .int .i64 0, .int .i64 0, .int .i64 0, .int .i64 0]) (by simp [results, Try.results27, go_sem]) rfl ⟨rfl, ?_⟩
  exact (Below.refl _ _).alloc (Nat.le_refl _) _
set_option maxHeartbeats 4000000 in
set_option maxRecDepth 100000 in
theorem cell_unpack_key (s : ByteArray) (w : World) (hs : s.size = 10) (h0 : ((s[0].toNat : Int) == 1) = true) :
    Calls Try.prog 27 #[.string s] w fun e w' => e = .returned (.agg #[.bool true, .int .i64 0, .int .i64 s[1].toNat, .int .i64 (valB (s.extract 3 5)), .int .i64 (valB (s.extract 5 7)), .int .i64 (valB (s.extract 7 9)), .int .i64 s[2].toNat]) ∧ Below w.heap.size w w' := by
  have e1 := ext_size s 3 5 (by omega)
  have e2 := ext_size s 5 7 (by omega)
  have e3 := ext_size s 7 9 (by omega)
  have u1 := u8_lt s[1]
  have u2 := u8_lt s[2]
  have x1 : IntKind.i64.wrap (s[1].toNat : Int) = s[1].toNat := by rw [IntKind.wrap_i64]; omega
  have x2 : IntKind.i64.wrap (s[2].toNat : Int) = s[2].toNat := by rw [IntKind.wrap_i64]; omega
  go_enter Try.func27, Try.ntmps27
  go_wp2
  refine wp_region_held_drew (S := fun _ => True) (by kernel_rfl) trivial (fun hHeld => ?_)
  refine wpAnyH_take (i := 0) (v := .string s) rfl (by kernel_rfl) (by kernel_rfl) (by kernel_rfl) (fun _ _ _ h => h) (Or.inl ⟨by rfl, fun w hSw => by go_simp⟩) (by assumption) ?_
  try simp only [Act.put, List.setIfInBounds_toArray, List.set_cons_zero, List.set_cons_succ]
  refine wpAnyH_take (i := 1) (v := .int .u8 s[1].toNat) rfl (by kernel_rfl) (by kernel_rfl) (by kernel_rfl) (fun _ _ _ h => h) (Or.inl ⟨by rfl, fun w hSw => by go_simp⟩) (by assumption) ?_
  try simp only [Act.put, List.setIfInBounds_toArray, List.set_cons_zero, List.set_cons_succ]
  refine wpAnyH_take (i := 2) (v := .int .i64 s[1].toNat) rfl (by kernel_rfl) (by kernel_rfl) (by kernel_rfl) (fun _ _ _ h => h) (Or.inl ⟨by rfl, fun w hSw => by go_simp⟩) (by assumption) ?_
  try simp only [Act.put, List.setIfInBounds_toArray, List.set_cons_zero, List.set_cons_succ]
  refine wpAnyH_take (i := 3) (v := .string s) rfl (by kernel_rfl) (by kernel_rfl) (by kernel_rfl) (fun _ _ _ h => h) (Or.inl ⟨by rfl, fun w hSw => by go_simp⟩) (by assumption) ?_
  try simp only [Act.put, List.setIfInBounds_toArray, List.set_cons_zero, List.set_cons_succ]
  refine wpAnyH_take (i := 4) (v := .int .u8 s[2].toNat) rfl (by kernel_rfl) (by kernel_rfl) (by kernel_rfl) (fun _ _ _ h => h) (Or.inl ⟨by rfl, fun w hSw => by go_simp⟩) (by assumption) ?_
  try simp only [Act.put, List.setIfInBounds_toArray, List.set_cons_zero, List.set_cons_succ]
  refine wpAnyH_take (i := 5) (v := .int .i64 s[2].toNat) rfl (by kernel_rfl) (by kernel_rfl) (by kernel_rfl) (fun _ _ _ h => h) (Or.inl ⟨by rfl, fun w hSw => by go_simp⟩) (by assumption) ?_
  try simp only [Act.put, List.setIfInBounds_toArray, List.set_cons_zero, List.set_cons_succ]
  refine wpAnyH_take (i := 6) (v := .string s) rfl (by kernel_rfl) (by kernel_rfl) (by kernel_rfl) (fun _ _ _ h => h) (Or.inl ⟨by rfl, fun w hSw => by go_simp⟩) (by assumption) ?_
  try simp only [Act.put, List.setIfInBounds_toArray, List.set_cons_zero, List.set_cons_succ]
  refine wpAnyH_take (i := 7) (v := .string (s.extract 3 5)) rfl (by kernel_rfl) (by kernel_rfl) (by kernel_rfl) (fun _ _ _ h => h) (Or.inl ⟨by rfl, fun w hSw => by go_simp⟩) (by assumption) ?_
  try simp only [Act.put, List.setIfInBounds_toArray, List.set_cons_zero, List.set_cons_succ]
  refine wpAnyH_take (i := 9) (v := .string s) rfl (by kernel_rfl) (by kernel_rfl) (by kernel_rfl) (fun _ _ _ h => h) (Or.inl ⟨by rfl, fun w hSw => by go_simp⟩) (by assumption) ?_
  try simp only [Act.put, List.setIfInBounds_toArray, List.set_cons_zero, List.set_cons_succ]
  refine wpAnyH_take (i := 10) (v := .string (s.extract 5 7)) rfl (by kernel_rfl) (by kernel_rfl) (by kernel_rfl) (fun _ _ _ h => h) (Or.inl ⟨by rfl, fun w hSw => by go_simp⟩) (by assumption) ?_
  try simp only [Act.put, List.setIfInBounds_toArray, List.set_cons_zero, List.set_cons_succ]
  refine wpAnyH_take (i := 12) (v := .string s) rfl (by kernel_rfl) (by kernel_rfl) (by kernel_rfl) (fun _ _ _ h => h) (Or.inl ⟨by rfl, fun w hSw => by go_simp⟩) (by assumption) ?_
  try simp only [Act.put, List.setIfInBounds_toArray, List.set_cons_zero, List.set_cons_succ]
  refine wpAnyH_take (i := 13) (v := .string (s.extract 7 9)) rfl (by kernel_rfl) (by kernel_rfl) (by kernel_rfl) (fun _ _ _ h => h) (Or.inl ⟨by rfl, fun w hSw => by go_simp⟩) (by assumption) ?_
  try simp only [Act.put, List.setIfInBounds_toArray, List.set_cons_zero, List.set_cons_succ]
  refine wpAnyH_ready (rs := [8]) (by kernel_rfl) (by simp) (AllReadyH.cons rfl (fun K hK => ?_) AllReadyH.nil)
  go_simp
  refine (cell_highfirst' _ _ (by omega)).mono ?_
  rintro e w1 ⟨rfl, rfl⟩
  refine hK.out _ _ trivial (fun hHeld => ?_)
  clear hK K
  try simp only [Act.put, List.setIfInBounds_toArray, List.set_cons_zero, List.set_cons_succ]
  refine wpAnyH_ready (rs := [11]) (by kernel_rfl) (by simp) (AllReadyH.cons rfl (fun K hK => ?_) AllReadyH.nil)
  go_simp
  refine (cell_highfirst' _ _ (by omega)).mono ?_
  rintro e w1 ⟨rfl, rfl⟩
  refine hK.out _ _ trivial (fun hHeld => ?_)
  clear hK K
  try simp only [Act.put, List.setIfInBounds_toArray, List.set_cons_zero, List.set_cons_succ]
  refine wpAnyH_ready (rs := [14]) (by kernel_rfl) (by simp) (AllReadyH.cons rfl (fun K hK => ?_) AllReadyH.nil)
  go_simp
  refine (cell_highfirst' _ _ (by omega)).mono ?_
  rintro e w1 ⟨rfl, rfl⟩
  refine hK.out _ _ trivial (fun hHeld => ?_)
  clear hK K
  try simp only [Act.put, List.setIfInBounds_toArray, List.set_cons_zero, List.set_cons_succ]
  refine wpAnyH_take (i := 15) (v := .agg #[.int .i64 s[1].toNat, .int .i64 (valB (s.extract 3 5)), .int .i64 (valB (s.extract 5 7)), .int .i64 (valB (s.extract 7 9)), .int .i64 s[2].toNat]) rfl (by kernel_rfl) (by kernel_rfl) (by kernel_rfl) (fun _ _ _ h => h) (Or.inl ⟨by rfl, fun w hSw => by go_simp⟩) (by assumption) ?_
  try simp only [Act.put, List.setIfInBounds_toArray, List.set_cons_zero, List.set_cons_succ]
  refine wpAnyH_take (i := 16) (v := .agg #[.bool true, .int .i64 0, .int .i64 s[1].toNat, .int .i64 (valB (s.extract 3 5)), .int .i64 (valB (s.extract 5 7)), .int .i64 (valB (s.extract 7 9)), .int .i64 s[2].toNat]) rfl (by kernel_rfl) (by kernel_rfl) (by kernel_rfl) (fun _ _ _ h => h) (Or.inl ⟨by rfl, fun w hSw => by go_simp⟩) (by assumption) ?_
  try simp only [Act.put, List.setIfInBounds_toArray, List.set_cons_zero, List.set_cons_succ]
  refine wpAnyH_ready (rs := [17]) (by kernel_rfl) (by simp) (AllReadyH.cons rfl (fun K hK => ?_) AllReadyH.nil)
  go_simp
  refine hK.out _ _ trivial (fun hHeld => ?_)
  clear hK K
  try simp only [Act.put, List.setIfInBounds_toArray, List.set_cons_zero, List.set_cons_succ]
  refine wpAnyH_done (by kernel_rfl) ?_ _
  go_wp2
  refine bodyPost_ret (v := .agg #[.bool true, .int .i64 0, .int .i64 s[1].toNat, .int .i64 (valB (s.extract 3 5)), .int .i64 (valB (s.extract 5 7)), .int .i64 (valB (s.extract 7 9)), .int .i64 s[2].toNat]) (by simp [results, Try.results27, go_sem]) rfl ⟨rfl, ?_⟩
  exact ((Below.refl _ _).alloc (Nat.le_refl _) _).drew
theorem unp_vb (s : ByteArray) (hs : s.size = 10) : vb (unp s.data.toList).n (unp s.data.toList).p (unp s.data.toList).b (unp s.data.toList).l (unp s.data.toList).a (unp s.data.toList).s := by
  have h15 := vl4 (s.extract 1 5) (by rw [ext_size s 1 5 (by omega)]; decide)
  have h35 := vl4 (s.extract 3 5) (by rw [ext_size s 3 5 (by omega)]; decide)
  have h57 := vl4 (s.extract 5 7) (by rw [ext_size s 5 7 (by omega)]; decide)
  have h79 := vl4 (s.extract 7 9) (by rw [ext_size s 7 9 (by omega)]; decide)
  have u1 := u8_lt s[1]
  have u2 := u8_lt s[2]
  rw [unp10 s hs]
  by_cases h : s[0] = 1
  · rw [if_pos h]; unfold vb kb; dsimp only; omega
  · rw [if_neg h]; unfold vb kb; dsimp only; omega
theorem cell_unpack (s : ByteArray) (w : World) (hs : s.size = 10) (U : VV) (hU : unp s.data.toList = U) :
    Calls Try.prog 27 #[.string s] w fun e w' => e = .returned (.agg #[.bool U.i, .int .i64 U.n, .int .i64 U.p, .int .i64 U.b, .int .i64 U.l, .int .i64 U.a, .int .i64 U.s]) ∧ Below w.heap.size w w' := by
  subst hU
  rw [unp10 s hs]
  by_cases h : s[0] = 1
  · rw [if_pos h]
    exact cell_unpack_key s w hs (by rw [h]; rfl)
  · rw [if_neg h]
    refine cell_unpack_num s w hs ?_
    rw [beq_eq_false_iff_ne]
    intro e
    exact h (u8_ext (by rw [e]; rfl))
/-- The ways of Read. -/
theorem read_short (s : ByteArray) (h : s.size < 10) : readV s = errV 4 := by
  unfold readV readL; rw [if_pos (by simpa using h)]
theorem read_long (s : ByteArray) (h : 10 < s.size) : readV s = errV 5 := by
  unfold readV readL; rw [if_neg (by simp; omega), if_pos (by simpa using h)]
theorem read_sum (s : ByteArray) (hs : s.size = 10) (h : ¬ s[9] = sumL (s.extract 0 9).data.toList) : readV s = errV 6 := by
  unfold readV readL
  rw [if_neg (by simp; omega), if_neg (by simp; omega), (last10 s hs).1, (last10 s hs).2, if_neg h]
theorem read_yes (s : ByteArray) (hs : s.size = 10) (h : s[9] = sumL (s.extract 0 9).data.toList) (U : VV) (hU : unp s.data.toList = U) (hp : packV U = s.data.toList) : readV s = U := by
  unfold readV readL
  rw [if_neg (by simp; omega), if_neg (by simp; omega), (last10 s hs).1, (last10 s hs).2, if_pos h, hU, if_pos hp]
theorem read_no (s : ByteArray) (hs : s.size = 10) (h : s[9] = sumL (s.extract 0 9).data.toList) (U : VV) (hU : unp s.data.toList = U) (hp : ¬ packV U = s.data.toList) : readV s = errV 5 := by
  unfold readV readL
  rw [if_neg (by simp; omega), if_neg (by simp; omega), (last10 s hs).1, (last10 s hs).2, if_pos h, hU, if_neg hp]
theorem sum_ne (s : ByteArray) (c : UInt8) : ((c.toNat : Int) == sumB s) = decide (c = sumL s.data.toList) := by
  rw [Bool.eq_iff_iff, beq_iff_eq, decide_eq_true_eq]
  unfold sumB
  constructor
  · exact fun h => u8_ext h
  · intro h; rw [h]
set_option maxHeartbeats 4000000 in
set_option maxRecDepth 100000 in
theorem cell_read_sum (s : ByteArray) (w : World) (hs : s.size = 10) (h : ¬ s[9] = sumL (s.extract 0 9).data.toList) :
    Calls Try.prog 14 #[.string s] w fun e w' => e = .returned (.tuple #[.agg #[.bool false, .int .i64 0, .int .i64 0, .int .i64 0, .int .i64 0, .int .i64 0, .int .i64 0], .int .i64 6]) ∧ Below w.heap.size w w' := by
  have e9 := ext_size s 0 9 (by omega)
  have hne : ((s[9].toNat : Int) == sumB (s.extract 0 9)) = false := by rw [sum_ne]; exact decide_eq_false h
  have hne2 : ¬ (s[9].toNat : Int) = sumB (s.extract 0 9) := by simpa using hne
  clear h
  go_enter Try.func14, Try.ntmps14
  go_wp2
  refine wp_region_held_drew (S := fun _ => True) (by kernel_rfl) trivial (fun hHeld => ?_)
  refine wpAnyH_take (i := 0) (v := .string s) rfl (by kernel_rfl) (by kernel_rfl) (by kernel_rfl) (fun _ _ _ h => h) (Or.inl ⟨by rfl, fun w hSw => by go_simp⟩) (by assumption) ?_
  try simp only [Act.put, List.setIfInBounds_toArray, List.set_cons_zero, List.set_cons_succ]
  refine wpAnyH_take (i := 1) (v := .int .u8 s[9].toNat) rfl (by kernel_rfl) (by kernel_rfl) (by kernel_rfl) (fun _ _ _ h => h) (Or.inl ⟨by rfl, fun w hSw => by go_simp⟩) (by assumption) ?_
  try simp only [Act.put, List.setIfInBounds_toArray, List.set_cons_zero, List.set_cons_succ]
  refine wpAnyH_take (i := 2) (v := .string s) rfl (by kernel_rfl) (by kernel_rfl) (by kernel_rfl) (fun _ _ _ h => h) (Or.inl ⟨by rfl, fun w hSw => by go_simp⟩) (by assumption) ?_
  try simp only [Act.put, List.setIfInBounds_toArray, List.set_cons_zero, List.set_cons_succ]
  refine wpAnyH_take (i := 3) (v := .string (s.extract 0 9)) rfl (by kernel_rfl) (by kernel_rfl) (by kernel_rfl) (fun _ _ _ h => h) (Or.inl ⟨by rfl, fun w hSw => by go_simp⟩) (by assumption) ?_
  try simp only [Act.put, List.setIfInBounds_toArray, List.set_cons_zero, List.set_cons_succ]
  refine wpAnyH_ready (rs := [4]) (by kernel_rfl) (by simp) (AllReadyH.cons rfl (fun K hK => ?_) AllReadyH.nil)
  go_simp
  refine (cell_sum' _ _ (by omega)).mono ?_
  rintro e w1 ⟨rfl, rfl⟩
  refine hK.out _ _ trivial (fun hHeld => ?_)
  clear hK K
  try simp only [Act.put, List.setIfInBounds_toArray, List.set_cons_zero, List.set_cons_succ]
  refine wpAnyH_take (i := 5) (v := .bool true) rfl (by kernel_rfl) (by kernel_rfl) (by kernel_rfl) (fun _ _ _ h => h) (Or.inl ⟨by rfl, fun w hSw => by go_simp⟩) (by assumption) ?_
  try simp only [Act.put, List.setIfInBounds_toArray, List.set_cons_zero, List.set_cons_succ]
  refine wpAnyH_done (by kernel_rfl) ?_ _
  go_wp2
  refine bodyPost_ret (v := .tuple #[.agg #[.bool false, .int .i64 0, .int .i64 0, .int .i64 0, .int .i64 0, .int .i64 0, .int .i64 0], .int .i64 6]) (by simp [results, Try.results14, go_sem]) rfl ⟨rfl, ?_⟩
  exact ((Below.refl _ _).alloc (Nat.le_refl _) _).drew
theorem box_drew {w : World} {k : Nat} {c : Array Value} (h : Box w k c) : Box w.drew k c := ⟨h.1, h.2.1, h.2.2⟩
theorem str_ne {a b : ByteArray} (h : ¬ a.data.toList = b.data.toList) : (a.toList == b.toList) = false := by
  rw [ByteArray.toList_eq, ByteArray.toList_eq]; simpa using h
theorem str_eq {a b : ByteArray} (h : a.data.toList = b.data.toList) : (a.toList == b.toList) = true := by
  rw [ByteArray.toList_eq, ByteArray.toList_eq]; simpa using h
set_option maxHeartbeats 4000000 in
set_option maxRecDepth 100000 in
theorem cell_read_no (s : ByteArray) (w : World) (hs : s.size = 10) (h : s[9] = sumL (s.extract 0 9).data.toList) (U : VV) (hU : unp s.data.toList = U) (hb : vb U.n U.p U.b U.l U.a U.s) (hp : ¬ packV U = s.data.toList) :
    Calls Try.prog 14 #[.string s] w fun e w' => e = .returned (.tuple #[.agg #[.bool false, .int .i64 0, .int .i64 0, .int .i64 0, .int .i64 0, .int .i64 0, .int .i64 0], .int .i64 5]) ∧ Below w.heap.size w w' := by
  have e9 := ext_size s 0 9 (by omega)
  have hne : (s[9].toNat : Int) = sumB (s.extract 0 9) := by unfold sumB; rw [h]
  have hpk : ((packB U.i U.n U.p U.b U.l U.a U.s).toList == s.toList) = false := str_ne (by unfold packB; exact hp)
  clear h hp
  cases hc : (chkV U.i U.n U.p U.b U.l U.a U.s == 0)
  all_goals
    go_enter Try.func14, Try.ntmps14
    go_wp2
    refine wp_region_held_drew (S := fun _ => True) (by kernel_rfl) trivial (fun hHeld => ?_)
    refine wpAnyH_take (i := 0) (v := .string s) rfl (by kernel_rfl) (by kernel_rfl) (by kernel_rfl) (fun _ _ _ h => h) (Or.inl ⟨by rfl, fun w hSw => by go_simp⟩) (by assumption) ?_
    try simp only [Act.put, List.setIfInBounds_toArray, List.set_cons_zero, List.set_cons_succ]
    refine wpAnyH_take (i := 1) (v := .int .u8 s[9].toNat) rfl (by kernel_rfl) (by kernel_rfl) (by kernel_rfl) (fun _ _ _ h => h) (Or.inl ⟨by rfl, fun w hSw => by go_simp⟩) (by assumption) ?_
    try simp only [Act.put, List.setIfInBounds_toArray, List.set_cons_zero, List.set_cons_succ]
    refine wpAnyH_take (i := 2) (v := .string s) rfl (by kernel_rfl) (by kernel_rfl) (by kernel_rfl) (fun _ _ _ h => h) (Or.inl ⟨by rfl, fun w hSw => by go_simp⟩) (by assumption) ?_
    try simp only [Act.put, List.setIfInBounds_toArray, List.set_cons_zero, List.set_cons_succ]
    refine wpAnyH_take (i := 3) (v := .string (s.extract 0 9)) rfl (by kernel_rfl) (by kernel_rfl) (by kernel_rfl) (fun _ _ _ h => h) (Or.inl ⟨by rfl, fun w hSw => by go_simp⟩) (by assumption) ?_
    try simp only [Act.put, List.setIfInBounds_toArray, List.set_cons_zero, List.set_cons_succ]
    refine wpAnyH_ready (rs := [4]) (by kernel_rfl) (by simp) (AllReadyH.cons rfl (fun K hK => ?_) AllReadyH.nil)
    go_simp
    refine (cell_sum' _ _ (by omega)).mono ?_
    rintro e w1 ⟨rfl, rfl⟩
    refine hK.out _ _ trivial (fun hHeld => ?_)
    clear hK K
    try simp only [Act.put, List.setIfInBounds_toArray, List.set_cons_zero, List.set_cons_succ]
    refine wpAnyH_take (i := 5) (v := .bool false) rfl (by kernel_rfl) (by kernel_rfl) (by kernel_rfl) (fun _ _ _ h => h) (Or.inl ⟨by rfl, fun w hSw => by go_simp⟩) (by assumption) ?_
    try simp only [Act.put, List.setIfInBounds_toArray, List.set_cons_zero, List.set_cons_succ]
    refine wpAnyH_done (by kernel_rfl) ?_ _
    go_wp2_with (first | (go_at_call 27; refine (cell_unpack s _ hs U hU).mono ?_; rintro e w2 ⟨rfl, hbb⟩; have B1 := (box_drew (Box.new _ _ _)).below hbb; have q1 := B1.cell; have f1 := B1.free; have z1 := B1.lt; have hB := Below.step0 ((Below.refl _ _).alloc (Nat.le_refl _) _).drew hbb; clear hbb) | (go_at_call 9; refine (cell_pack _ _ _ _ _ _ _ _ hb).mono ?_; rintro e w3 ⟨rfl, hbb⟩; replace B1 := (B1.alloc _).below hbb; clear q1 f1 z1; have q1 := B1.cell; have f1 := B1.free; have z1 := B1.lt; have B2 := (Box.new _ _ _).below hbb; have q2 := B2.cell; replace hB := Below.step0 (hB.alloc hB.size _) hbb; clear hbb))
    all_goals
      refine bodyPost_ret (v := .tuple #[.agg #[.bool false, .int .i64 0, .int .i64 0, .int .i64 0, .int .i64 0, .int .i64 0, .int .i64 0], .int .i64 5]) (by simp [results, Try.results14, go_sem, q1]) rfl ⟨rfl, ?_⟩
      exact (((((((hB.setCell (by simp) _).setCell (by simp) _).setCell (by simp) _).setCell (by simp) _).setCell (by simp) _).setCell (by simp) _).setCell (by simp) _)
set_option maxHeartbeats 4000000 in
set_option maxRecDepth 100000 in
theorem cell_read_yes (s : ByteArray) (w : World) (hs : s.size = 10) (h : s[9] = sumL (s.extract 0 9).data.toList) (U : VV) (hU : unp s.data.toList = U) (hb : vb U.n U.p U.b U.l U.a U.s) (hp : packV U = s.data.toList) :
    Calls Try.prog 14 #[.string s] w fun e w' => e = .returned (.tuple #[.agg #[.bool U.i, .int .i64 U.n, .int .i64 U.p, .int .i64 U.b, .int .i64 U.l, .int .i64 U.a, .int .i64 U.s], .int .i64 0]) ∧ Below w.heap.size w w' := by
  have e9 := ext_size s 0 9 (by omega)
  have hne : (s[9].toNat : Int) = sumB (s.extract 0 9) := by unfold sumB; rw [h]
  have hpk : ((packB U.i U.n U.p U.b U.l U.a U.s).toList == s.toList) = true := str_eq (by unfold packB; exact hp)
  have hc : chkV U.i U.n U.p U.b U.l U.a U.s = 0 := by
    by_cases hz : chkV U.i U.n U.p U.b U.l U.a U.s = 0
    · exact hz
    · unfold packV at hp
      rw [pack_no hz] at hp
      have h1 : s.data.toList.length = 10 := by simpa using hs
      rw [← hp] at h1
      cases h1
  clear h hp
  go_enter Try.func14, Try.ntmps14
  go_wp2
  refine wp_region_held_drew (S := fun _ => True) (by kernel_rfl) trivial (fun hHeld => ?_)
  refine wpAnyH_take (i := 0) (v := .string s) rfl (by kernel_rfl) (by kernel_rfl) (by kernel_rfl) (fun _ _ _ h => h) (Or.inl ⟨by rfl, fun w hSw => by go_simp⟩) (by assumption) ?_
  try simp only [Act.put, List.setIfInBounds_toArray, List.set_cons_zero, List.set_cons_succ]
  refine wpAnyH_take (i := 1) (v := .int .u8 s[9].toNat) rfl (by kernel_rfl) (by kernel_rfl) (by kernel_rfl) (fun _ _ _ h => h) (Or.inl ⟨by rfl, fun w hSw => by go_simp⟩) (by assumption) ?_
  try simp only [Act.put, List.setIfInBounds_toArray, List.set_cons_zero, List.set_cons_succ]
  refine wpAnyH_take (i := 2) (v := .string s) rfl (by kernel_rfl) (by kernel_rfl) (by kernel_rfl) (fun _ _ _ h => h) (Or.inl ⟨by rfl, fun w hSw => by go_simp⟩) (by assumption) ?_
  try simp only [Act.put, List.setIfInBounds_toArray, List.set_cons_zero, List.set_cons_succ]
  refine wpAnyH_take (i := 3) (v := .string (s.extract 0 9)) rfl (by kernel_rfl) (by kernel_rfl) (by kernel_rfl) (fun _ _ _ h => h) (Or.inl ⟨by rfl, fun w hSw => by go_simp⟩) (by assumption) ?_
  try simp only [Act.put, List.setIfInBounds_toArray, List.set_cons_zero, List.set_cons_succ]
  refine wpAnyH_ready (rs := [4]) (by kernel_rfl) (by simp) (AllReadyH.cons rfl (fun K hK => ?_) AllReadyH.nil)
  go_simp
  refine (cell_sum' _ _ (by omega)).mono ?_
  rintro e w1 ⟨rfl, rfl⟩
  refine hK.out _ _ trivial (fun hHeld => ?_)
  clear hK K
  try simp only [Act.put, List.setIfInBounds_toArray, List.set_cons_zero, List.set_cons_succ]
  refine wpAnyH_take (i := 5) (v := .bool false) rfl (by kernel_rfl) (by kernel_rfl) (by kernel_rfl) (fun _ _ _ h => h) (Or.inl ⟨by rfl, fun w hSw => by go_simp⟩) (by assumption) ?_
  try simp only [Act.put, List.setIfInBounds_toArray, List.set_cons_zero, List.set_cons_succ]
  refine wpAnyH_done (by kernel_rfl) ?_ _
  go_wp2_with (first | (go_at_call 27; refine (cell_unpack s _ hs U hU).mono ?_; rintro e w2 ⟨rfl, hbb⟩; have B1 := (box_drew (Box.new _ _ _)).below hbb; have q1 := B1.cell; have f1 := B1.free; have z1 := B1.lt; have hB := Below.step0 ((Below.refl _ _).alloc (Nat.le_refl _) _).drew hbb; clear hbb) | (go_at_call 9; refine (cell_pack _ _ _ _ _ _ _ _ hb).mono ?_; rintro e w3 ⟨rfl, hbb⟩; replace B1 := (B1.alloc _).below hbb; clear q1 f1 z1; have q1 := B1.cell; have f1 := B1.free; have z1 := B1.lt; have B2 := (Box.new _ _ _).below hbb; have q2 := B2.cell; replace hB := Below.step0 (hB.alloc hB.size _) hbb; clear hbb))
  refine bodyPost_ret (v := .tuple #[.agg #[.bool U.i, .int .i64 U.n, .int .i64 U.p, .int .i64 U.b, .int .i64 U.l, .int .i64 U.a, .int .i64 U.s], .int .i64 0]) (by simp [results, Try.results14, go_sem, q1]) rfl ⟨rfl, ?_⟩
  exact (((((((hB.setCell (by simp) _).setCell (by simp) _).setCell (by simp) _).setCell (by simp) _).setCell (by simp) _).setCell (by simp) _).setCell (by simp) _)
theorem cell_read (s : ByteArray) (w : World) (U : VV) (hU : readV s = U) :
    Calls Try.prog 14 #[.string s] w fun e w' => e = .returned (.tuple #[.agg #[.bool U.i, .int .i64 U.n, .int .i64 U.p, .int .i64 U.b, .int .i64 U.l, .int .i64 U.a, .int .i64 U.s], .int .i64 U.e]) ∧ Below w.heap.size w w' := by
  subst hU
  by_cases h1 : s.size < 10
  · rw [read_short s h1]
    show Calls _ _ _ _ fun e w' => e = .returned (.tuple #[.agg #[.bool false, .int .i64 0, .int .i64 0, .int .i64 0, .int .i64 0, .int .i64 0, .int .i64 0], .int .i64 4]) ∧ _
    go_enter Try.func14, Try.ntmps14
    go_wp2
    refine bodyPost_ret (v := .tuple #[.agg #[.bool false, .int .i64 0, .int .i64 0, .int .i64 0, .int .i64 0, .int .i64 0, .int .i64 0], .int .i64 4]) (by simp [results, Try.results14, go_sem]) rfl ⟨rfl, ?_⟩
    exact (Below.refl _ _).alloc (Nat.le_refl _) _
  by_cases h2 : 10 < s.size
  · rw [read_long s h2]
    show Calls _ _ _ _ fun e w' => e = .returned (.tuple #[.agg #[.bool false, .int .i64 0, .int .i64 0, .int .i64 0, .int .i64 0, .int .i64 0, .int .i64 0], .int .i64 5]) ∧ _
    clear h1
    go_enter Try.func14, Try.ntmps14
    go_wp2
    refine bodyPost_ret (v := .tuple #[.agg #[.bool false, .int .i64 0, .int .i64 0, .int .i64 0, .int .i64 0, .int .i64 0, .int .i64 0], .int .i64 5]) (by simp [results, Try.results14, go_sem]) rfl ⟨rfl, ?_⟩
    exact (Below.refl _ _).alloc (Nat.le_refl _) _
  have hs : s.size = 10 := by omega
  by_cases h3 : s[9] = sumL (s.extract 0 9).data.toList
  · by_cases h4 : packV (unp s.data.toList) = s.data.toList
    · rw [read_yes s hs h3 _ rfl h4]
      have he : (unp s.data.toList).e = 0 := by
        rw [unp10 s hs]
        by_cases hx : s[0] = 1
        · rw [if_pos hx]
        · rw [if_neg hx]
      rw [he]
      exact cell_read_yes s w hs h3 _ rfl (unp_vb s hs) h4
    · rw [read_no s hs h3 _ rfl h4]
      exact cell_read_no s w hs h3 _ rfl (unp_vb s hs) h4
  · rw [read_sum s hs h3]
    exact cell_read_sum s w hs h3
end Go.Proofs.Ytilbijocapmjbaa
