/- The document's own CellRead: for whatever text just the value that chapter 5 tells, or its error, in new memory. -/
import Derived.Test.YtilbijocapmjbaaRows
import Derived.Test.YtilbijocapmjbaaBits
import Derived.Test.YtilbijocapmjbaaKeyPure
import Derived.Test.YtilbijocapmjbaaKeyChk
import Derived.Test.YtilbijocapmjbaaCellPure
import Derived.Test.YtilbijocapmjbaaCellChk
import Derived.Test.YtilbijocapmjbaaCellBytes
import Derived.Test.YtilbijocapmjbaaCellPack
import Derived.Test.YtilbijocapmjbaaCellRead
import Derived.Test.YtilbijocapmjbaaCellRef
import Derived.WalkKit
import Derived.ProofKit
import Derived.OpenShut
import Derived.Deep.RegionHeld3
namespace Go.Proofs.Ytilbijocapmjbaa
open Go.ChangeShapes Go.WideShapes Go.ChangeAt Go.RowKit
set_option linter.unusedSimpArgs false

theorem ref_deep' (s : ByteArray) (w : World) (hs : s.size ≤ 4) :
    Calls Try.prog 28 #[.string s] w fun e w' => e = .returned (.int .i64 (valB s)) ∧ w' = w := ref_deep s w hs
set_option maxHeartbeats 4000000 in
set_option maxRecDepth 100000 in
theorem ref_read_sum (s : ByteArray) (w : World) (hs : s.size = 10) (h : ¬ s[9] = sumL (s.extract 0 9).data.toList) :
    Calls Try.prog 15 #[.string s] w fun e w' => e = .returned (.tuple #[.agg #[.bool false, .int .i64 0, .int .i64 0, .int .i64 0, .int .i64 0, .int .i64 0, .int .i64 0], .int .i64 6]) ∧ Below w.heap.size w w' := by
  obtain ⟨X, hX⟩ : ∃ X, X = sumI (s.extract 0 9).data.toList := ⟨_, rfl⟩
  have e9 := ext_size s 0 9 (by omega)
  have rm : X.tmod 256 = X % 256 := by rw [hX, sumI_rem]
  have u9 := u8_lt s[9]
  have x9 : IntKind.i64.wrap (s[9].toNat : Int) = s[9].toNat := by rw [IntKind.wrap_i64]; omega
  have HT : Hid (s.extract 0 9 = bL (s.extract 0 9).data.toList) := (rfl : s.extract 0 9 = bL (s.extract 0 9).data.toList)
  have HX : Hid (X = sumI (s.extract 0 9).data.toList) := hX
  have hl0 : (s.extract 0 9).data.toList.length ≤ 16 := by
    have : (s.extract 0 9).data.toList.length = (s.extract 0 9).size := by rw [Array.length_toList]; rfl
    omega
  have HL : Hid ((s.extract 0 9).data.toList.length ≤ 16) := hl0
  have hxs : X % 256 = ((sumL (s.extract 0 9).data.toList).toNat : Int) := by rw [← b8_sumI, b8_nat, hX]; omega
  have hne2 : ¬ X % (256 : Int) = (s[9].toNat : Int) := by rw [hxs]; exact fun e => h (u8_ext e.symm)
  have hne : ((X % (256 : Int)) == (s[9].toNat : Int)) = false := by simpa using hne2
  clear h hxs hX hl0
  go_enter Try.func15, Try.ntmps15
  go_wp2
  refine wp_region_held_drew (S := fun _ => True) (by kernel_rfl) trivial (fun hHeld => ?_)
  refine wpAnyH_take (i := 0) (v := .string s) rfl (by kernel_rfl) (by kernel_rfl) (by kernel_rfl) (fun _ _ _ h => h) (Or.inl ⟨by rfl, fun w hSw => by go_simp⟩) (by assumption) ?_
  try simp only [Act.put, List.getElem_toArray, List.getElem_cons_zero, List.getElem_cons_succ, List.setIfInBounds_toArray, List.set_cons_zero, List.set_cons_succ]
  refine wpAnyH_take (i := 1) (v := .string (s.extract 0 9)) rfl (by kernel_rfl) (by kernel_rfl) (by kernel_rfl) (fun _ _ _ h => h) (Or.inl ⟨by rfl, fun w hSw => by go_simp⟩) (by assumption) ?_
  try simp only [Act.put, List.getElem_toArray, List.getElem_cons_zero, List.getElem_cons_succ, List.setIfInBounds_toArray, List.set_cons_zero, List.set_cons_succ]
  refine wpAnyH_take (i := 4) (v := .string s) rfl (by kernel_rfl) (by kernel_rfl) (by kernel_rfl) (fun _ _ _ h => h) (Or.inl ⟨by rfl, fun w hSw => by go_simp⟩) (by assumption) ?_
  try simp only [Act.put, List.getElem_toArray, List.getElem_cons_zero, List.getElem_cons_succ, List.setIfInBounds_toArray, List.set_cons_zero, List.set_cons_succ]
  refine wpAnyH_take (i := 5) (v := .int .u8 s[9].toNat) rfl (by kernel_rfl) (by kernel_rfl) (by kernel_rfl) (fun _ _ _ h => h) (Or.inl ⟨by rfl, fun w hSw => by go_simp⟩) (by assumption) ?_
  try simp only [Act.put, List.getElem_toArray, List.getElem_cons_zero, List.getElem_cons_succ, List.setIfInBounds_toArray, List.set_cons_zero, List.set_cons_succ]
  refine wpAnyH_take (i := 6) (v := .int .i64 s[9].toNat) rfl (by kernel_rfl) (by kernel_rfl) (by kernel_rfl) (fun _ _ _ h => h) (Or.inl ⟨by rfl, fun w hSw => by go_simp⟩) (by assumption) ?_
  try simp only [Act.put, List.getElem_toArray, List.getElem_cons_zero, List.getElem_cons_succ, List.setIfInBounds_toArray, List.set_cons_zero, List.set_cons_succ]
  refine wpAnyH_ready (rs := [2]) (by kernel_rfl) (by simp) (AllReadyH.cons rfl (fun K hK => ?_) AllReadyH.nil)
  go_simp
  refine (ref_sumof' _ _ _ _ HL.out HT.out HX.out).mono ?_
  rintro e w1 ⟨rfl, rfl⟩
  refine hK.out _ _ trivial (fun hHeld => ?_)
  clear hK K
  try simp only [Act.put, List.getElem_toArray, List.getElem_cons_zero, List.getElem_cons_succ, List.setIfInBounds_toArray, List.set_cons_zero, List.set_cons_succ]
  refine wpAnyH_take (i := 3) (v := .int .i64 (X % 256)) rfl (by kernel_rfl) (by kernel_rfl) (by kernel_rfl) (fun _ _ _ h => h) (Or.inl ⟨by rfl, fun w hSw => by go_simp⟩) (by assumption) ?_
  try simp only [Act.put, List.getElem_toArray, List.getElem_cons_zero, List.getElem_cons_succ, List.setIfInBounds_toArray, List.set_cons_zero, List.set_cons_succ]
  refine wpAnyH_take (i := 7) (v := .bool true) rfl (by kernel_rfl) (by kernel_rfl) (by kernel_rfl) (fun _ _ _ h => h) (Or.inl ⟨by rfl, fun w hSw => by go_simp⟩) (by assumption) ?_
  try simp only [Act.put, List.getElem_toArray, List.getElem_cons_zero, List.getElem_cons_succ, List.setIfInBounds_toArray, List.set_cons_zero, List.set_cons_succ]
  refine wpAnyH_done (by kernel_rfl) ?_ _
  go_wp2
  refine bodyPost_ret (v := .tuple #[.agg #[.bool false, .int .i64 0, .int .i64 0, .int .i64 0, .int .i64 0, .int .i64 0, .int .i64 0], .int .i64 6]) (by simp [results, Try.results15, go_sem]) rfl ⟨rfl, ?_⟩
  exact ((Below.refl _ _).alloc (Nat.le_refl _) _).drew
set_option maxHeartbeats 4000000 in
set_option maxRecDepth 100000 in
theorem ref_read_in (s : ByteArray) (w : World) (hs : s.size = 10) (h : s[9] = sumL (s.extract 0 9).data.toList) (RV : VV)
    (HA : ((packB false (valB (s.extract 1 5) - 2147483648) 0 0 0 0 0).toList == s.toList) = true → RV = ⟨false, (valB (s.extract 1 5) - 2147483648), 0, 0, 0, 0, 0, 0⟩)
    (HB : ((packB false (valB (s.extract 1 5) - 2147483648) 0 0 0 0 0).toList == s.toList) = false → ((packB true 0 s[1].toNat (valB (s.extract 3 5)) (valB (s.extract 5 7)) (valB (s.extract 7 9)) s[2].toNat).toList == s.toList) = true → RV = ⟨true, 0, s[1].toNat, valB (s.extract 3 5), valB (s.extract 5 7), valB (s.extract 7 9), s[2].toNat, 0⟩)
    (HC : ((packB false (valB (s.extract 1 5) - 2147483648) 0 0 0 0 0).toList == s.toList) = false → ((packB true 0 s[1].toNat (valB (s.extract 3 5)) (valB (s.extract 5 7)) (valB (s.extract 7 9)) s[2].toNat).toList == s.toList) = false → RV = errV 5) :
    Calls Try.prog 15 #[.string s] w fun e w' => e = .returned (.tuple #[.agg #[.bool RV.i, .int .i64 RV.n, .int .i64 RV.p, .int .i64 RV.b, .int .i64 RV.l, .int .i64 RV.a, .int .i64 RV.s], .int .i64 RV.e]) ∧ Below w.heap.size w w' := by
  obtain ⟨X, hX⟩ : ∃ X, X = sumI (s.extract 0 9).data.toList := ⟨_, rfl⟩
  have e9 := ext_size s 0 9 (by omega)
  have rm : X.tmod 256 = X % 256 := by rw [hX, sumI_rem]
  have u9 := u8_lt s[9]
  have x9 : IntKind.i64.wrap (s[9].toNat : Int) = s[9].toNat := by rw [IntKind.wrap_i64]; omega
  have HT : Hid (s.extract 0 9 = bL (s.extract 0 9).data.toList) := (rfl : s.extract 0 9 = bL (s.extract 0 9).data.toList)
  have HX : Hid (X = sumI (s.extract 0 9).data.toList) := hX
  have hl0 : (s.extract 0 9).data.toList.length ≤ 16 := by
    have : (s.extract 0 9).data.toList.length = (s.extract 0 9).size := by rw [Array.length_toList]; rfl
    omega
  have HL : Hid ((s.extract 0 9).data.toList.length ≤ 16) := hl0
  have hxs : X % 256 = ((sumL (s.extract 0 9).data.toList).toNat : Int) := by rw [← b8_sumI, b8_nat, hX]; omega
  have hne : X % (256 : Int) = (s[9].toNat : Int) := by rw [hxs, h]
  have e1 := ext_size s 3 5 (by omega)
  have e2 := ext_size s 5 7 (by omega)
  have e3 := ext_size s 7 9 (by omega)
  have e4 := ext_size s 1 5 (by omega)
  have u1 := u8_lt s[1]
  have u2 := u8_lt s[2]
  have x1 : IntKind.i64.wrap (s[1].toNat : Int) = s[1].toNat := by rw [IntKind.wrap_i64]; omega
  have x2 : IntKind.i64.wrap (s[2].toNat : Int) = s[2].toNat := by rw [IntKind.wrap_i64]; omega
  have v4 := valB_lt (s.extract 1 5) (by omega)
  have x3 : IntKind.i64.wrap (valB (s.extract 1 5) - 2147483648) = valB (s.extract 1 5) - 2147483648 := by rw [IntKind.wrap_i64]; omega
  have cN : chkV false (valB (s.extract 1 5) - 2147483648) 0 0 0 0 0 = 0 := by
    show numE _ _ _ _ _ _ = 0
    unfold numE
    rw [if_pos (by omega), if_pos (by decide)]
  have HA' : Hid _ := HA
  have HB' : Hid _ := HB
  have HC' : Hid _ := HC
  clear h hxs hX hl0 HA HB HC
  go_enter Try.func15, Try.ntmps15
  go_wp2
  refine wp_region_held_drew (S := fun _ => True) (by kernel_rfl) trivial (fun hHeld => ?_)
  refine wpAnyH_take (i := 0) (v := .string s) rfl (by kernel_rfl) (by kernel_rfl) (by kernel_rfl) (fun _ _ _ h => h) (Or.inl ⟨by rfl, fun w hSw => by go_simp⟩) (by assumption) ?_
  try simp only [Act.put, List.getElem_toArray, List.getElem_cons_zero, List.getElem_cons_succ, List.setIfInBounds_toArray, List.set_cons_zero, List.set_cons_succ]
  refine wpAnyH_take (i := 1) (v := .string (s.extract 0 9)) rfl (by kernel_rfl) (by kernel_rfl) (by kernel_rfl) (fun _ _ _ h => h) (Or.inl ⟨by rfl, fun w hSw => by go_simp⟩) (by assumption) ?_
  try simp only [Act.put, List.getElem_toArray, List.getElem_cons_zero, List.getElem_cons_succ, List.setIfInBounds_toArray, List.set_cons_zero, List.set_cons_succ]
  refine wpAnyH_take (i := 4) (v := .string s) rfl (by kernel_rfl) (by kernel_rfl) (by kernel_rfl) (fun _ _ _ h => h) (Or.inl ⟨by rfl, fun w hSw => by go_simp⟩) (by assumption) ?_
  try simp only [Act.put, List.getElem_toArray, List.getElem_cons_zero, List.getElem_cons_succ, List.setIfInBounds_toArray, List.set_cons_zero, List.set_cons_succ]
  refine wpAnyH_take (i := 5) (v := .int .u8 s[9].toNat) rfl (by kernel_rfl) (by kernel_rfl) (by kernel_rfl) (fun _ _ _ h => h) (Or.inl ⟨by rfl, fun w hSw => by go_simp⟩) (by assumption) ?_
  try simp only [Act.put, List.getElem_toArray, List.getElem_cons_zero, List.getElem_cons_succ, List.setIfInBounds_toArray, List.set_cons_zero, List.set_cons_succ]
  refine wpAnyH_take (i := 6) (v := .int .i64 s[9].toNat) rfl (by kernel_rfl) (by kernel_rfl) (by kernel_rfl) (fun _ _ _ h => h) (Or.inl ⟨by rfl, fun w hSw => by go_simp⟩) (by assumption) ?_
  try simp only [Act.put, List.getElem_toArray, List.getElem_cons_zero, List.getElem_cons_succ, List.setIfInBounds_toArray, List.set_cons_zero, List.set_cons_succ]
  refine wpAnyH_ready (rs := [2]) (by kernel_rfl) (by simp) (AllReadyH.cons rfl (fun K hK => ?_) AllReadyH.nil)
  go_simp
  refine (ref_sumof' _ _ _ _ HL.out HT.out HX.out).mono ?_
  rintro e w1 ⟨rfl, rfl⟩
  refine hK.out _ _ trivial (fun hHeld => ?_)
  clear hK K
  try simp only [Act.put, List.getElem_toArray, List.getElem_cons_zero, List.getElem_cons_succ, List.setIfInBounds_toArray, List.set_cons_zero, List.set_cons_succ]
  refine wpAnyH_take (i := 3) (v := .int .i64 (X % 256)) rfl (by kernel_rfl) (by kernel_rfl) (by kernel_rfl) (fun _ _ _ h => h) (Or.inl ⟨by rfl, fun w hSw => by go_simp⟩) (by assumption) ?_
  try simp only [Act.put, List.getElem_toArray, List.getElem_cons_zero, List.getElem_cons_succ, List.setIfInBounds_toArray, List.set_cons_zero, List.set_cons_succ]
  refine wpAnyH_take (i := 7) (v := .bool false) rfl (by kernel_rfl) (by kernel_rfl) (by kernel_rfl) (fun _ _ _ h => h) (Or.inl ⟨by rfl, fun w hSw => by go_simp⟩) (by assumption) ?_
  try simp only [Act.put, List.getElem_toArray, List.getElem_cons_zero, List.getElem_cons_succ, List.setIfInBounds_toArray, List.set_cons_zero, List.set_cons_succ]
  refine wpAnyH_done (by kernel_rfl) ?_ _
  go_wp2
  refine wp_region_held_drew (S := fun _ => True) (by kernel_rfl) trivial (fun hHeld => ?_)
  refine wpAnyH_take (i := 0) (v := .string s) rfl (by kernel_rfl) (by kernel_rfl) (by kernel_rfl) (fun _ _ _ h => h) (Or.inl ⟨by rfl, fun w hSw => by go_simp⟩) (by assumption) ?_
  try simp only [Act.put, List.getElem_toArray, List.getElem_cons_zero, List.getElem_cons_succ, List.setIfInBounds_toArray, List.set_cons_zero, List.set_cons_succ]
  refine wpAnyH_take (i := 1) (v := .string (s.extract 1 5)) rfl (by kernel_rfl) (by kernel_rfl) (by kernel_rfl) (fun _ _ _ h => h) (Or.inl ⟨by rfl, fun w hSw => by go_simp⟩) (by assumption) ?_
  try simp only [Act.put, List.getElem_toArray, List.getElem_cons_zero, List.getElem_cons_succ, List.setIfInBounds_toArray, List.set_cons_zero, List.set_cons_succ]
  refine wpAnyH_take (i := 5) (v := .string s) rfl (by kernel_rfl) (by kernel_rfl) (by kernel_rfl) (fun _ _ _ h => h) (Or.inl ⟨by rfl, fun w hSw => by go_simp⟩) (by assumption) ?_
  try simp only [Act.put, List.getElem_toArray, List.getElem_cons_zero, List.getElem_cons_succ, List.setIfInBounds_toArray, List.set_cons_zero, List.set_cons_succ]
  refine wpAnyH_take (i := 6) (v := .int .u8 s[1].toNat) rfl (by kernel_rfl) (by kernel_rfl) (by kernel_rfl) (fun _ _ _ h => h) (Or.inl ⟨by rfl, fun w hSw => by go_simp⟩) (by assumption) ?_
  try simp only [Act.put, List.getElem_toArray, List.getElem_cons_zero, List.getElem_cons_succ, List.setIfInBounds_toArray, List.set_cons_zero, List.set_cons_succ]
  refine wpAnyH_take (i := 7) (v := .int .i64 s[1].toNat) rfl (by kernel_rfl) (by kernel_rfl) (by kernel_rfl) (fun _ _ _ h => h) (Or.inl ⟨by rfl, fun w hSw => by go_simp⟩) (by assumption) ?_
  try simp only [Act.put, List.getElem_toArray, List.getElem_cons_zero, List.getElem_cons_succ, List.setIfInBounds_toArray, List.set_cons_zero, List.set_cons_succ]
  refine wpAnyH_take (i := 8) (v := .string s) rfl (by kernel_rfl) (by kernel_rfl) (by kernel_rfl) (fun _ _ _ h => h) (Or.inl ⟨by rfl, fun w hSw => by go_simp⟩) (by assumption) ?_
  try simp only [Act.put, List.getElem_toArray, List.getElem_cons_zero, List.getElem_cons_succ, List.setIfInBounds_toArray, List.set_cons_zero, List.set_cons_succ]
  refine wpAnyH_take (i := 9) (v := .int .u8 s[2].toNat) rfl (by kernel_rfl) (by kernel_rfl) (by kernel_rfl) (fun _ _ _ h => h) (Or.inl ⟨by rfl, fun w hSw => by go_simp⟩) (by assumption) ?_
  try simp only [Act.put, List.getElem_toArray, List.getElem_cons_zero, List.getElem_cons_succ, List.setIfInBounds_toArray, List.set_cons_zero, List.set_cons_succ]
  refine wpAnyH_take (i := 10) (v := .int .i64 s[2].toNat) rfl (by kernel_rfl) (by kernel_rfl) (by kernel_rfl) (fun _ _ _ h => h) (Or.inl ⟨by rfl, fun w hSw => by go_simp⟩) (by assumption) ?_
  try simp only [Act.put, List.getElem_toArray, List.getElem_cons_zero, List.getElem_cons_succ, List.setIfInBounds_toArray, List.set_cons_zero, List.set_cons_succ]
  refine wpAnyH_take (i := 11) (v := .string s) rfl (by kernel_rfl) (by kernel_rfl) (by kernel_rfl) (fun _ _ _ h => h) (Or.inl ⟨by rfl, fun w hSw => by go_simp⟩) (by assumption) ?_
  try simp only [Act.put, List.getElem_toArray, List.getElem_cons_zero, List.getElem_cons_succ, List.setIfInBounds_toArray, List.set_cons_zero, List.set_cons_succ]
  refine wpAnyH_take (i := 12) (v := .string (s.extract 3 5)) rfl (by kernel_rfl) (by kernel_rfl) (by kernel_rfl) (fun _ _ _ h => h) (Or.inl ⟨by rfl, fun w hSw => by go_simp⟩) (by assumption) ?_
  try simp only [Act.put, List.getElem_toArray, List.getElem_cons_zero, List.getElem_cons_succ, List.setIfInBounds_toArray, List.set_cons_zero, List.set_cons_succ]
  refine wpAnyH_take (i := 14) (v := .string s) rfl (by kernel_rfl) (by kernel_rfl) (by kernel_rfl) (fun _ _ _ h => h) (Or.inl ⟨by rfl, fun w hSw => by go_simp⟩) (by assumption) ?_
  try simp only [Act.put, List.getElem_toArray, List.getElem_cons_zero, List.getElem_cons_succ, List.setIfInBounds_toArray, List.set_cons_zero, List.set_cons_succ]
  refine wpAnyH_take (i := 15) (v := .string (s.extract 5 7)) rfl (by kernel_rfl) (by kernel_rfl) (by kernel_rfl) (fun _ _ _ h => h) (Or.inl ⟨by rfl, fun w hSw => by go_simp⟩) (by assumption) ?_
  try simp only [Act.put, List.getElem_toArray, List.getElem_cons_zero, List.getElem_cons_succ, List.setIfInBounds_toArray, List.set_cons_zero, List.set_cons_succ]
  refine wpAnyH_take (i := 17) (v := .string s) rfl (by kernel_rfl) (by kernel_rfl) (by kernel_rfl) (fun _ _ _ h => h) (Or.inl ⟨by rfl, fun w hSw => by go_simp⟩) (by assumption) ?_
  try simp only [Act.put, List.getElem_toArray, List.getElem_cons_zero, List.getElem_cons_succ, List.setIfInBounds_toArray, List.set_cons_zero, List.set_cons_succ]
  refine wpAnyH_take (i := 18) (v := .string (s.extract 7 9)) rfl (by kernel_rfl) (by kernel_rfl) (by kernel_rfl) (fun _ _ _ h => h) (Or.inl ⟨by rfl, fun w hSw => by go_simp⟩) (by assumption) ?_
  try simp only [Act.put, List.getElem_toArray, List.getElem_cons_zero, List.getElem_cons_succ, List.setIfInBounds_toArray, List.set_cons_zero, List.set_cons_succ]
  refine wpAnyH_take (i := 24) (v := .int .i64 0) rfl (by kernel_rfl) (by kernel_rfl) (by kernel_rfl) (fun _ _ _ h => h) (Or.inl ⟨by rfl, fun w hSw => by go_simp⟩) (by assumption) ?_
  try simp only [Act.put, List.getElem_toArray, List.getElem_cons_zero, List.getElem_cons_succ, List.setIfInBounds_toArray, List.set_cons_zero, List.set_cons_succ]
  refine wpAnyH_ready (rs := [2]) (by kernel_rfl) (by simp) (AllReadyH.cons rfl (fun K hK => ?_) AllReadyH.nil)
  go_simp
  refine (ref_deep' _ _ (by omega)).mono ?_
  rintro e w1 ⟨rfl, rfl⟩
  refine hK.out _ _ trivial (fun hHeld => ?_)
  clear hK K
  try simp only [Act.put, List.getElem_toArray, List.getElem_cons_zero, List.getElem_cons_succ, List.setIfInBounds_toArray, List.set_cons_zero, List.set_cons_succ]
  refine wpAnyH_take (i := 3) (v := .int .i64 (valB (s.extract 1 5) - 2147483648)) rfl (by kernel_rfl) (by kernel_rfl) (by kernel_rfl) (fun _ _ _ h => h) (Or.inl ⟨by rfl, fun w hSw => by go_simp⟩) (by assumption) ?_
  try simp only [Act.put, List.getElem_toArray, List.getElem_cons_zero, List.getElem_cons_succ, List.setIfInBounds_toArray, List.set_cons_zero, List.set_cons_succ]
  refine wpAnyH_take (i := 4) (v := .agg #[.bool false, .int .i64 (valB (s.extract 1 5) - 2147483648), .int .i64 0, .int .i64 0, .int .i64 0, .int .i64 0, .int .i64 0]) rfl (by kernel_rfl) (by kernel_rfl) (by kernel_rfl) (fun _ _ _ h => h) (Or.inl ⟨by rfl, fun w hSw => by go_simp⟩) (by assumption) ?_
  try simp only [Act.put, List.getElem_toArray, List.getElem_cons_zero, List.getElem_cons_succ, List.setIfInBounds_toArray, List.set_cons_zero, List.set_cons_succ]
  refine wpAnyH_ready (rs := [13]) (by kernel_rfl) (by simp) (AllReadyH.cons rfl (fun K hK => ?_) AllReadyH.nil)
  go_simp
  refine (ref_deep' _ _ (by omega)).mono ?_
  rintro e w1 ⟨rfl, rfl⟩
  refine hK.out _ _ trivial (fun hHeld => ?_)
  clear hK K
  try simp only [Act.put, List.getElem_toArray, List.getElem_cons_zero, List.getElem_cons_succ, List.setIfInBounds_toArray, List.set_cons_zero, List.set_cons_succ]
  refine wpAnyH_ready (rs := [16]) (by kernel_rfl) (by simp) (AllReadyH.cons rfl (fun K hK => ?_) AllReadyH.nil)
  go_simp
  refine (ref_deep' _ _ (by omega)).mono ?_
  rintro e w1 ⟨rfl, rfl⟩
  refine hK.out _ _ trivial (fun hHeld => ?_)
  clear hK K
  try simp only [Act.put, List.getElem_toArray, List.getElem_cons_zero, List.getElem_cons_succ, List.setIfInBounds_toArray, List.set_cons_zero, List.set_cons_succ]
  refine wpAnyH_ready (rs := [19]) (by kernel_rfl) (by simp) (AllReadyH.cons rfl (fun K hK => ?_) AllReadyH.nil)
  go_simp
  refine (ref_deep' _ _ (by omega)).mono ?_
  rintro e w1 ⟨rfl, rfl⟩
  refine hK.out _ _ trivial (fun hHeld => ?_)
  clear hK K
  try simp only [Act.put, List.getElem_toArray, List.getElem_cons_zero, List.getElem_cons_succ, List.setIfInBounds_toArray, List.set_cons_zero, List.set_cons_succ]
  refine wpAnyH_take (i := 20) (v := .agg #[.int .i64 s[1].toNat, .int .i64 (valB (s.extract 3 5)), .int .i64 (valB (s.extract 5 7)), .int .i64 (valB (s.extract 7 9)), .int .i64 s[2].toNat]) rfl (by kernel_rfl) (by kernel_rfl) (by kernel_rfl) (fun _ _ _ h => h) (Or.inl ⟨by rfl, fun w hSw => by go_simp⟩) (by assumption) ?_
  try simp only [Act.put, List.getElem_toArray, List.getElem_cons_zero, List.getElem_cons_succ, List.setIfInBounds_toArray, List.set_cons_zero, List.set_cons_succ]
  refine wpAnyH_take (i := 21) (v := .agg #[.bool true, .int .i64 0, .int .i64 s[1].toNat, .int .i64 (valB (s.extract 3 5)), .int .i64 (valB (s.extract 5 7)), .int .i64 (valB (s.extract 7 9)), .int .i64 s[2].toNat]) rfl (by kernel_rfl) (by kernel_rfl) (by kernel_rfl) (fun _ _ _ h => h) (Or.inl ⟨by rfl, fun w hSw => by go_simp⟩) (by assumption) ?_
  try simp only [Act.put, List.getElem_toArray, List.getElem_cons_zero, List.getElem_cons_succ, List.setIfInBounds_toArray, List.set_cons_zero, List.set_cons_succ]
  refine wpAnyH_ready (rs := [22]) (by kernel_rfl) (by simp) (AllReadyH.cons rfl (fun K hK => ?_) AllReadyH.nil)
  go_simp
  refine hK.out _ _ trivial (fun hHeld => ?_)
  clear hK K
  try simp only [Act.put, List.getElem_toArray, List.getElem_cons_zero, List.getElem_cons_succ, List.setIfInBounds_toArray, List.set_cons_zero, List.set_cons_succ]
  refine wpAnyH_take (i := 23) (v := .int .i64 2) rfl (by kernel_rfl) (by kernel_rfl) (by kernel_rfl) (fun _ _ _ h => h) (Or.inl ⟨by rfl, fun w hSw => by go_simp⟩) (by assumption) ?_
  try simp only [Act.put, List.getElem_toArray, List.getElem_cons_zero, List.getElem_cons_succ, List.setIfInBounds_toArray, List.set_cons_zero, List.set_cons_succ]
  refine wpAnyH_done (by kernel_rfl) ?_ _
  clear e1 e2 e3 e4 e9 u1 u2 u9 x1 x2 x3 x9 v4 rm hne HT HX HL
  generalize valB (s.extract 1 5) - 2147483648 = m1 at *
  generalize (s[1].toNat : Int) = m2 at *
  generalize (s[2].toNat : Int) = m3 at *
  generalize valB (s.extract 3 5) = m4 at *
  generalize valB (s.extract 5 7) = m5 at *
  generalize valB (s.extract 7 9) = m6 at *
  have HS1 : Box ((w.alloc (.cells #[.bool false, .int .i64 0, .int .i64 0, .int .i64 0, .int .i64 0, .int .i64 0, .int .i64 0] 25)).alloc (.cells #[.bool false, .int .i64 m1, .int .i64 0, .int .i64 0, .int .i64 0, .int .i64 0, .int .i64 0, .bool true, .int .i64 0, .int .i64 m2, .int .i64 m4, .int .i64 m5, .int .i64 m6, .int .i64 m3] 25)).drew.drew w.heap.size #[.bool false, .int .i64 0, .int .i64 0, .int .i64 0, .int .i64 0, .int .i64 0, .int .i64 0] := box_drew (box_drew ((Box.new _ _ _).alloc _))
  have HS2 : Box ((w.alloc (.cells #[.bool false, .int .i64 0, .int .i64 0, .int .i64 0, .int .i64 0, .int .i64 0, .int .i64 0] 25)).alloc (.cells #[.bool false, .int .i64 m1, .int .i64 0, .int .i64 0, .int .i64 0, .int .i64 0, .int .i64 0, .bool true, .int .i64 0, .int .i64 m2, .int .i64 m4, .int .i64 m5, .int .i64 m6, .int .i64 m3] 25)).drew.drew (w.heap.size + 1) #[.bool false, .int .i64 m1, .int .i64 0, .int .i64 0, .int .i64 0, .int .i64 0, .int .i64 0, .bool true, .int .i64 0, .int .i64 m2, .int .i64 m4, .int .i64 m5, .int .i64 m6, .int .i64 m3] := box_drew (box_drew (Box.new1 _ _ _ _))
  have HS : Hid _ := And.intro HS1 HS2
  clear HS1 HS2
  go_wp2
  go_loopw [49] (fun i wr => ∃ k : Nat, k ≤ 2 ∧ i = .int .i64 (k : Int) ∧ Below w.heap.size w wr ∧ Box wr w.heap.size #[.bool false, .int .i64 0, .int .i64 0, .int .i64 0, .int .i64 0, .int .i64 0, .int .i64 0] ∧ Box wr (w.heap.size + 1) #[.bool false, .int .i64 m1, .int .i64 0, .int .i64 0, .int .i64 0, .int .i64 0, .int .i64 0, .bool true, .int .i64 0, .int .i64 m2, .int .i64 m4, .int .i64 m5, .int .i64 m6, .int .i64 m3] ∧ (1 ≤ k → ((packB false m1 0 0 0 0 0).toList == s.toList) = false) ∧ (2 ≤ k → ((packB true 0 m2 m4 m5 m6 m3).toList == s.toList) = false)) (fun i _ => 2 - (intOf i).toNat)
  case atStart => exact ⟨0, by decide, rfl, ((two _ _).drew).drew, HS.out.1, HS.out.2, fun h => absurd h (by decide), fun h => absurd h (by decide)⟩
  case round =>
    obtain ⟨k, hk, rfl, hB, B1, B2, hN0, hK0⟩ := hrel
    have q1 := B1.cell
    have f1 := B1.free
    have z1 := B1.lt
    have q2 := B2.cell
    have z2 := B2.lt
    clear HS
    have hk3 : k = 0 ∨ k = 1 ∨ k = 2 := by omega
    rcases hk3 with rfl | rfl | rfl
    · clear hN0 hK0
      cases hN : ((packB false m1 0 0 0 0 0).toList == s.toList)
      · go_wp2_with (go_at_call 10; refine (ref_pack _ _ _ _ _ _ _ _).mono ?_; simp only [cN]; rintro e w3 ⟨rfl, hbb⟩; replace B1 := (B1.alloc _).below hbb; replace B2 := (B2.alloc _).below hbb; clear q1 f1 z1 q2 z2; have q1 := B1.cell; have f1 := B1.free; have z1 := B1.lt; have B3 := (Box.new _ _ _).below hbb; have q3 := B3.cell; replace hB := Below.step0 (hB.alloc hB.size _) hbb; clear hbb)
        go_roundw
        case rel => exact ⟨1, by decide, by go_num, hB, B1, B2, fun _ => (by first | exact hN | trivial), fun h => absurd h (by decide)⟩
        case measure => simp [intOf]
      · go_wp2_with (go_at_call 10; refine (ref_pack _ _ _ _ _ _ _ _).mono ?_; simp only [cN]; rintro e w3 ⟨rfl, hbb⟩; replace B1 := (B1.alloc _).below hbb; replace B2 := (B2.alloc _).below hbb; clear q1 f1 z1 q2 z2; have q1 := B1.cell; have f1 := B1.free; have z1 := B1.lt; have B3 := (Box.new _ _ _).below hbb; have q3 := B3.cell; replace hB := Below.step0 (hB.alloc hB.size _) hbb; clear hbb)
        refine bodyPost_ret (v := .tuple #[.agg #[.bool false, .int .i64 m1, .int .i64 0, .int .i64 0, .int .i64 0, .int .i64 0, .int .i64 0], .int .i64 0]) (by simp [results, Try.results15, go_sem, q1]) rfl ⟨?_, (((((((hB.setCell (by simp) _).setCell (by simp) _).setCell (by simp) _).setCell (by simp) _).setCell (by simp) _).setCell (by simp) _).setCell (by simp) _)⟩
        rw [HA'.out hN]
        try rfl

    · have hN := hN0 (by decide)
      clear hN0 hK0
      cases hK : ((packB true 0 m2 m4 m5 m6 m3).toList == s.toList)
      · cases hc : (chkV true 0 m2 m4 m5 m6 m3 == 0)
        · go_wp2_with (go_at_call 10; refine (ref_pack _ _ _ _ _ _ _ _).mono ?_; rintro e w3 ⟨rfl, hbb⟩; replace B1 := (B1.alloc _).below hbb; replace B2 := (B2.alloc _).below hbb; clear q1 f1 z1 q2 z2; have q1 := B1.cell; have f1 := B1.free; have z1 := B1.lt; have B3 := (Box.new _ _ _).below hbb; have q3 := B3.cell; replace hB := Below.step0 (hB.alloc hB.size _) hbb; clear hbb)
          go_roundw
          case rel => exact ⟨2, by decide, by go_num, hB, B1, B2, fun _ => (by first | exact hN | trivial), fun _ => (by first | exact hK | trivial)⟩
          case measure => simp [intOf]
        · have hc0 : chkV true 0 m2 m4 m5 m6 m3 = 0 := by simpa using hc
          clear hc
          go_wp2_with (go_at_call 10; refine (ref_pack _ _ _ _ _ _ _ _).mono ?_; simp only [hc0]; rintro e w3 ⟨rfl, hbb⟩; replace B1 := (B1.alloc _).below hbb; replace B2 := (B2.alloc _).below hbb; clear q1 f1 z1 q2 z2; have q1 := B1.cell; have f1 := B1.free; have z1 := B1.lt; have B3 := (Box.new _ _ _).below hbb; have q3 := B3.cell; replace hB := Below.step0 (hB.alloc hB.size _) hbb; clear hbb)
          go_roundw
          case rel => exact ⟨2, by decide, by go_num, hB, B1, B2, fun _ => (by first | exact hN | trivial), fun _ => (by first | exact hK | trivial)⟩
          case measure => simp [intOf]
      · have hc0 : chkV true 0 m2 m4 m5 m6 m3 = 0 := by
          by_cases hz : chkV true 0 m2 m4 m5 m6 m3 = 0
          · exact hz
          · unfold packB at hK
            rw [pack_no hz, ByteArray.toList_eq, ByteArray.toList_eq] at hK
            have h1 : ([] : List UInt8) = s.data.toList := by simpa using hK
            have h2 : s.data.toList.length = 10 := by simpa using hs
            rw [← h1] at h2
            cases h2
        go_wp2_with (go_at_call 10; refine (ref_pack _ _ _ _ _ _ _ _).mono ?_; simp only [hc0]; rintro e w3 ⟨rfl, hbb⟩; replace B1 := (B1.alloc _).below hbb; replace B2 := (B2.alloc _).below hbb; clear q1 f1 z1 q2 z2; have q1 := B1.cell; have f1 := B1.free; have z1 := B1.lt; have B3 := (Box.new _ _ _).below hbb; have q3 := B3.cell; replace hB := Below.step0 (hB.alloc hB.size _) hbb; clear hbb)
        refine bodyPost_ret (v := .tuple #[.agg #[.bool true, .int .i64 0, .int .i64 m2, .int .i64 m4, .int .i64 m5, .int .i64 m6, .int .i64 m3], .int .i64 0]) (by simp [results, Try.results15, go_sem, q1]) rfl ⟨?_, (((((((hB.setCell (by simp) _).setCell (by simp) _).setCell (by simp) _).setCell (by simp) _).setCell (by simp) _).setCell (by simp) _).setCell (by simp) _)⟩
        rw [HB'.out hN hK]
        try rfl

    · have hN := hN0 (by decide)
      have hK := hK0 (by decide)
      clear hN0 hK0
      go_wp2
      refine bodyPost_ret (v := .tuple #[.agg #[.bool false, .int .i64 0, .int .i64 0, .int .i64 0, .int .i64 0, .int .i64 0, .int .i64 0], .int .i64 5]) (by simp [results, Try.results15, go_sem, q1]) rfl ⟨?_, (((((((hB.setCell (by simp) _).setCell (by simp) _).setCell (by simp) _).setCell (by simp) _).setCell (by simp) _).setCell (by simp) _).setCell (by simp) _)⟩
      rw [HC'.out hN hK]
      try rfl

theorem eq_list {a b : ByteArray} (h : (a.toList == b.toList) = true) : a.data.toList = b.data.toList := by
  rw [ByteArray.toList_eq, ByteArray.toList_eq] at h; simpa using h
theorem ne_list {a b : ByteArray} (h : (a.toList == b.toList) = false) : ¬ a.data.toList = b.data.toList := by
  rw [ByteArray.toList_eq, ByteArray.toList_eq] at h; simpa using h
theorem head_num (n : Int) (s : ByteArray) (hs : s.size = 10) (h : (packB false n 0 0 0 0 0).data.toList = s.data.toList) : ¬ s[0] = 1 := by
  have hc : chkV false n 0 0 0 0 0 = 0 := by
    by_cases hz : chkV false n 0 0 0 0 0 = 0
    · exact hz
    · unfold packB at h
      rw [pack_no hz] at h
      have h2 : s.data.toList.length = 10 := by simpa using hs
      rw [← h] at h2
      cases h2
  unfold packB at h
  rw [pack_yes hc] at h
  have h0 : s.data.toList[0]? = some 0 := by rw [← h]; rfl
  have h1 : s.data.toList[0]? = some s[0] := by
    rw [List.getElem?_eq_getElem (by simp; omega)]
    exact congrArg some (at_data s 0 (by omega))
  rw [h1] at h0
  intro e
  rw [e] at h0
  cases h0
theorem head_key (p b l a q : Int) (s : ByteArray) (hs : s.size = 10) (h : (packB true 0 p b l a q).data.toList = s.data.toList) : s[0] = 1 := by
  have hc : chkV true 0 p b l a q = 0 := by
    by_cases hz : chkV true 0 p b l a q = 0
    · exact hz
    · unfold packB at h
      rw [pack_no hz] at h
      have h2 : s.data.toList.length = 10 := by simpa using hs
      rw [← h] at h2
      cases h2
  unfold packB at h
  rw [pack_yes hc] at h
  have h0 : s.data.toList[0]? = some 1 := by rw [← h]; rfl
  have h1 : s.data.toList[0]? = some s[0] := by
    rw [List.getElem?_eq_getElem (by simp; omega)]
    exact congrArg some (at_data s 0 (by omega))
  rw [h1] at h0
  exact Option.some.inj h0
theorem ref_read (s : ByteArray) (w : World) (U : VV) (hU : readV s = U) :
    Calls Try.prog 15 #[.string s] w fun e w' => e = .returned (.tuple #[.agg #[.bool U.i, .int .i64 U.n, .int .i64 U.p, .int .i64 U.b, .int .i64 U.l, .int .i64 U.a, .int .i64 U.s], .int .i64 U.e]) ∧ Below w.heap.size w w' := by
  by_cases h1 : s.size < 10
  · rw [← hU, read_short s h1]
    show Calls _ _ _ _ fun e w' => e = .returned (.tuple #[.agg #[.bool false, .int .i64 0, .int .i64 0, .int .i64 0, .int .i64 0, .int .i64 0, .int .i64 0], .int .i64 4]) ∧ _
    go_enter Try.func15, Try.ntmps15
    go_wp2
    refine bodyPost_ret (v := .tuple #[.agg #[.bool false, .int .i64 0, .int .i64 0, .int .i64 0, .int .i64 0, .int .i64 0, .int .i64 0], .int .i64 4]) (by simp [results, Try.results15, go_sem]) rfl ⟨rfl, ?_⟩
    exact (Below.refl _ _).alloc (Nat.le_refl _) _
  by_cases h2 : 10 < s.size
  · rw [← hU, read_long s h2]
    show Calls _ _ _ _ fun e w' => e = .returned (.tuple #[.agg #[.bool false, .int .i64 0, .int .i64 0, .int .i64 0, .int .i64 0, .int .i64 0, .int .i64 0], .int .i64 5]) ∧ _
    clear h1
    go_enter Try.func15, Try.ntmps15
    go_wp2
    refine bodyPost_ret (v := .tuple #[.agg #[.bool false, .int .i64 0, .int .i64 0, .int .i64 0, .int .i64 0, .int .i64 0, .int .i64 0], .int .i64 5]) (by simp [results, Try.results15, go_sem]) rfl ⟨rfl, ?_⟩
    exact (Below.refl _ _).alloc (Nat.le_refl _) _
  have hs : s.size = 10 := by omega
  by_cases h3 : s[9] = sumL (s.extract 0 9).data.toList
  · refine ref_read_in s w hs h3 U ?_ ?_ ?_
    · intro hN
      have e1 := eq_list hN
      have e2 := head_num _ s hs e1
      have e3 := unp10 s hs
      rw [if_neg e2] at e3
      rw [← hU]
      exact read_yes s hs h3 _ e3 e1
    · intro _ hK
      have e1 := eq_list hK
      have e2 := head_key _ _ _ _ _ s hs e1
      have e3 := unp10 s hs
      rw [if_pos e2] at e3
      rw [← hU]
      exact read_yes s hs h3 _ e3 e1
    · intro hN hK
      have n1 := ne_list hN
      have n2 := ne_list hK
      have e3 := unp10 s hs
      rw [← hU]
      by_cases hx : s[0] = 1
      · rw [if_pos hx] at e3
        exact read_no s hs h3 _ e3 n2
      · rw [if_neg hx] at e3
        exact read_no s hs h3 _ e3 n1
  · rw [← hU, read_sum s hs h3]
    exact ref_read_sum s w hs h3
end Go.Proofs.Ytilbijocapmjbaa
