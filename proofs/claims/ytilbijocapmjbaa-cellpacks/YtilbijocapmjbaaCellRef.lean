/- The document's own CellPack: for whatever value just the bytes that chapter 5 tells, in new memory. -/
import Derived.Test.YtilbijocapmjbaaRows
import Derived.Test.YtilbijocapmjbaaBits
import Derived.Test.YtilbijocapmjbaaKeyPure
import Derived.Test.YtilbijocapmjbaaKeyChk
import Derived.Test.YtilbijocapmjbaaCellPure
import Derived.Test.YtilbijocapmjbaaCellChk
import Derived.Test.YtilbijocapmjbaaCellBytes
import Derived.Test.YtilbijocapmjbaaCellPack
import Derived.WalkKit
import Derived.ProofKit
import Derived.OpenShut
import Derived.Deep.RegionHeld3
namespace Go.Proofs.Ytilbijocapmjbaa
open Go.ChangeShapes Go.WideShapes Go.ChangeAt Go.RowKit
set_option linter.unusedSimpArgs false

/-- What of the memory is the same at whatever time: nothing old has turned, and these boxes hold what they held. -/
def Cls (w : World) (bs : List (Nat × Array Value)) (w' : World) : Prop := Below w.heap.size w w' ∧ ∀ x ∈ bs, Box w' x.1 x.2
theorem Cls.step {w w0 w1 : World} {bs : List (Nat × Array Value)} (h : Cls w bs w0) (hb : Below w0.heap.size w0 w1) : Cls w bs w1 :=
  ⟨Below.step0 h.1 hb, fun x hx => (h.2 x hx).below hb⟩
theorem Cls.drew {w w0 : World} {bs : List (Nat × Array Value)} (h : Cls w bs w0) : Cls w bs { w0 with drawn := w0.drawn + 1 } :=
  ⟨h.1.drew, fun x hx => ⟨(h.2 x hx).1, (h.2 x hx).2.1, (h.2 x hx).2.2⟩⟩
/-- Bytes as a text, shut. -/
def bL (l : List UInt8) : ByteArray := ⟨l.toArray⟩
theorem bL_add (x y : List UInt8) : bL x ++ bL y = bL (x ++ y) := ByteArray.mk_append_mk x y
theorem bL_size (x : List UInt8) : (bL x).size = x.length := by show x.toArray.size = _; simp
theorem bL_list (x : List UInt8) : (bL x).data.toList = x := by unfold bL; simp
def sumI (l : List UInt8) : Int := (sumN l : Int)
theorem sumI_rem (l : List UInt8) : (sumI l).tmod 256 = sumI l % 256 := Int.tmod_eq_emod_of_nonneg (by unfold sumI; omega)
theorem b8_sumI (l : List UInt8) : b8 (sumI l % 256) = sumL l := by rw [b8_mod _ (sumI l) (by omega)]; exact b8_sumN l
theorem ref_chr' (x : Int) (w : World) : Calls Try.prog 20 #[.int .i64 x] w fun e w' => e = .returned (.string (bL [b8 x])) ∧ Below w.heap.size w w' := ref_chr x w
theorem ref_high' (m : Nat) (x : Int) (w : World) (h0 : 0 ≤ x) (h1 : x ≤ 9223372036854775807) (hm : m ≤ 8) :
    Calls Try.prog 21 #[.int .i64 x, .int .i64 (m : Int)] w fun e w' => e = .returned (.string (bL (hiR x m))) ∧ Below w.heap.size w w' := ref_high m x w h0 h1 hm
theorem ref_sumof' (T : ByteArray) (X : Int) (l : List UInt8) (w : World) (hl : l.length ≤ 16) (hT : T = bL l) (hX : X = sumI l) :
    Calls Try.prog 22 #[.string T] w fun e w' => e = .returned (.int .i64 X) ∧ w' = w := by
  subst hT hX
  have h := ref_sumof (bL l) w (by rw [bL_size]; exact hl)
  rw [bL_list] at h
  exact h

set_option maxHeartbeats 4000000 in
set_option maxRecDepth 100000 in
theorem ref_pack_num (n p b l a s : Int) (w : World) (hc : chkV false n p b l a s = 0) :
    Calls Try.prog 10 #[.agg #[.bool false, .int .i64 n, .int .i64 p, .int .i64 b, .int .i64 l, .int .i64 a, .int .i64 s]] w fun e w' => e = .returned (.tuple #[.string (packB false n p b l a s), .int .i64 0]) ∧ Below w.heap.size w w' := by
  have hr := pack_ok hc
  have hP : Hid (packB false n p b l a s = bL ([b8 0] ++ hiR (n + 2147483648) 4 ++ hiR 0 4 ++ [b8 (sumI ([b8 0] ++ hiR (n + 2147483648) 4 ++ hiR 0 4) % 256)])) := by
    unfold packB; rw [pack_yes hc, b8_sumI, hiR_4, hiR_4]; rfl
  have hC0 : ∀ w', Cls w [(w.heap.size, #[.bool false, .int .i64 n, .int .i64 p, .int .i64 b, .int .i64 l, .int .i64 a, .int .i64 s])] w' → Box w' w.heap.size #[.bool false, .int .i64 n, .int .i64 p, .int .i64 b, .int .i64 l, .int .i64 a, .int .i64 s] := fun w' h => h.2 (w.heap.size, #[.bool false, .int .i64 n, .int .i64 p, .int .i64 b, .int .i64 l, .int .i64 a, .int .i64 s]) (by simp)
  have sz1 : (bL [b8 0]).size = 1 := bL_size _
  have sz2 : (bL (hiR (n + 2147483648) 4)).size = 4 := by rw [bL_size, hiR_len]
  have sz3 : (bL (hiR 0 4)).size = 4 := by rw [bL_size, hiR_len]
  obtain ⟨T1, hT1⟩ : ∃ T, T = bL ([b8 0] ++ hiR (n + 2147483648) 4) := ⟨_, rfl⟩
  obtain ⟨T2, hT2⟩ : ∃ T, T = bL ([b8 0] ++ hiR (n + 2147483648) 4 ++ hiR 0 4) := ⟨_, rfl⟩
  have ad1 : bL [b8 0] ++ bL (hiR (n + 2147483648) 4) = T1 := by rw [hT1, bL_add]
  have sz4 : T1.size = 5 := by rw [hT1, bL_size, List.length_append, hiR_len]; rfl
  have ad2 : T1 ++ bL (hiR 0 4) = T2 := by rw [hT1, hT2, bL_add]
  have sz5 : T2.size = 9 := by rw [hT2, bL_size, List.length_append, List.length_append, hiR_len, hiR_len]; rfl
  obtain ⟨X, hX⟩ : ∃ X, X = sumI ([b8 0] ++ hiR (n + 2147483648) 4 ++ hiR 0 4) := ⟨_, rfl⟩
  obtain ⟨T9, hT9⟩ : ∃ T, T = bL ([b8 0] ++ hiR (n + 2147483648) 4 ++ hiR 0 4 ++ [b8 (sumI ([b8 0] ++ hiR (n + 2147483648) 4 ++ hiR 0 4) % 256)]) := ⟨_, rfl⟩
  have rm : X.tmod 256 = X % 256 := by rw [hX, sumI_rem]
  have szX : (bL [b8 (X % 256)]).size = 1 := bL_size _
  have ad9 : T2 ++ bL [b8 (X % 256)] = T9 := by rw [hX, hT2, hT9, bL_add]
  have HT : Hid (T2 = bL ([b8 0] ++ hiR (n + 2147483648) 4 ++ hiR 0 4)) := hT2
  have HX : Hid (X = sumI ([b8 0] ++ hiR (n + 2147483648) 4 ++ hiR 0 4)) := hX
  have hl0 : ([b8 0] ++ hiR (n + 2147483648) 4 ++ hiR 0 4).length ≤ 16 := by simp [hiR_len]
  have HL : Hid (([b8 0] ++ hiR (n + 2147483648) 4 ++ hiR 0 4).length ≤ 16) := hl0
  clear hl0
  rw [hP.out, ← hT9]
  clear hX hT9 hP
  clear hT1 hT2
  have hadd : IntKind.i64.wrap (n + 2147483648) = n + 2147483648 := by rw [IntKind.wrap_i64]; omega
  go_enter Try.func10, Try.ntmps10
  go_wp2_with (go_at_call 12; refine (ref_cellcheck _ _ _ _ _ _ _ _).mono ?_; simp only [hc]; rintro e w1 ⟨rfl, hbb⟩; have B1 := (Box.new _ _ _).below hbb; have q1 := B1.cell; have hB := Below.step0 ((Below.refl _ _).alloc (Nat.le_refl _) _) hbb; clear hbb)
  have HC : Cls w [(w.heap.size, #[.bool false, .int .i64 n, .int .i64 p, .int .i64 b, .int .i64 l, .int .i64 a, .int .i64 s])] w1 := ⟨hB, fun x hx => by simp only [List.mem_cons, List.not_mem_nil, or_false] at hx; subst hx; exact B1⟩
  refine wp_region_held_drew (S := Cls w [(w.heap.size, #[.bool false, .int .i64 n, .int .i64 p, .int .i64 b, .int .i64 l, .int .i64 a, .int .i64 s])]) (by kernel_rfl) (Cls.drew HC) (fun hHeld => ?_)
  refine wpAnyH_take (i := 1) (v := .pointer (some ⟨w.heap.size, 1, none⟩)) rfl (by kernel_rfl) (by kernel_rfl) (by kernel_rfl) (fun _ _ _ h => h) (Or.inl ⟨by rfl, fun w hSw => by go_simp⟩) (by assumption) ?_
  try simp only [Act.put, List.setIfInBounds_toArray, List.set_cons_zero, List.set_cons_succ]
  refine wpAnyH_take (i := 2) (v := .int .i64 n) rfl (by kernel_rfl) (by kernel_rfl) (by kernel_rfl) (fun _ _ _ h => h) (Or.inl ⟨by rfl, fun w hSw => by have q := (hC0 _ hSw).cell; go_simp⟩) (by assumption) ?_
  try simp only [Act.put, List.setIfInBounds_toArray, List.set_cons_zero, List.set_cons_succ]
  refine wpAnyH_take (i := 3) (v := .int .i64 (n + 2147483648)) rfl (by kernel_rfl) (by kernel_rfl) (by kernel_rfl) (fun _ _ _ h => h) (Or.inl ⟨by rfl, fun w hSw => by go_simp⟩) (by assumption) ?_
  try simp only [Act.put, List.setIfInBounds_toArray, List.set_cons_zero, List.set_cons_succ]
  refine wpAnyH_ready (rs := [0]) (by kernel_rfl) (by simp) (AllReadyH.cons rfl (fun K hK => ?_) AllReadyH.nil)
  go_simp
  refine (ref_chr' _ _).mono ?_
  rintro e w1 ⟨rfl, hbb⟩
  refine hK.out _ _ (hHeld.step hbb) (fun hHeld => ?_)
  clear hK K hbb
  try simp only [Act.put, List.setIfInBounds_toArray, List.set_cons_zero, List.set_cons_succ]
  refine wpAnyH_ready (rs := [4]) (by kernel_rfl) (by simp) (AllReadyH.cons rfl (fun K hK => ?_) AllReadyH.nil)
  go_simp
  refine (ref_high' 4 _ _ (by omega) (by omega) (by omega)).mono ?_
  rintro e w1 ⟨rfl, hbb⟩
  refine hK.out _ _ (hHeld.step hbb) (fun hHeld => ?_)
  clear hK K hbb
  try simp only [Act.put, List.setIfInBounds_toArray, List.set_cons_zero, List.set_cons_succ]
  refine wpAnyH_take (i := 5) (v := .string T1) rfl (by kernel_rfl) (by kernel_rfl) (by kernel_rfl) (fun _ _ _ h => h) (Or.inl ⟨by rfl, fun w hSw => by go_simp⟩) (by assumption) ?_
  try simp only [Act.put, List.setIfInBounds_toArray, List.set_cons_zero, List.set_cons_succ]
  refine wpAnyH_ready (rs := [6]) (by kernel_rfl) (by simp) (AllReadyH.cons rfl (fun K hK => ?_) AllReadyH.nil)
  go_simp
  refine (ref_high' 4 _ _ (by omega) (by omega) (by omega)).mono ?_
  rintro e w1 ⟨rfl, hbb⟩
  refine hK.out _ _ (hHeld.step hbb) (fun hHeld => ?_)
  clear hK K hbb
  try simp only [Act.put, List.setIfInBounds_toArray, List.set_cons_zero, List.set_cons_succ]
  refine wpAnyH_take (i := 7) (v := .string T2) rfl (by kernel_rfl) (by kernel_rfl) (by kernel_rfl) (fun _ _ _ h => h) (Or.inl ⟨by rfl, fun w hSw => by go_simp⟩) (by assumption) ?_
  try simp only [Act.put, List.setIfInBounds_toArray, List.set_cons_zero, List.set_cons_succ]
  refine wpAnyH_take (i := 8) (v := .string T2) rfl (by kernel_rfl) (by kernel_rfl) (by kernel_rfl) (fun _ _ _ h => h) (Or.inl ⟨by rfl, fun w hSw => by go_simp⟩) (by assumption) ?_
  try simp only [Act.put, List.setIfInBounds_toArray, List.set_cons_zero, List.set_cons_succ]
  refine wpAnyH_done (by kernel_rfl) ?_ _
  clear q1 B1 HC hB
  have B1 := hC0 _ hHeld
  have q1 := B1.cell
  have z1 := B1.lt
  have hB := hHeld.1
  clear hHeld
  go_wp2_with (first | (go_at_call 22; refine (ref_sumof' _ _ _ _ HL.out HT.out HX.out).mono ?_; rintro e w5 ⟨rfl, rfl⟩) | (go_at_call 20; refine (ref_chr' _ _).mono ?_; rintro e w6 ⟨rfl, hbb⟩; replace hB := Below.step0 (hB.alloc hB.size _) hbb; clear hbb))
  go_ret2
  exact ⟨rfl, hB⟩

set_option maxHeartbeats 4000000 in
set_option maxRecDepth 100000 in
theorem ref_pack_key (n p b l a s : Int) (w : World) (hc : chkV true n p b l a s = 0) :
    Calls Try.prog 10 #[.agg #[.bool true, .int .i64 n, .int .i64 p, .int .i64 b, .int .i64 l, .int .i64 a, .int .i64 s]] w fun e w' => e = .returned (.tuple #[.string (packB true n p b l a s), .int .i64 0]) ∧ Below w.heap.size w w' := by
  have hr := pack_ok hc
  have ho := ok_lit (keyE_ok hc).2
  have hP : Hid (packB true n p b l a s = bL ([b8 1] ++ [b8 p] ++ [b8 s] ++ hiR b 2 ++ hiR l 2 ++ hiR a 2 ++ [b8 (sumI ([b8 1] ++ [b8 p] ++ [b8 s] ++ hiR b 2 ++ hiR l 2 ++ hiR a 2) % 256)])) := by
    unfold packB; rw [pack_yes hc, b8_sumI, hiR_2, hiR_2, hiR_2]; rfl
  have hC0 : ∀ w', Cls w [(w.heap.size, #[.bool true, .int .i64 n, .int .i64 p, .int .i64 b, .int .i64 l, .int .i64 a, .int .i64 s])] w' → Box w' w.heap.size #[.bool true, .int .i64 n, .int .i64 p, .int .i64 b, .int .i64 l, .int .i64 a, .int .i64 s] := fun w' h => h.2 (w.heap.size, #[.bool true, .int .i64 n, .int .i64 p, .int .i64 b, .int .i64 l, .int .i64 a, .int .i64 s]) (by simp)
  have sz1 : (bL [b8 0]).size = 1 := bL_size _
  have sz2 : (bL (hiR (n + 2147483648) 4)).size = 4 := by rw [bL_size, hiR_len]
  have sz3 : (bL (hiR 0 4)).size = 4 := by rw [bL_size, hiR_len]
  obtain ⟨T1, hT1⟩ : ∃ T, T = bL ([b8 0] ++ hiR (n + 2147483648) 4) := ⟨_, rfl⟩
  obtain ⟨T2, hT2⟩ : ∃ T, T = bL ([b8 0] ++ hiR (n + 2147483648) 4 ++ hiR 0 4) := ⟨_, rfl⟩
  have ad1 : bL [b8 0] ++ bL (hiR (n + 2147483648) 4) = T1 := by rw [hT1, bL_add]
  have sz4 : T1.size = 5 := by rw [hT1, bL_size, List.length_append, hiR_len]; rfl
  have ad2 : T1 ++ bL (hiR 0 4) = T2 := by rw [hT1, hT2, bL_add]
  clear hT1 hT2
  obtain ⟨U1, hU1⟩ : ∃ T, T = bL ([b8 1] ++ [b8 p]) := ⟨_, rfl⟩
  obtain ⟨U2, hU2⟩ : ∃ T, T = bL ([b8 1] ++ [b8 p] ++ [b8 s]) := ⟨_, rfl⟩
  obtain ⟨U3, hU3⟩ : ∃ T, T = bL ([b8 1] ++ [b8 p] ++ [b8 s] ++ hiR b 2) := ⟨_, rfl⟩
  obtain ⟨U4, hU4⟩ : ∃ T, T = bL ([b8 1] ++ [b8 p] ++ [b8 s] ++ hiR b 2 ++ hiR l 2) := ⟨_, rfl⟩
  obtain ⟨U5, hU5⟩ : ∃ T, T = bL ([b8 1] ++ [b8 p] ++ [b8 s] ++ hiR b 2 ++ hiR l 2 ++ hiR a 2) := ⟨_, rfl⟩
  have sy0 : (bL ([b8 1])).size = 1 := by rw [bL_size]; rfl
  have sy1 : (bL ([b8 p])).size = 1 := by rw [bL_size]; rfl
  have sy2 : (bL ([b8 s])).size = 1 := by rw [bL_size]; rfl
  have sy3 : (bL (hiR b 2)).size = 2 := by rw [bL_size, hiR_len]
  have sy4 : (bL (hiR l 2)).size = 2 := by rw [bL_size, hiR_len]
  have sy5 : (bL (hiR a 2)).size = 2 := by rw [bL_size, hiR_len]
  have ay1 : bL [b8 1] ++ bL ([b8 p]) = U1 := by rw [hU1, bL_add]
  have sk1 : U1.size = 2 := by rw [hU1, bL_size]; simp [hiR_len]
  have ay2 : U1 ++ bL ([b8 s]) = U2 := by rw [hU1, hU2, bL_add]
  have sk2 : U2.size = 3 := by rw [hU2, bL_size]; simp [hiR_len]
  have ay3 : U2 ++ bL (hiR b 2) = U3 := by rw [hU2, hU3, bL_add]
  have sk3 : U3.size = 5 := by rw [hU3, bL_size]; simp [hiR_len]
  have ay4 : U3 ++ bL (hiR l 2) = U4 := by rw [hU3, hU4, bL_add]
  have sk4 : U4.size = 7 := by rw [hU4, bL_size]; simp [hiR_len]
  have ay5 : U4 ++ bL (hiR a 2) = U5 := by rw [hU4, hU5, bL_add]
  have sk5 : U5.size = 9 := by rw [hU5, bL_size]; simp [hiR_len]
  obtain ⟨X, hX⟩ : ∃ X, X = sumI ([b8 1] ++ [b8 p] ++ [b8 s] ++ hiR b 2 ++ hiR l 2 ++ hiR a 2) := ⟨_, rfl⟩
  obtain ⟨T9, hT9⟩ : ∃ T, T = bL ([b8 1] ++ [b8 p] ++ [b8 s] ++ hiR b 2 ++ hiR l 2 ++ hiR a 2 ++ [b8 (sumI ([b8 1] ++ [b8 p] ++ [b8 s] ++ hiR b 2 ++ hiR l 2 ++ hiR a 2) % 256)]) := ⟨_, rfl⟩
  have rm : X.tmod 256 = X % 256 := by rw [hX, sumI_rem]
  have szX : (bL [b8 (X % 256)]).size = 1 := bL_size _
  have ad9 : U5 ++ bL [b8 (X % 256)] = T9 := by rw [hX, hU5, hT9, bL_add]
  have HT : Hid (U5 = bL ([b8 1] ++ [b8 p] ++ [b8 s] ++ hiR b 2 ++ hiR l 2 ++ hiR a 2)) := hU5
  have HX : Hid (X = sumI ([b8 1] ++ [b8 p] ++ [b8 s] ++ hiR b 2 ++ hiR l 2 ++ hiR a 2)) := hX
  have hl0 : ([b8 1] ++ [b8 p] ++ [b8 s] ++ hiR b 2 ++ hiR l 2 ++ hiR a 2).length ≤ 16 := by simp [hiR_len]
  have HL : Hid (([b8 1] ++ [b8 p] ++ [b8 s] ++ hiR b 2 ++ hiR l 2 ++ hiR a 2).length ≤ 16) := hl0
  clear hl0
  rw [hP.out, ← hT9]
  clear hX hT9 hP
  clear hU1 hU2 hU3 hU4 hU5
  have hadd : IntKind.i64.wrap (n + 2147483648) = n + 2147483648 := by rw [IntKind.wrap_i64]; omega
  go_enter Try.func10, Try.ntmps10
  go_wp2_with (go_at_call 12; refine (ref_cellcheck _ _ _ _ _ _ _ _).mono ?_; simp only [hc]; rintro e w1 ⟨rfl, hbb⟩; have B1 := (Box.new _ _ _).below hbb; have q1 := B1.cell; have hB := Below.step0 ((Below.refl _ _).alloc (Nat.le_refl _) _) hbb; clear hbb)
  have HC : Cls w [(w.heap.size, #[.bool true, .int .i64 n, .int .i64 p, .int .i64 b, .int .i64 l, .int .i64 a, .int .i64 s])] w1 := ⟨hB, fun x hx => by simp only [List.mem_cons, List.not_mem_nil, or_false] at hx; subst hx; exact B1⟩
  refine wp_region_held_drew (S := Cls w [(w.heap.size, #[.bool true, .int .i64 n, .int .i64 p, .int .i64 b, .int .i64 l, .int .i64 a, .int .i64 s])]) (by kernel_rfl) (Cls.drew HC) (fun hHeld => ?_)
  refine wpAnyH_take (i := 1) (v := .pointer (some ⟨w.heap.size, 1, none⟩)) rfl (by kernel_rfl) (by kernel_rfl) (by kernel_rfl) (fun _ _ _ h => h) (Or.inl ⟨by rfl, fun w hSw => by go_simp⟩) (by assumption) ?_
  try simp only [Act.put, List.setIfInBounds_toArray, List.set_cons_zero, List.set_cons_succ]
  refine wpAnyH_take (i := 2) (v := .int .i64 n) rfl (by kernel_rfl) (by kernel_rfl) (by kernel_rfl) (fun _ _ _ h => h) (Or.inl ⟨by rfl, fun w hSw => by have q := (hC0 _ hSw).cell; go_simp⟩) (by assumption) ?_
  try simp only [Act.put, List.setIfInBounds_toArray, List.set_cons_zero, List.set_cons_succ]
  refine wpAnyH_take (i := 3) (v := .int .i64 (n + 2147483648)) rfl (by kernel_rfl) (by kernel_rfl) (by kernel_rfl) (fun _ _ _ h => h) (Or.inl ⟨by rfl, fun w hSw => by go_simp⟩) (by assumption) ?_
  try simp only [Act.put, List.setIfInBounds_toArray, List.set_cons_zero, List.set_cons_succ]
  refine wpAnyH_ready (rs := [0]) (by kernel_rfl) (by simp) (AllReadyH.cons rfl (fun K hK => ?_) AllReadyH.nil)
  go_simp
  refine (ref_chr' _ _).mono ?_
  rintro e w1 ⟨rfl, hbb⟩
  refine hK.out _ _ (hHeld.step hbb) (fun hHeld => ?_)
  clear hK K hbb
  try simp only [Act.put, List.setIfInBounds_toArray, List.set_cons_zero, List.set_cons_succ]
  refine wpAnyH_ready (rs := [4]) (by kernel_rfl) (by simp) (AllReadyH.cons rfl (fun K hK => ?_) AllReadyH.nil)
  go_simp
  refine (ref_high' 4 _ _ (by omega) (by omega) (by omega)).mono ?_
  rintro e w1 ⟨rfl, hbb⟩
  refine hK.out _ _ (hHeld.step hbb) (fun hHeld => ?_)
  clear hK K hbb
  try simp only [Act.put, List.setIfInBounds_toArray, List.set_cons_zero, List.set_cons_succ]
  refine wpAnyH_take (i := 5) (v := .string T1) rfl (by kernel_rfl) (by kernel_rfl) (by kernel_rfl) (fun _ _ _ h => h) (Or.inl ⟨by rfl, fun w hSw => by go_simp⟩) (by assumption) ?_
  try simp only [Act.put, List.setIfInBounds_toArray, List.set_cons_zero, List.set_cons_succ]
  refine wpAnyH_ready (rs := [6]) (by kernel_rfl) (by simp) (AllReadyH.cons rfl (fun K hK => ?_) AllReadyH.nil)
  go_simp
  refine (ref_high' 4 _ _ (by omega) (by omega) (by omega)).mono ?_
  rintro e w1 ⟨rfl, hbb⟩
  refine hK.out _ _ (hHeld.step hbb) (fun hHeld => ?_)
  clear hK K hbb
  try simp only [Act.put, List.setIfInBounds_toArray, List.set_cons_zero, List.set_cons_succ]
  refine wpAnyH_take (i := 7) (v := .string T2) rfl (by kernel_rfl) (by kernel_rfl) (by kernel_rfl) (fun _ _ _ h => h) (Or.inl ⟨by rfl, fun w hSw => by go_simp⟩) (by assumption) ?_
  try simp only [Act.put, List.setIfInBounds_toArray, List.set_cons_zero, List.set_cons_succ]
  refine wpAnyH_take (i := 8) (v := .string T2) rfl (by kernel_rfl) (by kernel_rfl) (by kernel_rfl) (fun _ _ _ h => h) (Or.inl ⟨by rfl, fun w hSw => by go_simp⟩) (by assumption) ?_
  try simp only [Act.put, List.setIfInBounds_toArray, List.set_cons_zero, List.set_cons_succ]
  refine wpAnyH_done (by kernel_rfl) ?_ _
  clear q1 B1 HC hB
  have B1 := hC0 _ hHeld
  have q1 := B1.cell
  have z1 := B1.lt
  have hB := hHeld.1
  have HC2 : Cls w [(w.heap.size, #[.bool true, .int .i64 n, .int .i64 p, .int .i64 b, .int .i64 l, .int .i64 a, .int .i64 s]), (w1.heap.size, #[.int .i64 p, .int .i64 b, .int .i64 l, .int .i64 a, .int .i64 s])] (w1.alloc (.cells #[.int .i64 p, .int .i64 b, .int .i64 l, .int .i64 a, .int .i64 s] 23)) := by
    refine ⟨hB.alloc hB.size _, fun x hx => ?_⟩
    simp only [List.mem_cons, List.not_mem_nil, or_false] at hx
    rcases hx with rfl | rfl
    · exact B1.alloc _
    · exact Box.new _ _ _
  have hC1 : ∀ w', Cls w [(w.heap.size, #[.bool true, .int .i64 n, .int .i64 p, .int .i64 b, .int .i64 l, .int .i64 a, .int .i64 s]), (w1.heap.size, #[.int .i64 p, .int .i64 b, .int .i64 l, .int .i64 a, .int .i64 s])] w' → Box w' w1.heap.size #[.int .i64 p, .int .i64 b, .int .i64 l, .int .i64 a, .int .i64 s] := fun w' h => h.2 (w1.heap.size, #[.int .i64 p, .int .i64 b, .int .i64 l, .int .i64 a, .int .i64 s]) (by simp)
  clear hHeld
  go_wp2
  refine wp_region_held_drew (S := Cls w [(w.heap.size, #[.bool true, .int .i64 n, .int .i64 p, .int .i64 b, .int .i64 l, .int .i64 a, .int .i64 s]), (w1.heap.size, #[.int .i64 p, .int .i64 b, .int .i64 l, .int .i64 a, .int .i64 s])]) (by kernel_rfl) (Cls.drew HC2) (fun hHeld => ?_)
  refine wpAnyH_take (i := 1) (v := .pointer (some ⟨w1.heap.size, 0, none⟩)) rfl (by kernel_rfl) (by kernel_rfl) (by kernel_rfl) (fun _ _ _ h => h) (Or.inl ⟨by rfl, fun w hSw => by go_simp⟩) (by assumption) ?_
  try simp only [Act.put, List.setIfInBounds_toArray, List.set_cons_zero, List.set_cons_succ]
  refine wpAnyH_take (i := 2) (v := .int .i64 p) rfl (by kernel_rfl) (by kernel_rfl) (by kernel_rfl) (fun _ _ _ h => h) (Or.inl ⟨by rfl, fun w hSw => by have q := (hC1 _ hSw).cell; go_simp⟩) (by assumption) ?_
  try simp only [Act.put, List.setIfInBounds_toArray, List.set_cons_zero, List.set_cons_succ]
  refine wpAnyH_take (i := 5) (v := .pointer (some ⟨w1.heap.size, 4, none⟩)) rfl (by kernel_rfl) (by kernel_rfl) (by kernel_rfl) (fun _ _ _ h => h) (Or.inl ⟨by rfl, fun w hSw => by go_simp⟩) (by assumption) ?_
  try simp only [Act.put, List.setIfInBounds_toArray, List.set_cons_zero, List.set_cons_succ]
  refine wpAnyH_take (i := 6) (v := .int .i64 s) rfl (by kernel_rfl) (by kernel_rfl) (by kernel_rfl) (fun _ _ _ h => h) (Or.inl ⟨by rfl, fun w hSw => by have q := (hC1 _ hSw).cell; go_simp⟩) (by assumption) ?_
  try simp only [Act.put, List.setIfInBounds_toArray, List.set_cons_zero, List.set_cons_succ]
  refine wpAnyH_take (i := 9) (v := .pointer (some ⟨w1.heap.size, 1, none⟩)) rfl (by kernel_rfl) (by kernel_rfl) (by kernel_rfl) (fun _ _ _ h => h) (Or.inl ⟨by rfl, fun w hSw => by go_simp⟩) (by assumption) ?_
  try simp only [Act.put, List.setIfInBounds_toArray, List.set_cons_zero, List.set_cons_succ]
  refine wpAnyH_take (i := 10) (v := .int .i64 b) rfl (by kernel_rfl) (by kernel_rfl) (by kernel_rfl) (fun _ _ _ h => h) (Or.inl ⟨by rfl, fun w hSw => by have q := (hC1 _ hSw).cell; go_simp⟩) (by assumption) ?_
  try simp only [Act.put, List.setIfInBounds_toArray, List.set_cons_zero, List.set_cons_succ]
  refine wpAnyH_take (i := 13) (v := .pointer (some ⟨w1.heap.size, 2, none⟩)) rfl (by kernel_rfl) (by kernel_rfl) (by kernel_rfl) (fun _ _ _ h => h) (Or.inl ⟨by rfl, fun w hSw => by go_simp⟩) (by assumption) ?_
  try simp only [Act.put, List.setIfInBounds_toArray, List.set_cons_zero, List.set_cons_succ]
  refine wpAnyH_take (i := 14) (v := .int .i64 l) rfl (by kernel_rfl) (by kernel_rfl) (by kernel_rfl) (fun _ _ _ h => h) (Or.inl ⟨by rfl, fun w hSw => by have q := (hC1 _ hSw).cell; go_simp⟩) (by assumption) ?_
  try simp only [Act.put, List.setIfInBounds_toArray, List.set_cons_zero, List.set_cons_succ]
  refine wpAnyH_take (i := 17) (v := .pointer (some ⟨w1.heap.size, 3, none⟩)) rfl (by kernel_rfl) (by kernel_rfl) (by kernel_rfl) (fun _ _ _ h => h) (Or.inl ⟨by rfl, fun w hSw => by go_simp⟩) (by assumption) ?_
  try simp only [Act.put, List.setIfInBounds_toArray, List.set_cons_zero, List.set_cons_succ]
  refine wpAnyH_take (i := 18) (v := .int .i64 a) rfl (by kernel_rfl) (by kernel_rfl) (by kernel_rfl) (fun _ _ _ h => h) (Or.inl ⟨by rfl, fun w hSw => by have q := (hC1 _ hSw).cell; go_simp⟩) (by assumption) ?_
  try simp only [Act.put, List.setIfInBounds_toArray, List.set_cons_zero, List.set_cons_succ]
  refine wpAnyH_ready (rs := [0]) (by kernel_rfl) (by simp) (AllReadyH.cons rfl (fun K hK => ?_) AllReadyH.nil)
  go_simp
  refine (ref_chr' _ _).mono ?_
  rintro e w2 ⟨rfl, hbb⟩
  refine hK.out _ _ (hHeld.step hbb) (fun hHeld => ?_)
  clear hK K hbb
  try simp only [Act.put, List.setIfInBounds_toArray, List.set_cons_zero, List.set_cons_succ]
  refine wpAnyH_ready (rs := [3]) (by kernel_rfl) (by simp) (AllReadyH.cons rfl (fun K hK => ?_) AllReadyH.nil)
  go_simp
  refine (ref_chr' _ _).mono ?_
  rintro e w2 ⟨rfl, hbb⟩
  refine hK.out _ _ (hHeld.step hbb) (fun hHeld => ?_)
  clear hK K hbb
  try simp only [Act.put, List.setIfInBounds_toArray, List.set_cons_zero, List.set_cons_succ]
  refine wpAnyH_take (i := 4) (v := .string U1) rfl (by kernel_rfl) (by kernel_rfl) (by kernel_rfl) (fun _ _ _ h => h) (Or.inl ⟨by rfl, fun w hSw => by go_simp⟩) (by assumption) ?_
  try simp only [Act.put, List.setIfInBounds_toArray, List.set_cons_zero, List.set_cons_succ]
  refine wpAnyH_ready (rs := [7]) (by kernel_rfl) (by simp) (AllReadyH.cons rfl (fun K hK => ?_) AllReadyH.nil)
  go_simp
  refine (ref_chr' _ _).mono ?_
  rintro e w2 ⟨rfl, hbb⟩
  refine hK.out _ _ (hHeld.step hbb) (fun hHeld => ?_)
  clear hK K hbb
  try simp only [Act.put, List.setIfInBounds_toArray, List.set_cons_zero, List.set_cons_succ]
  refine wpAnyH_take (i := 8) (v := .string U2) rfl (by kernel_rfl) (by kernel_rfl) (by kernel_rfl) (fun _ _ _ h => h) (Or.inl ⟨by rfl, fun w hSw => by go_simp⟩) (by assumption) ?_
  try simp only [Act.put, List.setIfInBounds_toArray, List.set_cons_zero, List.set_cons_succ]
  refine wpAnyH_ready (rs := [11]) (by kernel_rfl) (by simp) (AllReadyH.cons rfl (fun K hK => ?_) AllReadyH.nil)
  go_simp
  refine (ref_high' 2 _ _ (by omega) (by omega) (by omega)).mono ?_
  rintro e w2 ⟨rfl, hbb⟩
  refine hK.out _ _ (hHeld.step hbb) (fun hHeld => ?_)
  clear hK K hbb
  try simp only [Act.put, List.setIfInBounds_toArray, List.set_cons_zero, List.set_cons_succ]
  refine wpAnyH_take (i := 12) (v := .string U3) rfl (by kernel_rfl) (by kernel_rfl) (by kernel_rfl) (fun _ _ _ h => h) (Or.inl ⟨by rfl, fun w hSw => by go_simp⟩) (by assumption) ?_
  try simp only [Act.put, List.setIfInBounds_toArray, List.set_cons_zero, List.set_cons_succ]
  refine wpAnyH_ready (rs := [15]) (by kernel_rfl) (by simp) (AllReadyH.cons rfl (fun K hK => ?_) AllReadyH.nil)
  go_simp
  refine (ref_high' 2 _ _ (by omega) (by omega) (by omega)).mono ?_
  rintro e w2 ⟨rfl, hbb⟩
  refine hK.out _ _ (hHeld.step hbb) (fun hHeld => ?_)
  clear hK K hbb
  try simp only [Act.put, List.setIfInBounds_toArray, List.set_cons_zero, List.set_cons_succ]
  refine wpAnyH_take (i := 16) (v := .string U4) rfl (by kernel_rfl) (by kernel_rfl) (by kernel_rfl) (fun _ _ _ h => h) (Or.inl ⟨by rfl, fun w hSw => by go_simp⟩) (by assumption) ?_
  try simp only [Act.put, List.setIfInBounds_toArray, List.set_cons_zero, List.set_cons_succ]
  refine wpAnyH_ready (rs := [19]) (by kernel_rfl) (by simp) (AllReadyH.cons rfl (fun K hK => ?_) AllReadyH.nil)
  go_simp
  refine (ref_high' 2 _ _ (by omega) (by omega) (by omega)).mono ?_
  rintro e w2 ⟨rfl, hbb⟩
  refine hK.out _ _ (hHeld.step hbb) (fun hHeld => ?_)
  clear hK K hbb
  try simp only [Act.put, List.setIfInBounds_toArray, List.set_cons_zero, List.set_cons_succ]
  refine wpAnyH_take (i := 20) (v := .string U5) rfl (by kernel_rfl) (by kernel_rfl) (by kernel_rfl) (fun _ _ _ h => h) (Or.inl ⟨by rfl, fun w hSw => by go_simp⟩) (by assumption) ?_
  try simp only [Act.put, List.setIfInBounds_toArray, List.set_cons_zero, List.set_cons_succ]
  refine wpAnyH_take (i := 21) (v := .string U5) rfl (by kernel_rfl) (by kernel_rfl) (by kernel_rfl) (fun _ _ _ h => h) (Or.inl ⟨by rfl, fun w hSw => by go_simp⟩) (by assumption) ?_
  try simp only [Act.put, List.setIfInBounds_toArray, List.set_cons_zero, List.set_cons_succ]
  refine wpAnyH_done (by kernel_rfl) ?_ _
  clear q1 z1 B1 HC2 hB
  have hB := hHeld.1
  clear hHeld
  go_wp2_with (first | (go_at_call 22; refine (ref_sumof' _ _ _ _ HL.out HT.out HX.out).mono ?_; rintro e w5 ⟨rfl, rfl⟩) | (go_at_call 20; refine (ref_chr' _ _).mono ?_; rintro e w6 ⟨rfl, hbb⟩; replace hB := Below.step0 hB hbb; clear hbb))
  go_ret2
  exact ⟨rfl, hB⟩
theorem ref_pack (i : Bool) (n p b l a s : Int) (w : World) :
    Calls Try.prog 10 #[.agg #[.bool i, .int .i64 n, .int .i64 p, .int .i64 b, .int .i64 l, .int .i64 a, .int .i64 s]] w fun e w' => e = .returned (.tuple #[.string (packB i n p b l a s), .int .i64 (chkV i n p b l a s)]) ∧ Below w.heap.size w w' := by
  by_cases hc : chkV i n p b l a s = 0
  · rw [hc]
    cases i
    · exact ref_pack_num n p b l a s w hc
    · exact ref_pack_key n p b l a s w hc
  · have hP : packB i n p b l a s = ⟨#[]⟩ := by unfold packB; rw [pack_no hc]
    have hc' : (chkV i n p b l a s == 0) = false := by simpa using hc
    rw [hP]
    clear hc hP
    go_enter Try.func10, Try.ntmps10
    go_wp2_with (go_at_call 12; refine (ref_cellcheck _ _ _ _ _ _ _ _).mono ?_; rintro e w1 ⟨rfl, hbb⟩; have B1 := (Box.new _ _ _).below hbb; have q1 := B1.cell; have hB := Below.step0 ((Below.refl _ _).alloc (Nat.le_refl _) _) hbb; clear hbb)
    go_ret2
    exact ⟨rfl, hB⟩
end Go.Proofs.Ytilbijocapmjbaa
