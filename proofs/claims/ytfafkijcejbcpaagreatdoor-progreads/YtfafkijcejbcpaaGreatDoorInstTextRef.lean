/- The document's own InstText: what chapter 6 says; it turns nothing that was in memory. -/
import Derived.Test.YtfafkijcejbcpaaGreatDoorRows
import Derived.Test.YtfafkijcejbcpaaGreatDoorKeyPure
import Derived.Test.YtfafkijcejbcpaaGreatDoorShelf
import Derived.Test.YtfafkijcejbcpaaGreatDoorCardBase
import Derived.Test.YtfafkijcejbcpaaGreatDoorInstShape
import Derived.Test.YtfafkijcejbcpaaGreatDoorInstTab
import Derived.Test.YtfafkijcejbcpaaGreatDoorInstRef
import Derived.Test.YtfafkijcejbcpaaGreatDoorInstRef2
import Derived.Test.YtfafkijcejbcpaaGreatDoorInstDev
import Derived.Test.YtfafkijcejbcpaaGreatDoorInstEq
import Derived.Test.YtfafkijcejbcpaaGreatDoorCellPure
import Derived.Test.YtfafkijcejbcpaaGreatDoorDigRef
import Derived.Test.YtfafkijcejbcpaaGreatDoorDig2
import Derived.Test.YtfafkijcejbcpaaGreatDoorTextPure
import Derived.Test.YtfafkijcejbcpaaGreatDoorBoxSet
import Derived.WalkKit
import Derived.ProofKit
import Derived.Deep.RegionHeld3
namespace Go.Proofs.YtfafkijcejbcpaaGreatDoor
open Go.ChangeShapes Go.WideShapes Go.ChangeAt Go.RowKit
set_option linter.unusedSimpArgs false

/-- What stands for a word of a row. -/
def sbB (a b c : Int) (x : ByteArray) : ByteArray := if x = ⟨#[65]⟩ then bL (114 :: Lib.itoa a) else if x = ⟨#[66]⟩ then bL (114 :: Lib.itoa b) else if x = ⟨#[114]⟩ then bL (114 :: Lib.itoa c) else bL (Lib.itoa c)
/-- The words, the first k behind the name told. -/
def ws (n : Nat) (a b c : Int) (k : Nat) : List ByteArray := (wordsB n).mapIdx fun i x => if 1 ≤ i ∧ i ≤ k then sbB a b c x else x
theorem ws_get (n : Nat) (a b c : Int) (k j : Nat) : (ws n a b c k)[j]? = ((wordsB n)[j]?).map fun x => if 1 ≤ j ∧ j ≤ k then sbB a b c x else x := by
  unfold ws
  rw [List.getElem?_mapIdx]
theorem ws_len (n : Nat) (a b c : Int) (k : Nat) : (ws n a b c k).length = (wordsB n).length := by unfold ws; simp
theorem ws_zero (n : Nat) (a b c : Int) : ws n a b c 0 = wordsB n := by
  apply List.ext_getElem?
  intro j
  rw [ws_get]
  cases (wordsB n)[j]? with
  | none => rfl
  | some x => simp only [Option.map_some]; rw [if_neg (by omega)]
theorem ws_step (n : Nat) (a b c : Int) (k : Nat) (h : k + 1 < (wordsB n).length) : ((ws n a b c k).map Value.string).toArray.setIfInBounds (k + 1) (.string (sbB a b c ((wordsB n)[k + 1]))) = ((ws n a b c (k + 1)).map Value.string).toArray := by
  rw [List.setIfInBounds_toArray]
  congr 1
  apply List.ext_getElem?
  intro j
  rw [List.getElem?_set, List.getElem?_map, List.getElem?_map, ws_get, ws_get]
  by_cases e : k + 1 = j
  · subst e
    rw [if_pos rfl, List.length_map, ws_len, if_pos h, List.getElem?_eq_getElem h]
    simp only [Option.map_some]
    rw [if_pos (by omega)]
  · rw [if_neg e]
    cases (wordsB n)[j]? with
    | none => rfl
    | some x =>
      simp only [Option.map_some]
      by_cases h1 : 1 ≤ j ∧ j ≤ k
      · rw [if_pos h1, if_pos (by omega)]
      · rw [if_neg h1, if_neg (by omega)]
theorem ws_at (n : Nat) (a b c : Int) (k : Nat) (h : k + 1 < (wordsB n).length) : (((ws n a b c k).map Value.string).toArray)[k + 1]? = some (.string ((wordsB n)[k + 1])) := by
  rw [List.getElem?_toArray, List.getElem?_map, ws_get, List.getElem?_eq_getElem h]
  simp only [Option.map_some]
  rw [if_neg (by omega)]
/-- A row, by the project's table. -/
def rowOf (n : Nat) : List ByteArray := bL (shW n) :: ((if shA n = 1 then [⟨#[65]⟩] else []) ++ (if shB n = 1 then [⟨#[66]⟩] else []) ++ (if shC n = 0 then [] else if shC n = 1 then [⟨#[114]⟩] else if shC n = 2 then [⟨#[110]⟩] else if shC n = 3 then [⟨#[112]⟩] else if shC n = 4 then [⟨#[113]⟩] else [⟨#[109]⟩]))
theorem words_row : ∀ n : Nat, n < 23 → wordsB n = rowOf n ∧ (shA n = 0 ∨ shA n = 1) ∧ (shB n = 0 ∨ shB n = 1) ∧ (shC n = 0 ∨ shC n = 1 ∨ shC n = 2 ∨ shC n = 3 ∨ shC n = 4 ∨ shC n = 5) := by decide +kernel
theorem sb_A (a b c : Int) : sbB a b c ⟨#[65]⟩ = bL (114 :: Lib.itoa a) := rfl
theorem sb_B (a b c : Int) : sbB a b c ⟨#[66]⟩ = bL (114 :: Lib.itoa b) := rfl
theorem sb_r (a b c : Int) : sbB a b c ⟨#[114]⟩ = bL (114 :: Lib.itoa c) := rfl
theorem sb_n (a b c : Int) : sbB a b c ⟨#[110]⟩ = bL (Lib.itoa c) := rfl
theorem sb_p (a b c : Int) : sbB a b c ⟨#[112]⟩ = bL (Lib.itoa c) := rfl
theorem sb_q (a b c : Int) : sbB a b c ⟨#[113]⟩ = bL (Lib.itoa c) := rfl
theorem sb_m (a b c : Int) : sbB a b c ⟨#[109]⟩ = bL (Lib.itoa c) := rfl
theorem ws_all (n : Nat) (a b c : Int) (q : Nat) (hq : (wordsB n).length = q + 1) (hn : n < 23) : ws n a b c q = bL (shW n) :: ((rowOf n).drop 1).map (sbB a b c) := by
  apply List.ext_getElem?
  intro j
  rw [ws_get, (words_row n hn).1]
  rw [(words_row n hn).1] at hq
  cases j with
  | zero => rfl
  | succ j =>
    rw [List.getElem?_cons_succ, List.getElem?_map, List.getElem?_drop, Nat.add_comm 1 j]
    cases hx : (rowOf n)[j + 1]? with
    | none => rfl
    | some x =>
      have := (List.getElem?_eq_some_iff.1 hx).1
      simp only [Option.map_some]
      rw [if_pos (by omega)]
theorem join_text (n : Nat) (hn : n < 23) (a b c : Int) (q : Nat) (hq : (wordsB n).length = q + 1) : Lib.join ((ws n a b c q).map (·.data.toList)) [32] = textL n a b c := by
  rw [ws_all n a b c q hq hn]
  obtain ⟨_, hA, hB, hC⟩ := words_row n hn
  unfold rowOf textL tellL Lib.join
  rcases hA with hA | hA <;> rcases hB with hB | hB <;> rcases hC with hC | hC | hC | hC | hC | hC <;> rw [hA, hB, hC] <;>
    simp [sb_A, sb_B, sb_r, sb_n, sb_p, sb_q, sb_m, bL_list, List.intercalate, List.intersperse]
theorem text_len (n : Nat) (hn : n < 23) (a b c : Int) (hb : (-1000000 < a ∧ a < 1000000) ∧ (-1000000 < b ∧ b < 1000000) ∧ -1000000 < c ∧ c < 1000000) : (textL n a b c).length ≤ 75 := by
  unfold textL
  have h0 := word_len n hn
  have h1 := tell_len (shA n) a (by omega)
  have h2 := tell_len (shB n) b (by omega)
  have h3 := tell_len (shC n) c (by omega)
  simp only [List.length_append]
  omega
theorem ref_join (n : Nat) (hn : n < 23) (a b c : Int) (q : Nat) (hq : (wordsB n).length = q + 1) (hr : 0 ≤ a ∧ a ≤ 7 ∧ 0 ≤ b ∧ b ≤ 7 ∧ -2048 ≤ c ∧ c ≤ 2047) (L : Nat) (w : World) (hB : Box w L ((ws n a b c q).map Value.string).toArray) :
    Calls Tryz.prog 29 #[.slice (some ⟨L, 0, none⟩) (q + 1) (q + 1), .string ⟨#[32]⟩] w fun e w' => e = .returned (.string (bL (textL n a b c))) ∧ Below w.heap.size w w' := by
  have hj : Lib.join ((ws n a b c q).map (·.data.toList)) (⟨#[32]⟩ : ByteArray).data.toList = textL n a b c := join_text n hn a b c q hq
  have hl : (wordsB n).length ≤ 4 := (words_len n hn).2
  have h := Tryz.strings_Join L 0 (q + 1) (ws n a b c q) ⟨#[32]⟩ w (fun j x hx => by
    rw [Nat.zero_add, hB.cell, List.getElem?_toArray, List.getElem?_map, hx]
    rfl) hB.lt (by rw [ws_len]; omega) (by rw [ws_len]; omega) (by
    rw [hj]
    have := text_len n hn a b c (by omega)
    omega)
  rw [hj, ws_len, hq] at h
  exact h
set_option maxHeartbeats 4000000 in
set_option maxRecDepth 100000 in
theorem text_doc (n : Nat) (hn : n < 23) (a b c : Int) (hcI : chkI n a b c = 0) (w : World) (m : Int) (hM : w.cell? ⟨0, 0, none⟩ = some (.int .i64 m)) (zM : 0 < w.heap.size) :
    Calls Tryz.prog 35 #[.agg #[.int .i64 (n : Int), .int .i64 a, .int .i64 b, .int .i64 c]] w fun e w' => e = .returned (.tuple #[.string (bL (textL n a b c)), .int .i64 0]) ∧ Below w.heap.size w w' := by
  have hr := chk_ok hcI
  have hb0 := Below.one w (.cells #[.int .i64 (n : Int), .int .i64 a, .int .i64 b, .int .i64 c] 43)
  have htab := tab_at n hn
  have hnI : (n : Int) < 23 := by omega
  go_enter Tryz.func35, Tryz.ntmps35
  go_wp2_with (go_at_call 38; refine (ref_instcheck _ _ _ _ _ m (old_cell hM zM hb0).1 (old_cell hM zM hb0).2).mono ?_; simp only [hcI]; rintro e w1 ⟨rfl, hbb⟩; have B1 := (Box.new w _ _).below hbb; have q1 := B1.cell; have hB1 := Below.step0 hb0 hbb; clear hbb)
  refine wp_region_held_drew (S := Cls w [(w.heap.size, #[.int .i64 (n : Int), .int .i64 a, .int .i64 b, .int .i64 c])]) (by kernel_rfl) (Cls.drew (Cls.mk1 hB1 B1)) (fun hHeld => ?_)
  refine wpAnyH_take (i := 1) (v := .pointer (some ⟨w.heap.size, 0, none⟩)) rfl (by kernel_rfl) (by kernel_rfl) (by kernel_rfl) (fun _ _ _ h => h) (Or.inl ⟨by rfl, fun w hSw => by go_simp⟩) (by assumption) ?_
  try simp only [Act.put, List.getElem_toArray, List.getElem_cons_zero, List.getElem_cons_succ, List.setIfInBounds_toArray, List.set_cons_zero, List.set_cons_succ]
  refine wpAnyH_take (i := 2) (v := .int .i64 (n : Int)) rfl (by kernel_rfl) (by kernel_rfl) (by kernel_rfl) (fun _ _ _ h => h) (Or.inl ⟨by rfl, fun w hSw => by have q := hSw.b0.cell; go_simp⟩) (by assumption) ?_
  try simp only [Act.put, List.getElem_toArray, List.getElem_cons_zero, List.getElem_cons_succ, List.setIfInBounds_toArray, List.set_cons_zero, List.set_cons_succ]
  refine wpAnyH_ready (rs := [0]) (by kernel_rfl) (by simp) (AllReadyH.cons rfl (fun K hK => ?_) AllReadyH.nil)
  go_simp
  refine (ref_table _ m (old_cell hM zM hHeld.1).1).mono ?_
  rintro e w1 ⟨rfl, rfl⟩
  refine hK.out _ _ (hHeld.step (Below.one _ _)) (fun hHeld => ?_)
  clear hK K
  try simp only [Act.put, List.getElem_toArray, List.getElem_cons_zero, List.getElem_cons_succ, List.setIfInBounds_toArray, List.set_cons_zero, List.set_cons_succ]
  refine wpAnyH_take (i := 3) (v := .pointer (some ⟨w1.heap.size, n, none⟩)) rfl (by kernel_rfl) (by kernel_rfl) (by kernel_rfl) (fun _ _ _ h => h) (Or.inl ⟨by rfl, fun w hSw => by go_simp⟩) (by assumption) ?_
  try simp only [Act.put, List.getElem_toArray, List.getElem_cons_zero, List.getElem_cons_succ, List.setIfInBounds_toArray, List.set_cons_zero, List.set_cons_succ]
  refine wpAnyH_ready (rs := [4]) (by kernel_rfl) (by simp) (AllReadyH.cons rfl (fun K hK => ?_) AllReadyH.nil)
  go_simp
  refine hK.out _ _ hHeld (fun hHeld => ?_)
  clear hK K
  try simp only [Act.put, List.getElem_toArray, List.getElem_cons_zero, List.getElem_cons_succ, List.setIfInBounds_toArray, List.set_cons_zero, List.set_cons_succ]
  refine wpAnyH_ready (rs := [5]) (by kernel_rfl) (by simp) (AllReadyH.cons rfl (fun K hK => ?_) AllReadyH.nil)
  go_simp
  refine (ref_words n hn _ m (old_cell hM zM hHeld.1).1).mono ?_
  rintro e w1 ⟨rfl, rfl⟩
  refine hK.out _ _ (hHeld.step (Below.one _ _)) (fun hHeld => ?_)
  clear hK K
  try simp only [Act.put, List.getElem_toArray, List.getElem_cons_zero, List.getElem_cons_succ, List.setIfInBounds_toArray, List.set_cons_zero, List.set_cons_succ]
  have HB4 := Box.new ((w1.alloc (.cells tabA 9)).drew) ((wordsB n).map Value.string).toArray 9
  have hLt : w.heap.size < (w1.alloc (.cells tabA 9)).drew.heap.size := by
    have h := B1.lt
    show w.heap.size < (w1.alloc (.cells tabA 9)).heap.size
    rw [World.size_alloc]
    omega
  clear B1 q1 hB1 htab
  obtain ⟨q, hq⟩ : ∃ q, (wordsB n).length = q + 1 := ⟨(wordsB n).length - 1, by have := words_len n hn; omega⟩
  have hq3 : q ≤ 3 := by have := words_len n hn; omega
  rw [hq]
  generalize (w1.alloc (.cells tabA 9)).drew = W0 at *
  generalize W0.alloc (.cells ((wordsB n).map Value.string).toArray 9) = W2 at *
  generalize W0.heap.size = L at *
  have l1 : (1 : Int) ≤ (q : Int) + 1 := by omega
  refine wpAnyH_take (i := 6) (v := .slice (some ⟨L, 0, none⟩) (q + 1) (q + 1)) rfl (by kernel_rfl) (by kernel_rfl) (by kernel_rfl) (fun _ _ _ h => h) (Or.inl ⟨by rfl, fun w hSw => by go_simp⟩) (by assumption) ?_
  try simp only [Act.put, List.getElem_toArray, List.getElem_cons_zero, List.getElem_cons_succ, List.setIfInBounds_toArray, List.set_cons_zero, List.set_cons_succ]
  refine wpAnyH_done (by kernel_rfl) ?_ _
  rcases Nat.eq_zero_or_pos q with hq0 | hq0
  · subst hq0
    go_wp2
    go_loopw [22] (fun i wr => i = .int .i64 0 ∧ wr = W2) (fun i _ => 0)
    case atStart => exact ⟨rfl, rfl⟩
    case round =>
      obtain ⟨rfl, rfl⟩ := hrel
      have J := ref_join n hn a b c 0 hq hr.2 L wr (by rw [ws_zero]; exact HB4)
      go_wp2_with (go_at_call 29; refine J.mono ?_; rintro e w9 ⟨rfl, hbb⟩)
      go_ret2
      exact ⟨rfl, Below.step0 hHeld.1 hbb⟩
  have hq1 : ¬ q = 0 := by omega
  go_wp2
  go_loopw [22] (fun i wr => ∃ k : Nat, k ≤ q ∧ i = .int .i64 (k : Int) ∧ Cls w [(w.heap.size, #[.int .i64 (n : Int), .int .i64 a, .int .i64 b, .int .i64 c])] wr ∧ Box wr L ((ws n a b c k).map Value.string).toArray) (fun i _ => 3 - (intOf i).toNat)
  case atStart => exact ⟨0, Nat.zero_le _, rfl, hHeld, by rw [ws_zero]; exact HB4⟩
  case round =>
    obtain ⟨k, hk, rfl, hcl, hbw⟩ := hrel
    clear hHeld HB4
    by_cases hlt : k < q
    case neg =>
      have hkq : k = q := by omega
      subst hkq
      have J := ref_join n hn a b c k hq hr.2 L wr hbw
      go_wp2_with (go_at_call 29; refine J.mono ?_; rintro e w9 ⟨rfl, hbb⟩)
      go_ret2
      exact ⟨rfl, Below.step0 hcl.1 hbb⟩
    have hc : wr.cell? ⟨L, 1 + k, none⟩ = some (.string ((wordsB n)[k + 1]'(by omega))) := by
      rw [hbw.cell, Nat.add_comm 1 k]
      exact ws_at n a b c k (by omega)
    have hst := ws_step n a b c k (by omega)
    have hwk := ws_at n a b c k (by omega)
    have kI : (k : Int) < (q : Int) := by omega
    have kJ : (k : Int) + 1 < (q : Int) + 1 := by omega
    rcases word_kind n hn k (by omega) (by omega) with hx | hx | hx | hx | hx | hx | hx
    · rw [hx] at hc hst hwk
      clear hx
      have cD := fun w => ref_dig a w (by omega)
      obtain ⟨D, hD⟩ : ∃ D, bL (Lib.itoa a) = D := ⟨_, rfl⟩
      rw [hD] at cD
      have zD : D.size ≤ 21 := by rw [← hD, bL_size]; exact itoa_len a (by omega)
      have hV : (⟨#[114]⟩ : ByteArray) ++ D = sbB a b c ⟨#[65]⟩ := by rw [← hD]; exact bL_add [114] (Lib.itoa a)
      rw [← hV] at hst
      clear hD hV
      have q0 := hcl.b0.cell
      have zL := hbw.lt
      go_wp2_with (go_at_call 51; refine (cD _).mono ?_; rintro e w9 ⟨rfl, hbb⟩; have hcl9 := hcl.step hbb; have hb9 := hbw.below hbb; have qL := (hb9.cell (k + 1)).trans hwk; have fL := hb9.free (k + 1); clear hbb)
      go_roundw
      case rel =>
        refine ⟨k + 1, by omega, by go_num, ?_, ?_⟩
        · exact ⟨hcl9.1.setCell (by simp <;> omega) _, fun x hx => by
            have h9 := hcl9.2 x hx
            simp only [List.mem_cons, List.not_mem_nil, or_false] at hx
            subst hx
            exact h9.setOther (by simp <;> omega)⟩
        · rw [← hst]
          exact hb9.set (k + 1) _ (by simp [ws_len]; omega)
      case measure => simp [intOf]; omega
    · rw [hx] at hc hst hwk
      clear hx
      have cD := fun w => ref_dig b w (by omega)
      obtain ⟨D, hD⟩ : ∃ D, bL (Lib.itoa b) = D := ⟨_, rfl⟩
      rw [hD] at cD
      have zD : D.size ≤ 21 := by rw [← hD, bL_size]; exact itoa_len b (by omega)
      have hV : (⟨#[114]⟩ : ByteArray) ++ D = sbB a b c ⟨#[66]⟩ := by rw [← hD]; exact bL_add [114] (Lib.itoa b)
      rw [← hV] at hst
      clear hD hV
      have q0 := hcl.b0.cell
      have zL := hbw.lt
      go_wp2_with (go_at_call 51; refine (cD _).mono ?_; rintro e w9 ⟨rfl, hbb⟩; have hcl9 := hcl.step hbb; have hb9 := hbw.below hbb; have qL := (hb9.cell (k + 1)).trans hwk; have fL := hb9.free (k + 1); clear hbb)
      go_roundw
      case rel =>
        refine ⟨k + 1, by omega, by go_num, ?_, ?_⟩
        · exact ⟨hcl9.1.setCell (by simp <;> omega) _, fun x hx => by
            have h9 := hcl9.2 x hx
            simp only [List.mem_cons, List.not_mem_nil, or_false] at hx
            subst hx
            exact h9.setOther (by simp <;> omega)⟩
        · rw [← hst]
          exact hb9.set (k + 1) _ (by simp [ws_len]; omega)
      case measure => simp [intOf]; omega
    · rw [hx] at hc hst hwk
      clear hx
      have cD := fun w => ref_dig c w (by omega)
      obtain ⟨D, hD⟩ : ∃ D, bL (Lib.itoa c) = D := ⟨_, rfl⟩
      rw [hD] at cD
      have zD : D.size ≤ 21 := by rw [← hD, bL_size]; exact itoa_len c (by omega)
      have hV : D = sbB a b c ⟨#[110]⟩ := by rw [← hD]; rfl
      rw [← hV] at hst
      clear hD hV
      have q0 := hcl.b0.cell
      have zL := hbw.lt
      go_wp2_with (go_at_call 51; refine (cD _).mono ?_; rintro e w9 ⟨rfl, hbb⟩; have hcl9 := hcl.step hbb; have hb9 := hbw.below hbb; have qL := (hb9.cell (k + 1)).trans hwk; have fL := hb9.free (k + 1); clear hbb)
      go_roundw
      case rel =>
        refine ⟨k + 1, by omega, by go_num, ?_, ?_⟩
        · exact ⟨hcl9.1.setCell (by simp <;> omega) _, fun x hx => by
            have h9 := hcl9.2 x hx
            simp only [List.mem_cons, List.not_mem_nil, or_false] at hx
            subst hx
            exact h9.setOther (by simp <;> omega)⟩
        · rw [← hst]
          exact hb9.set (k + 1) _ (by simp [ws_len]; omega)
      case measure => simp [intOf]; omega
    · rw [hx] at hc hst hwk
      clear hx
      have cD := fun w => ref_dig c w (by omega)
      obtain ⟨D, hD⟩ : ∃ D, bL (Lib.itoa c) = D := ⟨_, rfl⟩
      rw [hD] at cD
      have zD : D.size ≤ 21 := by rw [← hD, bL_size]; exact itoa_len c (by omega)
      have hV : (⟨#[114]⟩ : ByteArray) ++ D = sbB a b c ⟨#[114]⟩ := by rw [← hD]; exact bL_add [114] (Lib.itoa c)
      rw [← hV] at hst
      clear hD hV
      have q0 := hcl.b0.cell
      have zL := hbw.lt
      go_wp2_with (go_at_call 51; refine (cD _).mono ?_; rintro e w9 ⟨rfl, hbb⟩; have hcl9 := hcl.step hbb; have hb9 := hbw.below hbb; have qL := (hb9.cell (k + 1)).trans hwk; have fL := hb9.free (k + 1); clear hbb)
      go_roundw
      case rel =>
        refine ⟨k + 1, by omega, by go_num, ?_, ?_⟩
        · exact ⟨hcl9.1.setCell (by simp <;> omega) _, fun x hx => by
            have h9 := hcl9.2 x hx
            simp only [List.mem_cons, List.not_mem_nil, or_false] at hx
            subst hx
            exact h9.setOther (by simp <;> omega)⟩
        · rw [← hst]
          exact hb9.set (k + 1) _ (by simp [ws_len]; omega)
      case measure => simp [intOf]; omega
    · rw [hx] at hc hst hwk
      clear hx
      have cD := fun w => ref_dig c w (by omega)
      obtain ⟨D, hD⟩ : ∃ D, bL (Lib.itoa c) = D := ⟨_, rfl⟩
      rw [hD] at cD
      have zD : D.size ≤ 21 := by rw [← hD, bL_size]; exact itoa_len c (by omega)
      have hV : D = sbB a b c ⟨#[112]⟩ := by rw [← hD]; rfl
      rw [← hV] at hst
      clear hD hV
      have q0 := hcl.b0.cell
      have zL := hbw.lt
      go_wp2_with (go_at_call 51; refine (cD _).mono ?_; rintro e w9 ⟨rfl, hbb⟩; have hcl9 := hcl.step hbb; have hb9 := hbw.below hbb; have qL := (hb9.cell (k + 1)).trans hwk; have fL := hb9.free (k + 1); clear hbb)
      go_roundw
      case rel =>
        refine ⟨k + 1, by omega, by go_num, ?_, ?_⟩
        · exact ⟨hcl9.1.setCell (by simp <;> omega) _, fun x hx => by
            have h9 := hcl9.2 x hx
            simp only [List.mem_cons, List.not_mem_nil, or_false] at hx
            subst hx
            exact h9.setOther (by simp <;> omega)⟩
        · rw [← hst]
          exact hb9.set (k + 1) _ (by simp [ws_len]; omega)
      case measure => simp [intOf]; omega
    · rw [hx] at hc hst hwk
      clear hx
      have cD := fun w => ref_dig c w (by omega)
      obtain ⟨D, hD⟩ : ∃ D, bL (Lib.itoa c) = D := ⟨_, rfl⟩
      rw [hD] at cD
      have zD : D.size ≤ 21 := by rw [← hD, bL_size]; exact itoa_len c (by omega)
      have hV : D = sbB a b c ⟨#[113]⟩ := by rw [← hD]; rfl
      rw [← hV] at hst
      clear hD hV
      have q0 := hcl.b0.cell
      have zL := hbw.lt
      go_wp2_with (go_at_call 51; refine (cD _).mono ?_; rintro e w9 ⟨rfl, hbb⟩; have hcl9 := hcl.step hbb; have hb9 := hbw.below hbb; have qL := (hb9.cell (k + 1)).trans hwk; have fL := hb9.free (k + 1); clear hbb)
      go_roundw
      case rel =>
        refine ⟨k + 1, by omega, by go_num, ?_, ?_⟩
        · exact ⟨hcl9.1.setCell (by simp <;> omega) _, fun x hx => by
            have h9 := hcl9.2 x hx
            simp only [List.mem_cons, List.not_mem_nil, or_false] at hx
            subst hx
            exact h9.setOther (by simp <;> omega)⟩
        · rw [← hst]
          exact hb9.set (k + 1) _ (by simp [ws_len]; omega)
      case measure => simp [intOf]; omega
    · rw [hx] at hc hst hwk
      clear hx
      have cD := fun w => ref_dig c w (by omega)
      obtain ⟨D, hD⟩ : ∃ D, bL (Lib.itoa c) = D := ⟨_, rfl⟩
      rw [hD] at cD
      have zD : D.size ≤ 21 := by rw [← hD, bL_size]; exact itoa_len c (by omega)
      have hV : D = sbB a b c ⟨#[109]⟩ := by rw [← hD]; rfl
      rw [← hV] at hst
      clear hD hV
      have q0 := hcl.b0.cell
      have zL := hbw.lt
      go_wp2_with (go_at_call 51; refine (cD _).mono ?_; rintro e w9 ⟨rfl, hbb⟩; have hcl9 := hcl.step hbb; have hb9 := hbw.below hbb; have qL := (hb9.cell (k + 1)).trans hwk; have fL := hb9.free (k + 1); clear hbb)
      go_roundw
      case rel =>
        refine ⟨k + 1, by omega, by go_num, ?_, ?_⟩
        · exact ⟨hcl9.1.setCell (by simp <;> omega) _, fun x hx => by
            have h9 := hcl9.2 x hx
            simp only [List.mem_cons, List.not_mem_nil, or_false] at hx
            subst hx
            exact h9.setOther (by simp <;> omega)⟩
        · rw [← hst]
          exact hb9.set (k + 1) _ (by simp [ws_len]; omega)
      case measure => simp [intOf]; omega
theorem ref_insttext (o a b c : Int) (w : World) (m : Int) (hM : w.cell? ⟨0, 0, none⟩ = some (.int .i64 m)) (zM : 0 < w.heap.size) :
    Calls Tryz.prog 35 #[.agg #[.int .i64 o, .int .i64 a, .int .i64 b, .int .i64 c]] w fun e w' => e = .returned (.tuple #[.string (bL (textD o a b c)), .int .i64 (chkD o a b c)]) ∧ Below w.heap.size w w' := by
  rw [chk_eq]
  by_cases hc : chkI o a b c = 0
  · have hr := chk_ok hc
    obtain ⟨n, rfl⟩ := Int.eq_ofNat_of_zero_le hr.1.1
    have e1 : textD n a b c = textL n a b c := by unfold textD; rw [chk_eq, if_pos hc]; rfl
    rw [e1, hc]
    exact text_doc n (by omega) a b c hc w m hM zM
  · have e1 : textD o a b c = [] := by unfold textD; rw [chk_eq, if_neg hc]
    have hc' : (chkI o a b c == 0) = false := by simpa using hc
    rw [e1, show bL [] = (⟨#[]⟩ : ByteArray) from rfl]
    have hb0 := Below.one w (.cells #[.int .i64 o, .int .i64 a, .int .i64 b, .int .i64 c] 43)
    go_enter Tryz.func35, Tryz.ntmps35
    go_wp2_with (go_at_call 38; refine (ref_instcheck _ _ _ _ _ m (old_cell hM zM hb0).1 (old_cell hM zM hb0).2).mono ?_; rintro e w1 ⟨rfl, hbb⟩; have B1 := (Box.new w _ _).below hbb; have q1 := B1.cell; have hB1 := Below.step0 hb0 hbb; clear hbb)
    go_ret2
    exact ⟨rfl, hB1⟩
end Go.Proofs.YtfafkijcejbcpaaGreatDoor
