/- package prog: placeOf and takeLabel: a line that is a label. -/
import Derived.Test.YtfafkijcejbcpaaGreatDoorRows
import Derived.Test.YtfafkijcejbcpaaGreatDoorKeyPure
import Derived.Test.YtfafkijcejbcpaaGreatDoorShelf
import Derived.Test.YtfafkijcejbcpaaGreatDoorInstOp
import Derived.Test.YtfafkijcejbcpaaGreatDoorTextPure
import Derived.Test.YtfafkijcejbcpaaGreatDoorProgPure
import Derived.Test.YtfafkijcejbcpaaGreatDoorProgSmall
import Derived.Test.YtfafkijcejbcpaaGreatDoorProgState
import Derived.WalkKit
import Derived.ProofKit
import Derived.Deep.AppendLies
import Derived.Deep.RegionLaw
namespace Go.Proofs.YtfafkijcejbcpaaGreatDoor
open Go.ChangeShapes Go.WideShapes Go.ChangeAt Go.RowKit
set_option linter.unusedSimpArgs false

/-- The cells of a row that is owned. -/
theorem own_cells {w : World} {base : Nat} {e : TypeId} {size : Nat} {v : Value} {n : Nat} {xs : List Value} (h : w.ownsRow base e size v n xs) : (n = 0 ∧ xs = []) ∨ ∃ g cap, v = .slice (some ⟨g, 0, none⟩) n cap ∧ g < w.heap.size ∧ n ≤ cap ∧ ∀ (j : Nat) u, xs[j]? = some u → w.cell? ⟨g, j, none⟩ = some u := by
  obtain ⟨hl, h⟩ := h
  rcases h with ⟨rfl, h0⟩ | ⟨g, cap, cur, rfl, hb, hc, hcap, _, hcur, htk⟩
  · refine .inl ⟨h0, ?_⟩
    rw [h0, Nat.zero_mul] at hl
    exact List.length_eq_zero_iff.1 hl
  · refine .inr ⟨g, cap, rfl, (Array.getElem?_eq_some_iff.1 hc).1, hcap, fun j u hj => ?_⟩
    rw [World.cell?, hc]
    rw [← htk] at hj
    have hj2 : j < n * size := by
      rcases Nat.lt_or_ge j (n * size) with h1 | h1
      · exact h1
      · rw [List.getElem?_eq_none (by rw [List.length_take]; omega)] at hj; cases hj
    rw [List.getElem?_take_of_lt hj2] at hj
    simpa using hj
theorem lb_get : ∀ (bs : List LB) (k : Nat) (b : LB), bs[k]? = some b → (bs.flatMap lbC)[k * 2]? = some (.string (bL b.nm)) ∧ (bs.flatMap lbC)[k * 2 + 1]? = some (.int .i64 b.at_)
  | [], k, b, h => by simp at h
  | c :: bs, 0, b, h => by
    simp only [List.getElem?_cons_zero, Option.some.injEq] at h
    subst h
    exact ⟨rfl, rfl⟩
  | c :: bs, k + 1, b, h => by
    have ih := lb_get bs k b (by simpa using h)
    rw [List.flatMap_cons, show (k + 1) * 2 = 2 + k * 2 by omega, show 2 + k * 2 + 1 = 2 + (k * 2 + 1) by omega]
    rw [List.getElem?_append_right (show (lbC c).length ≤ 2 + k * 2 by show 2 ≤ _; omega), List.getElem?_append_right (show (lbC c).length ≤ 2 + (k * 2 + 1) by show 2 ≤ _; omega)]
    show (bs.flatMap lbC)[2 + k * 2 - 2]? = _ ∧ (bs.flatMap lbC)[2 + (k * 2 + 1) - 2]? = _
    rw [Nat.add_sub_cancel_left, Nat.add_sub_cancel_left]
    exact ih
theorem ld_get : ∀ (bs : List LD) (k : Nat) (b : LD), bs[k]? = some b → ∀ j, j < 7 → (bs.flatMap ldC)[k * 7 + j]? = (ldC b)[j]?
  | [], k, b, h => by simp at h
  | c :: bs, 0, b, h => fun j hj => by
    simp only [List.getElem?_cons_zero, Option.some.injEq] at h
    subst h
    rw [List.flatMap_cons, Nat.zero_mul, Nat.zero_add, List.getElem?_append_left (show j < (ldC c).length from hj)]
  | c :: bs, k + 1, b, h => fun j hj => by
    have ih := ld_get bs k b (by simpa using h) j hj
    rw [List.flatMap_cons, show (k + 1) * 7 + j = 7 + (k * 7 + j) by omega]
    rw [List.getElem?_append_right (show (ldC c).length ≤ 7 + (k * 7 + j) by show 7 ≤ _; omega)]
    show (bs.flatMap ldC)[7 + (k * 7 + j) - 7]? = _
    rw [Nat.add_sub_cancel_left]
    exact ih
set_option maxRecDepth 100000 in
set_option maxHeartbeats 2000000 in
theorem prog_placeOf (st : PS) (B : Nat) (v1 v2 v3 : Value) (nm : List UInt8) (w : World) (h : PI w B v1 v2 v3 st) (hn : st.labels.length ≤ 150) :
    Calls Tryz.prog 27 #[.pointer (some ⟨B, 0, none⟩), .string (bL nm)] w fun e w' => e = .returned (.tuple #[.int .i64 ((placeL st.labels nm).getD 0), .bool (placeL st.labels nm).isSome]) ∧ Below w.heap.size w w' := by
  obtain ⟨R, hR⟩ : ∃ R, placeL st.labels nm = R := ⟨_, rfl⟩
  rw [hR]
  have q0 := h.box.cell
  have z0 := h.box.lt
  have hoc := own_cells h.r2
  obtain ⟨a2, c2, rfl⟩ := own_slice h.r2
  have HR : Hid (placeL st.labels nm = R) := hR
  clear hR
  generalize hN : bL nm = N at *
  have HN : Hid (bL nm = N) := hN
  clear hN
  go_enter Tryz.func27, Tryz.ntmps27
  go_wp2
  go_loopw [13] (fun i wr => ∃ k : Nat, k ≤ st.labels.length ∧ i = .int .i64 (k : Int) ∧ Below w.heap.size w wr ∧ placeL (st.labels.drop k) nm = R) (fun i _ => st.labels.length - (intOf i).toNat)
  case atStart => exact ⟨0, Nat.zero_le _, rfl, Below.refl _ _, HR.out⟩
  case round =>
    obtain ⟨k, hk, rfl, hB, hp⟩ := hrel
    by_cases hlt : k < st.labels.length
    · have gk : (k : Int) < (st.labels.length : Int) := by omega
      rcases hoc with ⟨h0, _⟩ | ⟨g, cap, e2, hg, hcap, hcells⟩
      · omega
      injection e2 with e2 _ e3
      subst e2
      subst e3
      obtain ⟨b, hb⟩ : ∃ b, st.labels[k]? = some b := ⟨_, List.getElem?_eq_getElem hlt⟩
      obtain ⟨g1, g2⟩ := lb_get st.labels k b hb
      have d1 : wr.cell? ⟨g, k * 2, none⟩ = some (.string (bL b.nm)) := by rw [hB.cell (p := ⟨g, k * 2, none⟩) hg]; exact hcells _ _ g1
      have d2 : wr.cell? ⟨g, k * 2 + 1, none⟩ = some (.int .i64 b.at_) := by rw [hB.cell (p := ⟨g, k * 2 + 1, none⟩) hg]; exact hcells _ _ g2
      have hdr : st.labels.drop k = b :: st.labels.drop (k + 1) := by
        rw [List.drop_eq_getElem_cons hlt]
        rw [List.getElem?_eq_getElem hlt] at hb
        injection hb with hb
        rw [hb]
      rw [hdr, placeL] at hp
      have kb : k ≤ 149 := by omega
      have hB1 := hB.alloc hB.size (.cells #[.string (bL b.nm), .int .i64 b.at_] 30)
      by_cases he : b.nm = nm
      · rw [if_pos he] at hp
        have es := str_same (show bL b.nm = N by rw [he]; exact HN.out)
        subst hp
        have HB1 : Hid (Below w.heap.size w (wr.alloc (.cells #[.string (bL b.nm), .int .i64 b.at_] 30))) := hB1
        generalize bL b.nm = M at *
        clear hdr hb g1 g2 hcells hB1 hB
        go_wp2
        go_ret2
        exact ⟨rfl, HB1.out⟩
      · rw [if_neg he] at hp
        have es := str_differ (fun h : bL b.nm = N => he (bL_inj (h.trans HN.out.symm)))
        have HP : Hid (placeL (st.labels.drop (k + 1)) nm = R) := hp
        have HB1 : Hid (Below w.heap.size w (wr.alloc (.cells #[.string (bL b.nm), .int .i64 b.at_] 30))) := hB1
        generalize bL b.nm = M at *
        clear hdr hb g1 g2 hcells hB1 hB hp
        go_wp2
        go_roundw
        case rel => exact ⟨k + 1, by omega, rfl, HB1.out, HP.out⟩
        case measure => simp [intOf]; omega
    · obtain rfl : k = st.labels.length := by omega
      have gk : ¬ (st.labels.length : Int) < (st.labels.length : Int) := by omega
      rw [List.drop_length] at hp
      subst hp
      go_wp2
      go_ret2
      exact ⟨rfl, hB⟩
theorem prog_clone (S : ByteArray) (w : World) (hs : S.size ≤ 281474976710656) :
    Calls Tryz.prog 43 #[.string S] w fun e w' => e = .returned (.string S) ∧ Below w.heap.size w w' := by
  have c := Tryz.stringslite_Clone S w hs
  go_enter Tryz.func43, Tryz.ntmps43
  go_wp2_with (go_at_call 61; refine c.mono ?_; rintro e w1 ⟨rfl, hb⟩)
  go_ret
  exact ⟨rfl, hb⟩
theorem PI.label_pre {w w3 : World} {B : Nat} {v1 v2 v3 : Value} {st : PS} (h : PI w B v1 v2 v3 st) (S : Value) (n : Int) (hb : Below w.heap.size w w3) :
    PI (w3.alloc (.cells #[S, .int .i64 n] 30)) B v1 v2 v3 st ∧ Mv w (w3.alloc (.cells #[S, .int .i64 n] 30)) B v1 v2 v3 v1 v2 v3 :=
  ⟨h.below (hb.alloc hb.size _), Mv.below (hb.alloc hb.size _) (Nat.le_of_lt h.box.lt)⟩
set_option maxRecDepth 100000 in
set_option maxHeartbeats 8000000 in
theorem takeLabel_yes (st : PS) (B : Nat) (v1 v2 v3 : Value) (nm : List UInt8) (w : World) (h : PI w B v1 v2 v3 st) (hl : nm.length ≤ 80) (h1 : nameL nm = true) (h2 : placeL st.labels nm = none) (hn : ¬ 20 ≤ st.labels.length) :
    Calls Tryz.prog 25 #[.pointer (some ⟨B, 0, none⟩), .string (bL nm)] w fun e w' => e = .returned (.int .i64 0) ∧ ∃ u1 u2 u3, PI w' B u1 u2 u3 ⟨st.cells, st.labels ++ [⟨nm, st.cells.length⟩], st.leads⟩ ∧ Mv w w' B v1 v2 v3 u1 u2 u3 := by
  have cN := prog_isName nm w (by omega)
  rw [h1] at cN
  have cP := fun w h => prog_placeOf st B v1 v2 v3 nm w h (by omega)
  rw [h2] at cP
  simp only [Option.getD_none, Option.isSome_none] at cP
  have cC := fun w => prog_clone (bL nm) w (by rw [bL_size]; omega)
  obtain ⟨i0, hi, hz0, hz1, hz2⟩ := info_lb
  have hB := h.box.lt
  have gn : ¬ (20 : Int) ≤ (st.labels.length : Int) := by omega
  obtain ⟨a1, c1, rfl⟩ := own_slice h.r1
  obtain ⟨a2, c2, rfl⟩ := own_slice h.r2
  obtain ⟨S, hS⟩ : ∃ S, bL nm = S := ⟨_, rfl⟩
  have HL : Hid (lbC ⟨nm, st.cells.length⟩ = [.string S, .int .i64 (st.cells.length : Int)]) := by unfold lbC; rw [hS]; exact rfl
  have ON : Hid (∀ u ∈ ([.string S, .int .i64 (st.cells.length : Int)] : List Value), u.oneCell' = true) := by
    intro u hu
    simp only [List.mem_cons, List.not_mem_nil, or_false] at hu
    rcases hu with rfl | rfl <;> rfl
  have mx : st.labels.length + 1 ≤ maxLen := by unfold maxLen; omega
  rw [hS] at cN cP cC ⊢
  clear hS h1 h2 hl
  go_enter Tryz.func25, Tryz.ntmps25
  go_upto_region 8 with (first | (go_at_call 42; refine cN.mono ?_; rintro e w1 ⟨rfl, hbb⟩; have h1 := h.below hbb) | (go_at_call 27; refine (cP _ h1).mono ?_; rintro e w2 ⟨rfl, hb2⟩; have h2 := h1.below hb2; have hb3 := Below.step0 hbb hb2; have q2 := h2.box.cell; have f2 := h2.box.free; have z2 := h2.box.lt; clear hb2 hbb h1))
  have H2 : Hid (PI w2.drew B (.slice a1 st.cells.length c1) (.slice a2 st.labels.length c2) v3 st) := h2.below (Below.refl _ _).drew
  have M2 : Hid (Mv w w2.drew B (.slice a1 st.cells.length c1) (.slice a2 st.labels.length c2) v3 (.slice a1 st.cells.length c1) (.slice a2 st.labels.length c2) v3) := Mv.below hb3.drew (Nat.le_of_lt hB)
  clear h2 hb3 h cN cP
  go_region_law (first | (go_simp; go_at_call 43; refine (cC _).mono ?_; rintro e w3 ⟨rfl, hbb⟩; have h4 := H2.out.label_pre (.string S) (st.cells.length : Int) hbb; have H4 : Hid (PI (w3.alloc (.cells #[.string S, .int .i64 (st.cells.length : Int)] 30)) B (.slice a1 st.cells.length c1) (.slice a2 st.labels.length c2) v3 st ∧ Mv w (w3.alloc (.cells #[.string S, .int .i64 (st.cells.length : Int)] 30)) B (.slice a1 st.cells.length c1) (.slice a2 st.labels.length c2) v3 (.slice a1 st.cells.length c1) (.slice a2 st.labels.length c2) v3) := ⟨h4.1, M2.out.trans h4.2⟩; have q3 := (H2.out.box.below hbb).cell; have z3 := (H2.out.box.below hbb).lt; clear hbb h4) | (refine step_append_lies _ rfl (.tmp 27) (.tmp 36) 23 rfl (B + 1) 30 i0 _ 2 24 Tryz.underlying23 hi hz0 hz1 hz2 rfl (by omega) (.slice a2 st.labels.length c2) st.labels.length (st.labels.flatMap lbC) rfl H4.out.1.r2 ⟨w3.heap.size, 0, none⟩ 1 1 [.string S, .int .i64 (st.cells.length : Int)] rfl rfl (World.news_of_block (cs := #[.string S, .int .i64 (st.cells.length : Int)]) (t := 30) (fr := (0, 0)) (heap_alloc_new w3 (.cells #[.string S, .int .i64 (st.cells.length : Int)] 30))) ON.out (by omega) mx (by omega) (by have := H4.out.1.box.lt; omega) _ rfl ?_; intro g cap w5 hown hgrow hat hlt; have h5 := H4.out.1.label ⟨nm, st.cells.length⟩ hgrow hat (by rw [HL.out]; exact hown); have B5 := box_grown H4.out.1.box hgrow (fun e => by have := (own_block H4.out.1.r2 e.symm).1; omega); have H5 : Hid (PI (w5.setCell ⟨B, 1, none⟩ (.slice (some ⟨g, 0, none⟩) (st.labels.length + 1) cap)) B (.slice a1 st.cells.length c1) (.slice (some ⟨g, 0, none⟩) (st.labels.length + 1) cap) v3 ⟨st.cells, st.labels ++ [⟨nm, st.cells.length⟩], st.leads⟩ ∧ Mv w (w5.setCell ⟨B, 1, none⟩ (.slice (some ⟨g, 0, none⟩) (st.labels.length + 1) cap)) B (.slice a1 st.cells.length c1) (.slice a2 st.labels.length c2) v3 (.slice a1 st.cells.length c1) (.slice (some ⟨g, 0, none⟩) (st.labels.length + 1) cap) v3) := ⟨h5.1, H4.out.2.trans h5.2⟩; have q5 := B5.cell; have f5 := B5.free; clear hown hgrow hat h5 B5))
  all_goals (go_wp2; go_ret; exact ⟨rfl, _, _, _, H5.out⟩)
theorem takeLabel_no (st : PS) (B : Nat) (v1 v2 v3 : Value) (nm : List UInt8) (w : World) (h : PI w B v1 v2 v3 st) (hl : nm.length ≤ 80) (hn : st.labels.length ≤ 150) (e : Int)
    (hc : (nameL nm = false ∧ e = 3) ∨ (nameL nm = true ∧ (placeL st.labels nm).isSome = true ∧ e = 8) ∨ (nameL nm = true ∧ (placeL st.labels nm).isSome = false ∧ 20 ≤ st.labels.length ∧ e = 9)) :
    Calls Tryz.prog 25 #[.pointer (some ⟨B, 0, none⟩), .string (bL nm)] w fun e' w' => e' = .returned (.int .i64 e) ∧ ∃ u1 u2 u3, PI w' B u1 u2 u3 st ∧ Mv w w' B v1 v2 v3 u1 u2 u3 := by
  have cN := prog_isName nm w (by omega)
  have cP := fun w h => prog_placeOf st B v1 v2 v3 nm w h hn
  have hB := h.box.lt
  generalize (placeL st.labels nm).getD 0 = D at *
  generalize bL nm = S at *
  obtain ⟨a2, c2, rfl⟩ := own_slice h.r2
  rcases hc with ⟨h1, rfl⟩ | ⟨h1, h2, rfl⟩ | ⟨h1, h2, h3, rfl⟩
  · rw [h1] at cN
    go_enter Tryz.func25, Tryz.ntmps25
    go_wp2_with (go_at_call 42; refine cN.mono ?_; rintro e w1 ⟨rfl, hbb⟩)
    go_ret
    exact ⟨rfl, _, _, _, h.below hbb, Mv.below hbb (Nat.le_of_lt hB)⟩
  · rw [h1] at cN
    rw [h2] at cP
    go_enter Tryz.func25, Tryz.ntmps25
    go_wp2_with (first | (go_at_call 42; refine cN.mono ?_; rintro e w1 ⟨rfl, hbb⟩; have h1 := h.below hbb) | (go_at_call 27; refine (cP _ h1).mono ?_; rintro e w2 ⟨rfl, hb2⟩; have hb3 := Below.step0 hbb hb2))
    go_ret
    exact ⟨rfl, _, _, _, h.below hb3, Mv.below hb3 (Nat.le_of_lt hB)⟩
  · rw [h1] at cN
    rw [h2] at cP
    have gn : (20 : Int) ≤ (st.labels.length : Int) := by omega
    go_enter Tryz.func25, Tryz.ntmps25
    go_wp2_with (first | (go_at_call 42; refine cN.mono ?_; rintro e w1 ⟨rfl, hbb⟩; have h1 := h.below hbb) | (go_at_call 27; refine (cP _ h1).mono ?_; rintro e w2 ⟨rfl, hb2⟩; have hb3 := Below.step0 hbb hb2; have q2 := (h1.below hb2).box.cell; have z2 := (h1.below hb2).box.lt))
    go_ret
    exact ⟨rfl, _, _, _, h.below hb3, Mv.below hb3 (Nat.le_of_lt hB)⟩
theorem prog_takeLabel (st : PS) (B : Nat) (v1 v2 v3 : Value) (nm : List UInt8) (w : World) (h : PI w B v1 v2 v3 st) (hn : st.labels.length ≤ 150) (hl : nm.length ≤ 80) :
    Calls Tryz.prog 25 #[.pointer (some ⟨B, 0, none⟩), .string (bL nm)] w fun e w' => e = .returned (.int .i64 (takeLb st nm).2) ∧ ∃ u1 u2 u3, PI w' B u1 u2 u3 (takeLb st nm).1 ∧ Mv w w' B v1 v2 v3 u1 u2 u3 := by
  unfold takeLb
  by_cases h1 : nameL nm = false
  · rw [if_pos h1]
    exact takeLabel_no st B v1 v2 v3 nm w h hl hn 3 (.inl ⟨h1, rfl⟩)
  · rw [if_neg h1]
    have h1' : nameL nm = true := by simpa using h1
    by_cases h2 : (placeL st.labels nm).isSome = true
    · rw [if_pos h2]
      exact takeLabel_no st B v1 v2 v3 nm w h hl hn 8 (.inr (.inl ⟨h1', h2, rfl⟩))
    · rw [if_neg h2]
      have h2' : (placeL st.labels nm).isSome = false := Bool.eq_false_iff.2 h2
      by_cases h3 : 20 ≤ st.labels.length
      · rw [if_pos h3]
        exact takeLabel_no st B v1 v2 v3 nm w h hl hn 9 (.inr (.inr ⟨h1', h2', h3, rfl⟩))
      · rw [if_neg h3]
        exact takeLabel_yes st B v1 v2 v3 nm w h hl h1' (by cases hp : placeL st.labels nm with
          | none => rfl
          | some x => rw [hp] at h2'; cases h2') h3
end Go.Proofs.YtfafkijcejbcpaaGreatDoor
