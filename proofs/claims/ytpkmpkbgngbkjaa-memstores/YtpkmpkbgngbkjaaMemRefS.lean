/- The document's own Store answers what chapter 8 says of it, for whatever memory, key and value, and turns nothing that was in memory. -/
import Derived.Test.YtpkmpkbgngbkjaaRows
import Derived.Test.YtpkmpkbgngbkjaaBits
import Derived.Test.YtpkmpkbgngbkjaaWithin
import Derived.Test.YtpkmpkbgngbkjaaKeyPure
import Derived.Test.YtpkmpkbgngbkjaaKeyChk
import Derived.Test.YtpkmpkbgngbkjaaCellPure
import Derived.Test.YtpkmpkbgngbkjaaCellChk
import Derived.Test.YtpkmpkbgngbkjaaValsArg
import Derived.Test.YtpkmpkbgngbkjaaMemPure
import Derived.Test.YtpkmpkbgngbkjaaMemChk
import Derived.Test.YtpkmpkbgngbkjaaMemUse
import Derived.Test.YtpkmpkbgngbkjaaMemRef
import Derived.Test.YtpkmpkbgngbkjaaEqVal
import Derived.WalkKit
import Derived.ProofKit
import Derived.OpenShut
import Derived.Deep.CutBlock
import Derived.Deep.AppendLies
import Derived.Deep.RegionHeld3
namespace Go.Proofs.Ytpkmpkbgngbkjaa
open Go.ChangeShapes Go.WideShapes Go.ChangeAt Go.RowKit
set_option linter.unusedSimpArgs false

theorem flat_take (vs : List MV) (m : Nat) : (vs.take m).flatMap mvC = (vs.flatMap mvC).take (m * 7) := by
  induction vs generalizing m with
  | nil => simp
  | cons v vs ih =>
    cases m with
    | zero => simp
    | succ m =>
      rw [List.take_succ_cons, List.flatMap_cons, List.flatMap_cons, ih, List.take_append]
      show mvC v ++ _ = (mvC v).take ((m + 1) * 7) ++ List.take ((m + 1) * 7 - 7) _
      rw [List.take_of_length_le (show (mvC v).length ≤ _ by show 7 ≤ _; omega), show (m + 1) * 7 - 7 = m * 7 by omega]
theorem flat_drop (vs : List MV) (m : Nat) : (vs.drop m).flatMap mvC = (vs.flatMap mvC).drop (m * 7) := by
  induction vs generalizing m with
  | nil => simp
  | cons v vs ih =>
    cases m with
    | zero => simp
    | succ m =>
      rw [List.drop_succ_cons, List.flatMap_cons, ih, List.drop_append]
      show _ = (mvC v).drop ((m + 1) * 7) ++ List.drop ((m + 1) * 7 - 7) _
      rw [List.drop_of_length_le (show (mvC v).length ≤ _ by show 7 ≤ _; omega), List.nil_append, show (m + 1) * 7 - 7 = m * 7 by omega]
theorem ValsAt.take {w : World} {a : Option Addr} {vs : List MV} (h : ValsAt w a vs) (m : Nat) : ValsAt w a (vs.take m) := by
  rcases h with rfl | ⟨B, off, e, hB, hc⟩
  · exact .inl (by simp)
  · refine .inr ⟨B, off, e, hB, fun j u hj => hc j u ?_⟩
    rw [flat_take, List.getElem?_take] at hj
    split at hj
    · exact hj
    · cases hj
theorem vals_drop {w : World} {B off : Nat} {vs : List MV} (hc : ∀ (j : Nat) u, (vs.flatMap mvC)[j]? = some u → w.cell? ⟨B, off + j, none⟩ = some u) (m : Nat) : ∀ (j : Nat) u, ((vs.drop m).flatMap mvC)[j]? = some u → w.cell? ((⟨B, off + m * 7, none⟩ : Addr).add j) = some u := fun j u hj => by
  rw [flat_drop, List.getElem?_drop] at hj
  rw [addr_add, Nat.add_assoc]
  exact hc _ u hj
theorem set_parts {vs : List MV} {j : Nat} {v : MV} (h : j < vs.length) : (vs.set j v).flatMap mvC = (vs.take j).flatMap mvC ++ mvC v ++ (vs.drop (j + 1)).flatMap mvC := by
  rw [List.set_eq_take_append_cons_drop, if_pos h, List.flatMap_append, List.flatMap_cons, List.append_assoc]
theorem one7 (i : Bool) (n p b l a s : Int) : ∀ u ∈ ([.bool i, .int .i64 n, .int .i64 p, .int .i64 b, .int .i64 l, .int .i64 a, .int .i64 s] : List Value), u.oneCell' = true := fun u hu => by
  simp only [List.mem_cons, List.not_mem_nil, or_false] at hu
  rcases hu with rfl | rfl | rfl | rfl | rfl | rfl | rfl <;> rfl
theorem ValsAt.cells {w : World} {B off : Nat} {vs : List MV} (h : ValsAt w (some ⟨B, off, none⟩) vs) : ∀ (j : Nat) u, (vs.flatMap mvC)[j]? = some u → w.cell? ⟨B, off + j, none⟩ = some u := by
  rcases h with rfl | ⟨B', off', e, _, hc⟩
  · intro j u hj
    simp at hj
  · injection e with e
    injection e with e1 e2
    subst e1
    subst e2
    exact hc
theorem own_cap7 {w : World} {base g n cap : Nat} {xs : List Value} (h : w.ownsRow base 26 7 (.slice (some ⟨g, 0, none⟩) n cap) n xs) : n ≤ cap := by
  obtain ⟨_, h⟩ := h
  rcases h with ⟨h, _⟩ | ⟨g', c, cur, e, _, _, h, _⟩
  · cases h
  · injection e with _ _ e
    rw [e]
    exact h
theorem news_old {w : World} {cs : Array Value} {t : TypeId} {j : Nat} {u : Value} (hu : cs.toList[j]? = some u) : (w.alloc (.cells cs t)).cell? ⟨w.heap.size, 0 + j, none⟩ = some u := by
  rw [Nat.zero_add, cell_new]
  simpa using hu
theorem le2 {a : Nat} {w w' : World} (h : Below a w w') (hz : a ≤ w.heap.size) : a ≤ w'.heap.size := Nat.le_trans hz h.size
theorem sz4 {a : Nat} {w : World} {cs : Array Value} {t : TypeId} (hz : a ≤ w.heap.size) : a ≤ (w.drew.alloc (.cells cs t)).heap.size := by
  rw [World.size_alloc]
  exact Nat.le_trans hz (Nat.le_succ _)
set_option maxHeartbeats 4000000 in
theorem ref_store (s : Option Addr) (c : Nat) (vs : List MV) (k : K5) (off : Int) (v : MV) (w : World) (hA : ValsAt w s vs) (hz : vs.length ≤ maxLen) (hcap : vs.length ≤ c) (hk : k5b k) (ho : -9223372036854775808 ≤ off ∧ off ≤ 9223372036854775807) (hc' : c ≤ maxLen) :
    Calls Try.prog 14 #[.slice s vs.length c, .agg #[.int .i64 k.p, .int .i64 k.b, .int .i64 k.l, .int .i64 k.a, .int .i64 k.s], .int .i64 off, .agg #[.bool v.i, .int .i64 v.n, .int .i64 v.p, .int .i64 v.b, .int .i64 v.l, .int .i64 v.a, .int .i64 v.s]] w
      fun e w' => ∃ a d, e = .returned (.tuple #[.slice a (storeL vs k off v).length d, .int .i64 (storeE vs k off v)]) ∧ Below w.heap.size w w' ∧ ValsAt w' a (storeL vs k off v) := by
  have cM := fun w hA => ref_memcheck s c vs w hA
  have cV := fun w => ref_cellcheck v.i v.n v.p v.b v.l v.a v.s w
  have eV : chkV v.i v.n v.p v.b v.l v.a v.s = chk1 v := rfl
  rw [eV] at cV
  have cP := fun w => ref_place s c vs.length k off 2 w hk ho hz
  have HA : Hid (∀ w', Below w.heap.size w w' → ValsAt w' s vs) := fun w' hb => hA.below hb
  clear eV
  by_cases hm : memE vs = 0
  · rw [hm] at cM
    by_cases hc : chk1 v = 0
    · rw [hc] at cV
      by_cases hp : plE vs.length k off 2 = 0
      · have P := plE_yes hp
        have hlt := P.lt
        rw [if_pos hp, hp] at cP
        by_cases hx : v.i = true ∧ inB 16 k.p = false
        · have hE : storeE vs k off v = 12 := by unfold storeE; rw [if_pos hm, if_pos hc, if_pos hp, if_pos hx]
          have hL := store_no (show ¬ storeE vs k off v = 0 by rw [hE]; decide)
          rw [hE, hL]
          obtain ⟨hi, hp16⟩ := hx
          rw [hi] at cV
          generalize pl k off = j at *
          clear hE hL hm hc hp P
          go_enter Try.func14, Try.ntmps14
          go_wp2_with (first | (go_at_call 12; refine (cM _ (HA.out _ (two _ _))).mono ?_; rintro e w1 ⟨rfl, hbb⟩; have B1 := ((Box.new _ _ _).alloc _).below hbb; have B2 := (Box.new1 _ _ _ _).below hbb; have q1 := B1.cell; have q2 := B2.cell; have hB1 := Below.step0 (two _ _) hbb; clear hbb cM) | (go_at_call 25; refine (cV _).mono ?_; rintro e w2 ⟨rfl, hbb⟩; replace B1 := B1.below hbb; replace B2 := B2.below hbb; replace q1 := B1.cell; replace q2 := B2.cell; have hB2 := Below.step0 hB1 hbb; clear hbb cV) | (go_at_call 22; refine (cP _).mono ?_; rintro e w3 ⟨rfl, hbb⟩; replace B1 := B1.below hbb; replace B2 := B2.below hbb; replace q1 := B1.cell; replace q2 := B2.cell; have hB3 := Below.step0 hB2 hbb; clear hbb cP) | (go_at_call 23; refine (ref_within _ _ _).mono ?_; simp only [hp16]; rintro e w4 ⟨rfl, rfl⟩))
          exact bodyPost_ret (v := .tuple #[.slice none 0 0, .int .i64 12]) (by simp [results, Try.results14, go_sem]) rfl ⟨none, 0, rfl, hB3, .inl rfl⟩
        · have hE : storeE vs k off v = 0 := by unfold storeE; rw [if_pos hm, if_pos hc, if_pos hp, if_neg hx]
          have hL := store_set hE
          have l4 := (mem_small hm).1
          rw [hE, hL]
          generalize pl k off = j at *
          have hor : v.i = false ∨ (v.i = true ∧ inB 16 k.p = true) := by
            cases h1 : v.i
            · exact .inl rfl
            · cases h : inB 16 k.p
              · exact absurd ⟨h1, h⟩ hx
              · exact .inr ⟨rfl, rfl⟩
          clear hE hL hm hc hp P hx
          obtain ⟨B, off0, rfl, hBl, hcl⟩ : ∃ B off0 : Nat, s = some ⟨B, off0, none⟩ ∧ B < w.heap.size ∧ ∀ (j : Nat) u, (vs.flatMap mvC)[j]? = some u → w.cell? ⟨B, off0 + j, none⟩ = some u := by
            rcases hA with rfl | h
            · simp at hlt
            · exact h
          have cC := fun w hA => ref_copyv (some ⟨B, off0, none⟩) j c (vs.take j) w hA (by rw [List.length_take]; omega) (by omega)
          have mxc : (c : Int) ≤ 9223372036854775807 := by unfold maxLen at hc'; omega
          have gj : (j : Int) < (vs.length : Int) := by omega
          have jc : (j : Int) ≤ (c : Int) := by omega
          have lc : (vs.length : Int) ≤ (c : Int) := by omega
          have HLT : Hid (j < vs.length) := hlt
          obtain ⟨i0, hi, hz0, hz1, hz2⟩ := info_val
          clear hA hcl hBl
          have jx : (j : Int) + 1 ≤ (c : Int) := by omega
          have j4 : j ≤ 400 := by omega
          have hw1 : IntKind.i64.wrap ((j : Int) + 1) = (j : Int) + 1 := by rw [IntKind.wrap_i64]; omega
          have mxj : j + 1 ≤ maxLen := by unfold maxLen; omega
          have mxn : j + 1 + (vs.length - (j + 1)) ≤ maxLen := by unfold maxLen; omega
          rcases hor with hvi | ⟨hvi, hp16⟩
          · have ONv : ∀ u ∈ ([.bool false, .int .i64 v.n, .int .i64 v.p, .int .i64 v.b, .int .i64 v.l, .int .i64 v.a, .int .i64 v.s] : List Value), u.oneCell' = true := one7 _ _ _ _ _ _ _
            rw [hvi] at cV
            by_cases hja : j + 1 < vs.length
            · have jl : (j : Int) + 1 ≤ (vs.length : Int) := by omega
              have g0 : 0 ≤ (j : Int) + 1 := by omega
              have nc : ¬ c = j + 1 := by omega
              go_enter Try.func14, Try.ntmps14
              go_upto_region 12 with (first | (go_at_call 12; refine (cM _ (HA.out _ (two _ _))).mono ?_; rintro e w1 ⟨rfl, hbb⟩; have B1 := ((Box.new _ _ _).alloc _).below hbb; have B2 := (Box.new1 _ _ _ _).below hbb; have q1 := B1.cell; have q2 := B2.cell; have hB1 := Below.step0 (two _ _) hbb; clear hbb cM) | (go_at_call 25; refine (cV _).mono ?_; rintro e w2 ⟨rfl, hbb⟩; replace B1 := B1.below hbb; replace B2 := B2.below hbb; replace q1 := B1.cell; replace q2 := B2.cell; have hB2 := Below.step0 hB1 hbb; clear hbb cV) | (go_at_call 22; refine (cP _).mono ?_; rintro e w3 ⟨rfl, hbb⟩; replace B1 := B1.below hbb; replace B2 := B2.below hbb; replace q1 := B1.cell; replace q2 := B2.cell; have hB3 := Below.step0 hB2 hbb; clear hbb cP) | (go_at_call 23; refine (ref_within _ _ _).mono ?_; simp only [hp16]; rintro e w4 ⟨rfl, rfl⟩))
              have sz3 : w.heap.size + 2 ≤ w3.heap.size := B2.lt
              refine wp_region_held_drew (S := Below (w.heap.size + 2) w3) (by kernel_rfl) ((Below.refl _ _).drew) (fun hHeld => ?_)
              refine wpAnyH_take (i := 0) (v := .slice (some ⟨B, off0, none⟩) vs.length c) rfl (by kernel_rfl) (by kernel_rfl) (by kernel_rfl) (fun _ _ _ h => h) (Or.inl ⟨by rfl, fun w hSw => by go_simp⟩) (by assumption) ?_
              try simp only [Act.put, List.getElem_toArray, List.getElem_cons_zero, List.getElem_cons_succ, List.setIfInBounds_toArray, List.set_cons_zero, List.set_cons_succ]
              refine wpAnyH_take (i := 1) (v := .int .i64 (j : Int)) rfl (by kernel_rfl) (by kernel_rfl) (by kernel_rfl) (fun _ _ _ h => h) (Or.inl ⟨by rfl, fun w hSw => by go_simp⟩) (by assumption) ?_
              try simp only [Act.put, List.getElem_toArray, List.getElem_cons_zero, List.getElem_cons_succ, List.setIfInBounds_toArray, List.set_cons_zero, List.set_cons_succ]
              refine wpAnyH_take (i := 2) (v := .slice (some ⟨B, off0, none⟩) j c) rfl (by kernel_rfl) (by kernel_rfl) (by kernel_rfl) (fun _ _ _ h => h) (Or.inl ⟨by rfl, fun w hSw => by go_simp⟩) (by assumption) ?_
              try simp only [Act.put, List.getElem_toArray, List.getElem_cons_zero, List.getElem_cons_succ, List.setIfInBounds_toArray, List.set_cons_zero, List.set_cons_succ]
              refine wpAnyH_take (i := 4) (v := .agg #[.bool false, .int .i64 v.n, .int .i64 v.p, .int .i64 v.b, .int .i64 v.l, .int .i64 v.a, .int .i64 v.s]) rfl (by kernel_rfl) (by kernel_rfl) (by kernel_rfl) (fun _ _ _ h => h) (Or.inl ⟨by rfl, fun w hSw => by have q := fun o => (hSw.cell (p := ⟨_, o, none⟩) (Nat.lt_succ_self _)).trans (q2 o); go_simp⟩) (by assumption) ?_
              try simp only [Act.put, List.getElem_toArray, List.getElem_cons_zero, List.getElem_cons_succ, List.setIfInBounds_toArray, List.set_cons_zero, List.set_cons_succ]
              refine wpAnyH_take (i := 7) (v := .slice (some ⟨B, off0, none⟩) vs.length c) rfl (by kernel_rfl) (by kernel_rfl) (by kernel_rfl) (fun _ _ _ h => h) (Or.inl ⟨by rfl, fun w hSw => by go_simp⟩) (by assumption) ?_
              try simp only [Act.put, List.getElem_toArray, List.getElem_cons_zero, List.getElem_cons_succ, List.setIfInBounds_toArray, List.set_cons_zero, List.set_cons_succ]
              refine wpAnyH_take (i := 8) (v := .int .i64 (j : Int)) rfl (by kernel_rfl) (by kernel_rfl) (by kernel_rfl) (fun _ _ _ h => h) (Or.inl ⟨by rfl, fun w hSw => by go_simp⟩) (by assumption) ?_
              try simp only [Act.put, List.getElem_toArray, List.getElem_cons_zero, List.getElem_cons_succ, List.setIfInBounds_toArray, List.set_cons_zero, List.set_cons_succ]
              refine wpAnyH_take (i := 9) (v := .int .i64 ((j : Int) + 1)) rfl (by kernel_rfl) (by kernel_rfl) (by kernel_rfl) (fun _ _ _ h => h) (Or.inl ⟨by rfl, fun w hSw => by go_simp⟩) (by assumption) ?_
              try simp only [Act.put, List.getElem_toArray, List.getElem_cons_zero, List.getElem_cons_succ, List.setIfInBounds_toArray, List.set_cons_zero, List.set_cons_succ]
              refine wpAnyH_take (i := 10) (v := .slice (some ⟨B, off0 + (j + 1) * 7, none⟩) (vs.length - (j + 1)) (c - (j + 1))) rfl (by kernel_rfl) (by kernel_rfl) (by kernel_rfl) (fun _ _ _ h => h) (Or.inl ⟨by rfl, fun w hSw => by go_simp⟩) (by assumption) ?_
              try simp only [Act.put, List.getElem_toArray, List.getElem_cons_zero, List.getElem_cons_succ, List.setIfInBounds_toArray, List.set_cons_zero, List.set_cons_succ]
              refine wpAnyH_ready (rs := [3, 5]) (by kernel_rfl) (by simp) (AllReadyH.cons rfl (fun K hK => ?_) (AllReadyH.cons rfl (fun K hK => ?_) AllReadyH.nil))
              · go_simp
                refine (cC _ ((HA.out _ (hB3.trans (hHeld.mono (by omega)))).take j)).mono ?_
                rintro e w5 ⟨V, rfl, hbb, o5⟩
                refine hK.out _ _ (hHeld.trans (hbb.mono (le2 hHeld sz3))) (fun hHeld => ?_)
                clear hK K
                try simp only [Act.put, List.getElem_toArray, List.getElem_cons_zero, List.getElem_cons_succ, List.setIfInBounds_toArray, List.set_cons_zero, List.set_cons_succ]
                refine wpAnyH_ready (rs := [5]) (by kernel_rfl) (by simp) (AllReadyH.cons rfl (fun K hK => ?_) AllReadyH.nil)
                go_simp
                refine hK.out _ _ (hHeld.alloc (le2 hHeld sz3) _) (fun hHeld => ?_)
                clear hK K
                try simp only [Act.put, List.getElem_toArray, List.getElem_cons_zero, List.getElem_cons_succ, List.setIfInBounds_toArray, List.set_cons_zero, List.set_cons_succ]
                refine wpAnyH_ready (rs := [6]) (by kernel_rfl) (by simp) (AllReadyH.cons rfl (fun K hK => ?_) AllReadyH.nil)
                refine step_append_lies _ rfl (.tmp 45) (.tmp 47) 22 rfl _ 26 i0 _ 7 56 Try.underlying22 hi hz0 hz1 hz2 rfl (by decide) V j ((vs.take j).flatMap mvC) rfl (o5.alloc _) ⟨w5.heap.size, 0, none⟩ 1 1 [.bool false, .int .i64 v.n, .int .i64 v.p, .int .i64 v.b, .int .i64 v.l, .int .i64 v.a, .int .i64 v.s] rfl rfl (World.news_of_block (cs := #[.bool false, .int .i64 v.n, .int .i64 v.p, .int .i64 v.b, .int .i64 v.l, .int .i64 v.a, .int .i64 v.s]) (t := 26) (fr := (0, 0)) (heap_alloc_new w5 (.cells #[.bool false, .int .i64 v.n, .int .i64 v.p, .int .i64 v.b, .int .i64 v.l, .int .i64 v.a, .int .i64 v.s] 26))) ONv (by decide) (by omega) (by omega) hHeld.size _ rfl ?_
                intro g cap w6 o6 hg6 hat6 hlt6
                have s6 := Below.grown hHeld hg6 (le2 hHeld sz3) (fun kk e => Nat.le_trans (show w.heap.size + 2 ≤ w3.drew.heap.size from sz3) (World.ownsRow.lt o5 kk e).1)
                refine hK.out _ _ s6 (fun hHeld => ?_)
                have BB := Nat.le_trans (show w.heap.size + 2 ≤ w3.drew.heap.size from sz3) (Nat.le_refl _)
                clear hK K hg6 hat6 s6
                try simp only [Act.put, List.getElem_toArray, List.getElem_cons_zero, List.getElem_cons_succ, List.setIfInBounds_toArray, List.set_cons_zero, List.set_cons_succ]
                refine wpAnyH_ready (rs := [11]) (by kernel_rfl) (by simp) (AllReadyH.cons rfl (fun K hK => ?_) AllReadyH.nil)
                have hc6 := (HA.out _ (hB3.trans (hHeld.mono (by omega)))).cells
                refine step_append_lies _ rfl (.tmp 48) (.tmp 52) 22 rfl _ 26 i0 _ 7 56 Try.underlying22 hi hz0 hz1 hz2 rfl (by decide) (.slice (some ⟨g, 0, none⟩) (j + 1) cap) (j + 1) _ rfl o6 ⟨B, off0 + (j + 1) * 7, none⟩ (vs.length - (j + 1)) (c - (j + 1)) ((vs.drop (j + 1)).flatMap mvC) rfl (by rw [mv_len, List.length_drop]) (vals_drop hc6 (j + 1)) (mv_one _) (by omega) (by omega) (by omega) (Nat.le_of_lt (Nat.lt_of_le_of_lt (World.ownsRow.lt o6 g rfl).1 (World.ownsRow.lt o6 g rfl).2)) _ rfl ?_
                intro g7 cap7 w7 o7 hg7 hat7 hlt7
                have s7 := Below.grown hHeld hg7 (le2 hHeld sz3) (fun kk e => Nat.le_trans BB (World.ownsRow.lt o6 kk e).1)
                refine hK.out _ _ s7 (fun hHeld => ?_)
                clear hK K hg7 hat7 s7
                try simp only [Act.put, List.getElem_toArray, List.getElem_cons_zero, List.getElem_cons_succ, List.setIfInBounds_toArray, List.set_cons_zero, List.set_cons_succ]
                refine wpAnyH_take (i := 12) (v := .slice (some ⟨g7, 0, none⟩) (j + 1 + (vs.length - (j + 1))) cap7) rfl (by kernel_rfl) (by kernel_rfl) (by kernel_rfl) (fun _ _ _ h => h) (Or.inl ⟨by rfl, fun w hSw => by go_simp⟩) (by assumption) ?_
                try simp only [Act.put, List.getElem_toArray, List.getElem_cons_zero, List.getElem_cons_succ, List.setIfInBounds_toArray, List.set_cons_zero, List.set_cons_succ]
                refine wpAnyH_take (i := 13) (v := .int .i64 0) rfl (by kernel_rfl) (by kernel_rfl) (by kernel_rfl) (fun _ _ _ h => h) (Or.inl ⟨by rfl, fun w hSw => by go_simp⟩) (by assumption) ?_
                try simp only [Act.put, List.getElem_toArray, List.getElem_cons_zero, List.getElem_cons_succ, List.setIfInBounds_toArray, List.set_cons_zero, List.set_cons_succ]
                refine wpAnyH_done (by kernel_rfl) ?_ _
                go_wp2
                rw [show ([.bool false, .int .i64 v.n, .int .i64 v.p, .int .i64 v.b, .int .i64 v.l, .int .i64 v.a, .int .i64 v.s] : List Value) = mvC v by unfold mvC; rw [hvi], ← set_parts HLT.out] at o7
                obtain ⟨aa, dd, e7, _, A7⟩ := own_vals (by rw [List.length_set]; omega) o7
                exact bodyPost_ret (v := .tuple #[.slice (some ⟨g7, 0, none⟩) (j + 1 + (vs.length - (j + 1))) cap7, .int .i64 0]) (by simp [results, Try.results14, go_sem]) rfl ⟨some ⟨g7, 0, none⟩, cap7, by rw [List.length_set, Nat.add_sub_cancel' (by omega)], hB3.trans (hHeld.mono (by omega)), by injection e7 with e7; rw [e7]; exact A7⟩
              · go_simp
                refine hK.out _ _ (hHeld.alloc (le2 hHeld sz3) _) (fun hHeld => ?_)
                clear hK K
                try simp only [Act.put, List.getElem_toArray, List.getElem_cons_zero, List.getElem_cons_succ, List.setIfInBounds_toArray, List.set_cons_zero, List.set_cons_succ]
                refine wpAnyH_ready (rs := [3]) (by kernel_rfl) (by simp) (AllReadyH.cons rfl (fun K hK => ?_) AllReadyH.nil)
                go_simp
                refine (cC _ ((HA.out _ (hB3.trans (hHeld.mono (by omega)))).take j)).mono ?_
                rintro e w5 ⟨V, rfl, hbb, o5⟩
                refine hK.out _ _ (hHeld.trans (hbb.mono (le2 hHeld sz3))) (fun hHeld => ?_)
                clear hK K
                try simp only [Act.put, List.getElem_toArray, List.getElem_cons_zero, List.getElem_cons_succ, List.setIfInBounds_toArray, List.set_cons_zero, List.set_cons_succ]
                refine wpAnyH_ready (rs := [6]) (by kernel_rfl) (by simp) (AllReadyH.cons rfl (fun K hK => ?_) AllReadyH.nil)
                refine step_append_lies _ rfl (.tmp 45) (.tmp 47) 22 rfl _ 26 i0 _ 7 56 Try.underlying22 hi hz0 hz1 hz2 rfl (by decide) V j ((vs.take j).flatMap mvC) rfl o5 ⟨w3.heap.size, 0, none⟩ 1 1 [.bool false, .int .i64 v.n, .int .i64 v.p, .int .i64 v.b, .int .i64 v.l, .int .i64 v.a, .int .i64 v.s] rfl rfl (fun jj u hu => by rw [addr_add, hbb.cell (p := ⟨w3.heap.size, 0 + jj, none⟩) (by simp)]; exact news_old (w := w3.drew) hu) ONv (by decide) (by omega) (by omega) hbb.size _ rfl ?_
                intro g cap w6 o6 hg6 hat6 hlt6
                have s6 := Below.grown hHeld hg6 (le2 hHeld sz3) (fun kk e => Nat.le_trans (sz4 (cs := #[.bool false, .int .i64 v.n, .int .i64 v.p, .int .i64 v.b, .int .i64 v.l, .int .i64 v.a, .int .i64 v.s]) (t := 26) sz3) (World.ownsRow.lt o5 kk e).1)
                refine hK.out _ _ s6 (fun hHeld => ?_)
                have BB := Nat.le_trans (sz4 (cs := #[.bool false, .int .i64 v.n, .int .i64 v.p, .int .i64 v.b, .int .i64 v.l, .int .i64 v.a, .int .i64 v.s]) (t := 26) sz3) (Nat.le_refl _)
                clear hK K hg6 hat6 s6
                try simp only [Act.put, List.getElem_toArray, List.getElem_cons_zero, List.getElem_cons_succ, List.setIfInBounds_toArray, List.set_cons_zero, List.set_cons_succ]
                refine wpAnyH_ready (rs := [11]) (by kernel_rfl) (by simp) (AllReadyH.cons rfl (fun K hK => ?_) AllReadyH.nil)
                have hc6 := (HA.out _ (hB3.trans (hHeld.mono (by omega)))).cells
                refine step_append_lies _ rfl (.tmp 48) (.tmp 52) 22 rfl _ 26 i0 _ 7 56 Try.underlying22 hi hz0 hz1 hz2 rfl (by decide) (.slice (some ⟨g, 0, none⟩) (j + 1) cap) (j + 1) _ rfl o6 ⟨B, off0 + (j + 1) * 7, none⟩ (vs.length - (j + 1)) (c - (j + 1)) ((vs.drop (j + 1)).flatMap mvC) rfl (by rw [mv_len, List.length_drop]) (vals_drop hc6 (j + 1)) (mv_one _) (by omega) (by omega) (by omega) (Nat.le_of_lt (Nat.lt_of_le_of_lt (World.ownsRow.lt o6 g rfl).1 (World.ownsRow.lt o6 g rfl).2)) _ rfl ?_
                intro g7 cap7 w7 o7 hg7 hat7 hlt7
                have s7 := Below.grown hHeld hg7 (le2 hHeld sz3) (fun kk e => Nat.le_trans BB (World.ownsRow.lt o6 kk e).1)
                refine hK.out _ _ s7 (fun hHeld => ?_)
                clear hK K hg7 hat7 s7
                try simp only [Act.put, List.getElem_toArray, List.getElem_cons_zero, List.getElem_cons_succ, List.setIfInBounds_toArray, List.set_cons_zero, List.set_cons_succ]
                refine wpAnyH_take (i := 12) (v := .slice (some ⟨g7, 0, none⟩) (j + 1 + (vs.length - (j + 1))) cap7) rfl (by kernel_rfl) (by kernel_rfl) (by kernel_rfl) (fun _ _ _ h => h) (Or.inl ⟨by rfl, fun w hSw => by go_simp⟩) (by assumption) ?_
                try simp only [Act.put, List.getElem_toArray, List.getElem_cons_zero, List.getElem_cons_succ, List.setIfInBounds_toArray, List.set_cons_zero, List.set_cons_succ]
                refine wpAnyH_take (i := 13) (v := .int .i64 0) rfl (by kernel_rfl) (by kernel_rfl) (by kernel_rfl) (fun _ _ _ h => h) (Or.inl ⟨by rfl, fun w hSw => by go_simp⟩) (by assumption) ?_
                try simp only [Act.put, List.getElem_toArray, List.getElem_cons_zero, List.getElem_cons_succ, List.setIfInBounds_toArray, List.set_cons_zero, List.set_cons_succ]
                refine wpAnyH_done (by kernel_rfl) ?_ _
                go_wp2
                rw [show ([.bool false, .int .i64 v.n, .int .i64 v.p, .int .i64 v.b, .int .i64 v.l, .int .i64 v.a, .int .i64 v.s] : List Value) = mvC v by unfold mvC; rw [hvi], ← set_parts HLT.out] at o7
                obtain ⟨aa, dd, e7, _, A7⟩ := own_vals (by rw [List.length_set]; omega) o7
                exact bodyPost_ret (v := .tuple #[.slice (some ⟨g7, 0, none⟩) (j + 1 + (vs.length - (j + 1))) cap7, .int .i64 0]) (by simp [results, Try.results14, go_sem]) rfl ⟨some ⟨g7, 0, none⟩, cap7, by rw [List.length_set, Nat.add_sub_cancel' (by omega)], hB3.trans (hHeld.mono (by omega)), by injection e7 with e7; rw [e7]; exact A7⟩
            · have jl : (j : Int) + 1 ≤ (vs.length : Int) := by omega
              have g0 : 0 ≤ (j : Int) + 1 := by omega
              have heq : vs.length = j + 1 := by omega
              have hs0 : vs.length - (j + 1) = 0 := by omega
              have HEQ : Hid (vs.length = j + 1) := heq
              clear heq
              by_cases nc : c = j + 1
              · have nc' : j + 1 = c := nc.symm
                have hs0' : vs.length - c = 0 := by omega
                clear nc hs0
                go_enter Try.func14, Try.ntmps14
                go_upto_region 12 with (first | (go_at_call 12; refine (cM _ (HA.out _ (two _ _))).mono ?_; rintro e w1 ⟨rfl, hbb⟩; have B1 := ((Box.new _ _ _).alloc _).below hbb; have B2 := (Box.new1 _ _ _ _).below hbb; have q1 := B1.cell; have q2 := B2.cell; have hB1 := Below.step0 (two _ _) hbb; clear hbb cM) | (go_at_call 25; refine (cV _).mono ?_; rintro e w2 ⟨rfl, hbb⟩; replace B1 := B1.below hbb; replace B2 := B2.below hbb; replace q1 := B1.cell; replace q2 := B2.cell; have hB2 := Below.step0 hB1 hbb; clear hbb cV) | (go_at_call 22; refine (cP _).mono ?_; rintro e w3 ⟨rfl, hbb⟩; replace B1 := B1.below hbb; replace B2 := B2.below hbb; replace q1 := B1.cell; replace q2 := B2.cell; have hB3 := Below.step0 hB2 hbb; clear hbb cP) | (go_at_call 23; refine (ref_within _ _ _).mono ?_; simp only [hp16]; rintro e w4 ⟨rfl, rfl⟩))
                have sz3 : w.heap.size + 2 ≤ w3.heap.size := B2.lt
                refine wp_region_held_drew (S := Below (w.heap.size + 2) w3) (by kernel_rfl) ((Below.refl _ _).drew) (fun hHeld => ?_)
                refine wpAnyH_take (i := 0) (v := .slice (some ⟨B, off0, none⟩) vs.length c) rfl (by kernel_rfl) (by kernel_rfl) (by kernel_rfl) (fun _ _ _ h => h) (Or.inl ⟨by rfl, fun w hSw => by go_simp⟩) (by assumption) ?_
                try simp only [Act.put, List.getElem_toArray, List.getElem_cons_zero, List.getElem_cons_succ, List.setIfInBounds_toArray, List.set_cons_zero, List.set_cons_succ]
                refine wpAnyH_take (i := 1) (v := .int .i64 (j : Int)) rfl (by kernel_rfl) (by kernel_rfl) (by kernel_rfl) (fun _ _ _ h => h) (Or.inl ⟨by rfl, fun w hSw => by go_simp⟩) (by assumption) ?_
                try simp only [Act.put, List.getElem_toArray, List.getElem_cons_zero, List.getElem_cons_succ, List.setIfInBounds_toArray, List.set_cons_zero, List.set_cons_succ]
                refine wpAnyH_take (i := 2) (v := .slice (some ⟨B, off0, none⟩) j c) rfl (by kernel_rfl) (by kernel_rfl) (by kernel_rfl) (fun _ _ _ h => h) (Or.inl ⟨by rfl, fun w hSw => by go_simp⟩) (by assumption) ?_
                try simp only [Act.put, List.getElem_toArray, List.getElem_cons_zero, List.getElem_cons_succ, List.setIfInBounds_toArray, List.set_cons_zero, List.set_cons_succ]
                refine wpAnyH_take (i := 4) (v := .agg #[.bool false, .int .i64 v.n, .int .i64 v.p, .int .i64 v.b, .int .i64 v.l, .int .i64 v.a, .int .i64 v.s]) rfl (by kernel_rfl) (by kernel_rfl) (by kernel_rfl) (fun _ _ _ h => h) (Or.inl ⟨by rfl, fun w hSw => by have q := fun o => (hSw.cell (p := ⟨_, o, none⟩) (Nat.lt_succ_self _)).trans (q2 o); go_simp⟩) (by assumption) ?_
                try simp only [Act.put, List.getElem_toArray, List.getElem_cons_zero, List.getElem_cons_succ, List.setIfInBounds_toArray, List.set_cons_zero, List.set_cons_succ]
                refine wpAnyH_take (i := 7) (v := .slice (some ⟨B, off0, none⟩) vs.length c) rfl (by kernel_rfl) (by kernel_rfl) (by kernel_rfl) (fun _ _ _ h => h) (Or.inl ⟨by rfl, fun w hSw => by go_simp⟩) (by assumption) ?_
                try simp only [Act.put, List.getElem_toArray, List.getElem_cons_zero, List.getElem_cons_succ, List.setIfInBounds_toArray, List.set_cons_zero, List.set_cons_succ]
                refine wpAnyH_take (i := 8) (v := .int .i64 (j : Int)) rfl (by kernel_rfl) (by kernel_rfl) (by kernel_rfl) (fun _ _ _ h => h) (Or.inl ⟨by rfl, fun w hSw => by go_simp⟩) (by assumption) ?_
                try simp only [Act.put, List.getElem_toArray, List.getElem_cons_zero, List.getElem_cons_succ, List.setIfInBounds_toArray, List.set_cons_zero, List.set_cons_succ]
                refine wpAnyH_take (i := 9) (v := .int .i64 ((j : Int) + 1)) rfl (by kernel_rfl) (by kernel_rfl) (by kernel_rfl) (fun _ _ _ h => h) (Or.inl ⟨by rfl, fun w hSw => by go_simp⟩) (by assumption) ?_
                try simp only [Act.put, List.getElem_toArray, List.getElem_cons_zero, List.getElem_cons_succ, List.setIfInBounds_toArray, List.set_cons_zero, List.set_cons_succ]
                refine wpAnyH_take (i := 10) (v := .slice (some ⟨B, off0, none⟩) 0 0) rfl (by kernel_rfl) (by kernel_rfl) (by kernel_rfl) (fun _ _ _ h => h) (Or.inl ⟨by rfl, fun w hSw => by go_simp⟩) (by assumption) ?_
                try simp only [Act.put, List.getElem_toArray, List.getElem_cons_zero, List.getElem_cons_succ, List.setIfInBounds_toArray, List.set_cons_zero, List.set_cons_succ]
                have HNC : Hid (j + 1 = c) := nc'
                clear nc' hs0'
                refine wpAnyH_ready (rs := [3, 5]) (by kernel_rfl) (by simp) (AllReadyH.cons rfl (fun K hK => ?_) (AllReadyH.cons rfl (fun K hK => ?_) AllReadyH.nil))
                · go_simp
                  refine (cC _ ((HA.out _ (hB3.trans (hHeld.mono (by omega)))).take j)).mono ?_
                  rintro e w5 ⟨V, rfl, hbb, o5⟩
                  refine hK.out _ _ (hHeld.trans (hbb.mono (le2 hHeld sz3))) (fun hHeld => ?_)
                  clear hK K
                  try simp only [Act.put, List.getElem_toArray, List.getElem_cons_zero, List.getElem_cons_succ, List.setIfInBounds_toArray, List.set_cons_zero, List.set_cons_succ]
                  refine wpAnyH_ready (rs := [5]) (by kernel_rfl) (by simp) (AllReadyH.cons rfl (fun K hK => ?_) AllReadyH.nil)
                  go_simp
                  refine hK.out _ _ (hHeld.alloc (le2 hHeld sz3) _) (fun hHeld => ?_)
                  clear hK K
                  try simp only [Act.put, List.getElem_toArray, List.getElem_cons_zero, List.getElem_cons_succ, List.setIfInBounds_toArray, List.set_cons_zero, List.set_cons_succ]
                  refine wpAnyH_ready (rs := [6]) (by kernel_rfl) (by simp) (AllReadyH.cons rfl (fun K hK => ?_) AllReadyH.nil)
                  refine step_append_lies _ rfl (.tmp 45) (.tmp 47) 22 rfl _ 26 i0 _ 7 56 Try.underlying22 hi hz0 hz1 hz2 rfl (by decide) V j ((vs.take j).flatMap mvC) rfl (o5.alloc _) ⟨w5.heap.size, 0, none⟩ 1 1 [.bool false, .int .i64 v.n, .int .i64 v.p, .int .i64 v.b, .int .i64 v.l, .int .i64 v.a, .int .i64 v.s] rfl rfl (World.news_of_block (cs := #[.bool false, .int .i64 v.n, .int .i64 v.p, .int .i64 v.b, .int .i64 v.l, .int .i64 v.a, .int .i64 v.s]) (t := 26) (fr := (0, 0)) (heap_alloc_new w5 (.cells #[.bool false, .int .i64 v.n, .int .i64 v.p, .int .i64 v.b, .int .i64 v.l, .int .i64 v.a, .int .i64 v.s] 26))) ONv (by decide) (by omega) (by omega) hHeld.size _ rfl ?_
                  intro g cap w6 o6 hg6 hat6 hlt6
                  have s6 := Below.grown hHeld hg6 (le2 hHeld sz3) (fun kk e => Nat.le_trans (show w.heap.size + 2 ≤ w3.drew.heap.size from sz3) (World.ownsRow.lt o5 kk e).1)
                  refine hK.out _ _ s6 (fun hHeld => ?_)
                  have BB := Nat.le_trans (show w.heap.size + 2 ≤ w3.drew.heap.size from sz3) (Nat.le_refl _)
                  clear hK K hg6 hat6 s6
                  try simp only [Act.put, List.getElem_toArray, List.getElem_cons_zero, List.getElem_cons_succ, List.setIfInBounds_toArray, List.set_cons_zero, List.set_cons_succ]
                  refine wpAnyH_ready (rs := [11]) (by kernel_rfl) (by simp) (AllReadyH.cons rfl (fun K hK => ?_) AllReadyH.nil)
                  have hc6 := own_cap7 o6
                  go_simp
                  refine hK.out _ _ hHeld (fun hHeld => ?_)
                  clear hK K
                  try simp only [Act.put, List.getElem_toArray, List.getElem_cons_zero, List.getElem_cons_succ, List.setIfInBounds_toArray, List.set_cons_zero, List.set_cons_succ]
                  refine wpAnyH_take (i := 12) (v := .slice (some ⟨g, 0, none⟩) (j + 1) cap) rfl (by kernel_rfl) (by kernel_rfl) (by kernel_rfl) (fun _ _ _ h => h) (Or.inl ⟨by rfl, fun w hSw => by go_simp⟩) (by assumption) ?_
                  try simp only [Act.put, List.getElem_toArray, List.getElem_cons_zero, List.getElem_cons_succ, List.setIfInBounds_toArray, List.set_cons_zero, List.set_cons_succ]
                  refine wpAnyH_take (i := 13) (v := .int .i64 0) rfl (by kernel_rfl) (by kernel_rfl) (by kernel_rfl) (fun _ _ _ h => h) (Or.inl ⟨by rfl, fun w hSw => by go_simp⟩) (by assumption) ?_
                  try simp only [Act.put, List.getElem_toArray, List.getElem_cons_zero, List.getElem_cons_succ, List.setIfInBounds_toArray, List.set_cons_zero, List.set_cons_succ]
                  refine wpAnyH_done (by kernel_rfl) ?_ _
                  go_wp2
                  rw [show ([.bool false, .int .i64 v.n, .int .i64 v.p, .int .i64 v.b, .int .i64 v.l, .int .i64 v.a, .int .i64 v.s] : List Value) = mvC v by unfold mvC; rw [hvi]] at o6
                  have e6 := set_parts (v := v) HLT.out
                  rw [List.drop_of_length_le (by omega), List.flatMap_nil, List.append_nil] at e6
                  rw [← e6] at o6
                  obtain ⟨aa, dd, e7, _, A7⟩ := own_vals (by rw [List.length_set]; omega) o6
                  exact bodyPost_ret (v := .tuple #[.slice (some ⟨g, 0, none⟩) (j + 1) cap, .int .i64 0]) (by simp [results, Try.results14, go_sem]) rfl ⟨some ⟨g, 0, none⟩, cap, by rw [List.length_set, HEQ.out], hB3.trans (hHeld.mono (by omega)), by injection e7 with e7; rw [e7]; exact A7⟩
                · go_simp
                  refine hK.out _ _ (hHeld.alloc (le2 hHeld sz3) _) (fun hHeld => ?_)
                  clear hK K
                  try simp only [Act.put, List.getElem_toArray, List.getElem_cons_zero, List.getElem_cons_succ, List.setIfInBounds_toArray, List.set_cons_zero, List.set_cons_succ]
                  refine wpAnyH_ready (rs := [3]) (by kernel_rfl) (by simp) (AllReadyH.cons rfl (fun K hK => ?_) AllReadyH.nil)
                  go_simp
                  refine (cC _ ((HA.out _ (hB3.trans (hHeld.mono (by omega)))).take j)).mono ?_
                  rintro e w5 ⟨V, rfl, hbb, o5⟩
                  refine hK.out _ _ (hHeld.trans (hbb.mono (le2 hHeld sz3))) (fun hHeld => ?_)
                  clear hK K
                  try simp only [Act.put, List.getElem_toArray, List.getElem_cons_zero, List.getElem_cons_succ, List.setIfInBounds_toArray, List.set_cons_zero, List.set_cons_succ]
                  refine wpAnyH_ready (rs := [6]) (by kernel_rfl) (by simp) (AllReadyH.cons rfl (fun K hK => ?_) AllReadyH.nil)
                  refine step_append_lies _ rfl (.tmp 45) (.tmp 47) 22 rfl _ 26 i0 _ 7 56 Try.underlying22 hi hz0 hz1 hz2 rfl (by decide) V j ((vs.take j).flatMap mvC) rfl o5 ⟨w3.heap.size, 0, none⟩ 1 1 [.bool false, .int .i64 v.n, .int .i64 v.p, .int .i64 v.b, .int .i64 v.l, .int .i64 v.a, .int .i64 v.s] rfl rfl (fun jj u hu => by rw [addr_add, hbb.cell (p := ⟨w3.heap.size, 0 + jj, none⟩) (by simp)]; exact news_old (w := w3.drew) hu) ONv (by decide) (by omega) (by omega) hbb.size _ rfl ?_
                  intro g cap w6 o6 hg6 hat6 hlt6
                  have s6 := Below.grown hHeld hg6 (le2 hHeld sz3) (fun kk e => Nat.le_trans (sz4 (cs := #[.bool false, .int .i64 v.n, .int .i64 v.p, .int .i64 v.b, .int .i64 v.l, .int .i64 v.a, .int .i64 v.s]) (t := 26) sz3) (World.ownsRow.lt o5 kk e).1)
                  refine hK.out _ _ s6 (fun hHeld => ?_)
                  have BB := Nat.le_trans (sz4 (cs := #[.bool false, .int .i64 v.n, .int .i64 v.p, .int .i64 v.b, .int .i64 v.l, .int .i64 v.a, .int .i64 v.s]) (t := 26) sz3) (Nat.le_refl _)
                  clear hK K hg6 hat6 s6
                  try simp only [Act.put, List.getElem_toArray, List.getElem_cons_zero, List.getElem_cons_succ, List.setIfInBounds_toArray, List.set_cons_zero, List.set_cons_succ]
                  refine wpAnyH_ready (rs := [11]) (by kernel_rfl) (by simp) (AllReadyH.cons rfl (fun K hK => ?_) AllReadyH.nil)
                  have hc6 := own_cap7 o6
                  go_simp
                  refine hK.out _ _ hHeld (fun hHeld => ?_)
                  clear hK K
                  try simp only [Act.put, List.getElem_toArray, List.getElem_cons_zero, List.getElem_cons_succ, List.setIfInBounds_toArray, List.set_cons_zero, List.set_cons_succ]
                  refine wpAnyH_take (i := 12) (v := .slice (some ⟨g, 0, none⟩) (j + 1) cap) rfl (by kernel_rfl) (by kernel_rfl) (by kernel_rfl) (fun _ _ _ h => h) (Or.inl ⟨by rfl, fun w hSw => by go_simp⟩) (by assumption) ?_
                  try simp only [Act.put, List.getElem_toArray, List.getElem_cons_zero, List.getElem_cons_succ, List.setIfInBounds_toArray, List.set_cons_zero, List.set_cons_succ]
                  refine wpAnyH_take (i := 13) (v := .int .i64 0) rfl (by kernel_rfl) (by kernel_rfl) (by kernel_rfl) (fun _ _ _ h => h) (Or.inl ⟨by rfl, fun w hSw => by go_simp⟩) (by assumption) ?_
                  try simp only [Act.put, List.getElem_toArray, List.getElem_cons_zero, List.getElem_cons_succ, List.setIfInBounds_toArray, List.set_cons_zero, List.set_cons_succ]
                  refine wpAnyH_done (by kernel_rfl) ?_ _
                  go_wp2
                  rw [show ([.bool false, .int .i64 v.n, .int .i64 v.p, .int .i64 v.b, .int .i64 v.l, .int .i64 v.a, .int .i64 v.s] : List Value) = mvC v by unfold mvC; rw [hvi]] at o6
                  have e6 := set_parts (v := v) HLT.out
                  rw [List.drop_of_length_le (by omega), List.flatMap_nil, List.append_nil] at e6
                  rw [← e6] at o6
                  obtain ⟨aa, dd, e7, _, A7⟩ := own_vals (by rw [List.length_set]; omega) o6
                  exact bodyPost_ret (v := .tuple #[.slice (some ⟨g, 0, none⟩) (j + 1) cap, .int .i64 0]) (by simp [results, Try.results14, go_sem]) rfl ⟨some ⟨g, 0, none⟩, cap, by rw [List.length_set, HEQ.out], hB3.trans (hHeld.mono (by omega)), by injection e7 with e7; rw [e7]; exact A7⟩
              · go_enter Try.func14, Try.ntmps14
                go_upto_region 12 with (first | (go_at_call 12; refine (cM _ (HA.out _ (two _ _))).mono ?_; rintro e w1 ⟨rfl, hbb⟩; have B1 := ((Box.new _ _ _).alloc _).below hbb; have B2 := (Box.new1 _ _ _ _).below hbb; have q1 := B1.cell; have q2 := B2.cell; have hB1 := Below.step0 (two _ _) hbb; clear hbb cM) | (go_at_call 25; refine (cV _).mono ?_; rintro e w2 ⟨rfl, hbb⟩; replace B1 := B1.below hbb; replace B2 := B2.below hbb; replace q1 := B1.cell; replace q2 := B2.cell; have hB2 := Below.step0 hB1 hbb; clear hbb cV) | (go_at_call 22; refine (cP _).mono ?_; rintro e w3 ⟨rfl, hbb⟩; replace B1 := B1.below hbb; replace B2 := B2.below hbb; replace q1 := B1.cell; replace q2 := B2.cell; have hB3 := Below.step0 hB2 hbb; clear hbb cP) | (go_at_call 23; refine (ref_within _ _ _).mono ?_; simp only [hp16]; rintro e w4 ⟨rfl, rfl⟩))
                have sz3 : w.heap.size + 2 ≤ w3.heap.size := B2.lt
                refine wp_region_held_drew (S := Below (w.heap.size + 2) w3) (by kernel_rfl) ((Below.refl _ _).drew) (fun hHeld => ?_)
                refine wpAnyH_take (i := 0) (v := .slice (some ⟨B, off0, none⟩) vs.length c) rfl (by kernel_rfl) (by kernel_rfl) (by kernel_rfl) (fun _ _ _ h => h) (Or.inl ⟨by rfl, fun w hSw => by go_simp⟩) (by assumption) ?_
                try simp only [Act.put, List.getElem_toArray, List.getElem_cons_zero, List.getElem_cons_succ, List.setIfInBounds_toArray, List.set_cons_zero, List.set_cons_succ]
                refine wpAnyH_take (i := 1) (v := .int .i64 (j : Int)) rfl (by kernel_rfl) (by kernel_rfl) (by kernel_rfl) (fun _ _ _ h => h) (Or.inl ⟨by rfl, fun w hSw => by go_simp⟩) (by assumption) ?_
                try simp only [Act.put, List.getElem_toArray, List.getElem_cons_zero, List.getElem_cons_succ, List.setIfInBounds_toArray, List.set_cons_zero, List.set_cons_succ]
                refine wpAnyH_take (i := 2) (v := .slice (some ⟨B, off0, none⟩) j c) rfl (by kernel_rfl) (by kernel_rfl) (by kernel_rfl) (fun _ _ _ h => h) (Or.inl ⟨by rfl, fun w hSw => by go_simp⟩) (by assumption) ?_
                try simp only [Act.put, List.getElem_toArray, List.getElem_cons_zero, List.getElem_cons_succ, List.setIfInBounds_toArray, List.set_cons_zero, List.set_cons_succ]
                refine wpAnyH_take (i := 4) (v := .agg #[.bool false, .int .i64 v.n, .int .i64 v.p, .int .i64 v.b, .int .i64 v.l, .int .i64 v.a, .int .i64 v.s]) rfl (by kernel_rfl) (by kernel_rfl) (by kernel_rfl) (fun _ _ _ h => h) (Or.inl ⟨by rfl, fun w hSw => by have q := fun o => (hSw.cell (p := ⟨_, o, none⟩) (Nat.lt_succ_self _)).trans (q2 o); go_simp⟩) (by assumption) ?_
                try simp only [Act.put, List.getElem_toArray, List.getElem_cons_zero, List.getElem_cons_succ, List.setIfInBounds_toArray, List.set_cons_zero, List.set_cons_succ]
                refine wpAnyH_take (i := 7) (v := .slice (some ⟨B, off0, none⟩) vs.length c) rfl (by kernel_rfl) (by kernel_rfl) (by kernel_rfl) (fun _ _ _ h => h) (Or.inl ⟨by rfl, fun w hSw => by go_simp⟩) (by assumption) ?_
                try simp only [Act.put, List.getElem_toArray, List.getElem_cons_zero, List.getElem_cons_succ, List.setIfInBounds_toArray, List.set_cons_zero, List.set_cons_succ]
                refine wpAnyH_take (i := 8) (v := .int .i64 (j : Int)) rfl (by kernel_rfl) (by kernel_rfl) (by kernel_rfl) (fun _ _ _ h => h) (Or.inl ⟨by rfl, fun w hSw => by go_simp⟩) (by assumption) ?_
                try simp only [Act.put, List.getElem_toArray, List.getElem_cons_zero, List.getElem_cons_succ, List.setIfInBounds_toArray, List.set_cons_zero, List.set_cons_succ]
                refine wpAnyH_take (i := 9) (v := .int .i64 ((j : Int) + 1)) rfl (by kernel_rfl) (by kernel_rfl) (by kernel_rfl) (fun _ _ _ h => h) (Or.inl ⟨by rfl, fun w hSw => by go_simp⟩) (by assumption) ?_
                try simp only [Act.put, List.getElem_toArray, List.getElem_cons_zero, List.getElem_cons_succ, List.setIfInBounds_toArray, List.set_cons_zero, List.set_cons_succ]
                refine wpAnyH_take (i := 10) (v := .slice (some ⟨B, off0 + (j + 1) * 7, none⟩) 0 (c - (j + 1))) rfl (by kernel_rfl) (by kernel_rfl) (by kernel_rfl) (fun _ _ _ h => h) (Or.inl ⟨by rfl, fun w hSw => by go_simp⟩) (by assumption) ?_
                try simp only [Act.put, List.getElem_toArray, List.getElem_cons_zero, List.getElem_cons_succ, List.setIfInBounds_toArray, List.set_cons_zero, List.set_cons_succ]
                refine wpAnyH_ready (rs := [3, 5]) (by kernel_rfl) (by simp) (AllReadyH.cons rfl (fun K hK => ?_) (AllReadyH.cons rfl (fun K hK => ?_) AllReadyH.nil))
                · go_simp
                  refine (cC _ ((HA.out _ (hB3.trans (hHeld.mono (by omega)))).take j)).mono ?_
                  rintro e w5 ⟨V, rfl, hbb, o5⟩
                  refine hK.out _ _ (hHeld.trans (hbb.mono (le2 hHeld sz3))) (fun hHeld => ?_)
                  clear hK K
                  try simp only [Act.put, List.getElem_toArray, List.getElem_cons_zero, List.getElem_cons_succ, List.setIfInBounds_toArray, List.set_cons_zero, List.set_cons_succ]
                  refine wpAnyH_ready (rs := [5]) (by kernel_rfl) (by simp) (AllReadyH.cons rfl (fun K hK => ?_) AllReadyH.nil)
                  go_simp
                  refine hK.out _ _ (hHeld.alloc (le2 hHeld sz3) _) (fun hHeld => ?_)
                  clear hK K
                  try simp only [Act.put, List.getElem_toArray, List.getElem_cons_zero, List.getElem_cons_succ, List.setIfInBounds_toArray, List.set_cons_zero, List.set_cons_succ]
                  refine wpAnyH_ready (rs := [6]) (by kernel_rfl) (by simp) (AllReadyH.cons rfl (fun K hK => ?_) AllReadyH.nil)
                  refine step_append_lies _ rfl (.tmp 45) (.tmp 47) 22 rfl _ 26 i0 _ 7 56 Try.underlying22 hi hz0 hz1 hz2 rfl (by decide) V j ((vs.take j).flatMap mvC) rfl (o5.alloc _) ⟨w5.heap.size, 0, none⟩ 1 1 [.bool false, .int .i64 v.n, .int .i64 v.p, .int .i64 v.b, .int .i64 v.l, .int .i64 v.a, .int .i64 v.s] rfl rfl (World.news_of_block (cs := #[.bool false, .int .i64 v.n, .int .i64 v.p, .int .i64 v.b, .int .i64 v.l, .int .i64 v.a, .int .i64 v.s]) (t := 26) (fr := (0, 0)) (heap_alloc_new w5 (.cells #[.bool false, .int .i64 v.n, .int .i64 v.p, .int .i64 v.b, .int .i64 v.l, .int .i64 v.a, .int .i64 v.s] 26))) ONv (by decide) (by omega) (by omega) hHeld.size _ rfl ?_
                  intro g cap w6 o6 hg6 hat6 hlt6
                  have s6 := Below.grown hHeld hg6 (le2 hHeld sz3) (fun kk e => Nat.le_trans (show w.heap.size + 2 ≤ w3.drew.heap.size from sz3) (World.ownsRow.lt o5 kk e).1)
                  refine hK.out _ _ s6 (fun hHeld => ?_)
                  have BB := Nat.le_trans (show w.heap.size + 2 ≤ w3.drew.heap.size from sz3) (Nat.le_refl _)
                  clear hK K hg6 hat6 s6
                  try simp only [Act.put, List.getElem_toArray, List.getElem_cons_zero, List.getElem_cons_succ, List.setIfInBounds_toArray, List.set_cons_zero, List.set_cons_succ]
                  refine wpAnyH_ready (rs := [11]) (by kernel_rfl) (by simp) (AllReadyH.cons rfl (fun K hK => ?_) AllReadyH.nil)
                  have hc6 := own_cap7 o6
                  go_simp
                  refine hK.out _ _ hHeld (fun hHeld => ?_)
                  clear hK K
                  try simp only [Act.put, List.getElem_toArray, List.getElem_cons_zero, List.getElem_cons_succ, List.setIfInBounds_toArray, List.set_cons_zero, List.set_cons_succ]
                  refine wpAnyH_take (i := 12) (v := .slice (some ⟨g, 0, none⟩) (j + 1) cap) rfl (by kernel_rfl) (by kernel_rfl) (by kernel_rfl) (fun _ _ _ h => h) (Or.inl ⟨by rfl, fun w hSw => by go_simp⟩) (by assumption) ?_
                  try simp only [Act.put, List.getElem_toArray, List.getElem_cons_zero, List.getElem_cons_succ, List.setIfInBounds_toArray, List.set_cons_zero, List.set_cons_succ]
                  refine wpAnyH_take (i := 13) (v := .int .i64 0) rfl (by kernel_rfl) (by kernel_rfl) (by kernel_rfl) (fun _ _ _ h => h) (Or.inl ⟨by rfl, fun w hSw => by go_simp⟩) (by assumption) ?_
                  try simp only [Act.put, List.getElem_toArray, List.getElem_cons_zero, List.getElem_cons_succ, List.setIfInBounds_toArray, List.set_cons_zero, List.set_cons_succ]
                  refine wpAnyH_done (by kernel_rfl) ?_ _
                  go_wp2
                  rw [show ([.bool false, .int .i64 v.n, .int .i64 v.p, .int .i64 v.b, .int .i64 v.l, .int .i64 v.a, .int .i64 v.s] : List Value) = mvC v by unfold mvC; rw [hvi]] at o6
                  have e6 := set_parts (v := v) HLT.out
                  rw [List.drop_of_length_le (by omega), List.flatMap_nil, List.append_nil] at e6
                  rw [← e6] at o6
                  obtain ⟨aa, dd, e7, _, A7⟩ := own_vals (by rw [List.length_set]; omega) o6
                  exact bodyPost_ret (v := .tuple #[.slice (some ⟨g, 0, none⟩) (j + 1) cap, .int .i64 0]) (by simp [results, Try.results14, go_sem]) rfl ⟨some ⟨g, 0, none⟩, cap, by rw [List.length_set, HEQ.out], hB3.trans (hHeld.mono (by omega)), by injection e7 with e7; rw [e7]; exact A7⟩
                · go_simp
                  refine hK.out _ _ (hHeld.alloc (le2 hHeld sz3) _) (fun hHeld => ?_)
                  clear hK K
                  try simp only [Act.put, List.getElem_toArray, List.getElem_cons_zero, List.getElem_cons_succ, List.setIfInBounds_toArray, List.set_cons_zero, List.set_cons_succ]
                  refine wpAnyH_ready (rs := [3]) (by kernel_rfl) (by simp) (AllReadyH.cons rfl (fun K hK => ?_) AllReadyH.nil)
                  go_simp
                  refine (cC _ ((HA.out _ (hB3.trans (hHeld.mono (by omega)))).take j)).mono ?_
                  rintro e w5 ⟨V, rfl, hbb, o5⟩
                  refine hK.out _ _ (hHeld.trans (hbb.mono (le2 hHeld sz3))) (fun hHeld => ?_)
                  clear hK K
                  try simp only [Act.put, List.getElem_toArray, List.getElem_cons_zero, List.getElem_cons_succ, List.setIfInBounds_toArray, List.set_cons_zero, List.set_cons_succ]
                  refine wpAnyH_ready (rs := [6]) (by kernel_rfl) (by simp) (AllReadyH.cons rfl (fun K hK => ?_) AllReadyH.nil)
                  refine step_append_lies _ rfl (.tmp 45) (.tmp 47) 22 rfl _ 26 i0 _ 7 56 Try.underlying22 hi hz0 hz1 hz2 rfl (by decide) V j ((vs.take j).flatMap mvC) rfl o5 ⟨w3.heap.size, 0, none⟩ 1 1 [.bool false, .int .i64 v.n, .int .i64 v.p, .int .i64 v.b, .int .i64 v.l, .int .i64 v.a, .int .i64 v.s] rfl rfl (fun jj u hu => by rw [addr_add, hbb.cell (p := ⟨w3.heap.size, 0 + jj, none⟩) (by simp)]; exact news_old (w := w3.drew) hu) ONv (by decide) (by omega) (by omega) hbb.size _ rfl ?_
                  intro g cap w6 o6 hg6 hat6 hlt6
                  have s6 := Below.grown hHeld hg6 (le2 hHeld sz3) (fun kk e => Nat.le_trans (sz4 (cs := #[.bool false, .int .i64 v.n, .int .i64 v.p, .int .i64 v.b, .int .i64 v.l, .int .i64 v.a, .int .i64 v.s]) (t := 26) sz3) (World.ownsRow.lt o5 kk e).1)
                  refine hK.out _ _ s6 (fun hHeld => ?_)
                  have BB := Nat.le_trans (sz4 (cs := #[.bool false, .int .i64 v.n, .int .i64 v.p, .int .i64 v.b, .int .i64 v.l, .int .i64 v.a, .int .i64 v.s]) (t := 26) sz3) (Nat.le_refl _)
                  clear hK K hg6 hat6 s6
                  try simp only [Act.put, List.getElem_toArray, List.getElem_cons_zero, List.getElem_cons_succ, List.setIfInBounds_toArray, List.set_cons_zero, List.set_cons_succ]
                  refine wpAnyH_ready (rs := [11]) (by kernel_rfl) (by simp) (AllReadyH.cons rfl (fun K hK => ?_) AllReadyH.nil)
                  have hc6 := own_cap7 o6
                  go_simp
                  refine hK.out _ _ hHeld (fun hHeld => ?_)
                  clear hK K
                  try simp only [Act.put, List.getElem_toArray, List.getElem_cons_zero, List.getElem_cons_succ, List.setIfInBounds_toArray, List.set_cons_zero, List.set_cons_succ]
                  refine wpAnyH_take (i := 12) (v := .slice (some ⟨g, 0, none⟩) (j + 1) cap) rfl (by kernel_rfl) (by kernel_rfl) (by kernel_rfl) (fun _ _ _ h => h) (Or.inl ⟨by rfl, fun w hSw => by go_simp⟩) (by assumption) ?_
                  try simp only [Act.put, List.getElem_toArray, List.getElem_cons_zero, List.getElem_cons_succ, List.setIfInBounds_toArray, List.set_cons_zero, List.set_cons_succ]
                  refine wpAnyH_take (i := 13) (v := .int .i64 0) rfl (by kernel_rfl) (by kernel_rfl) (by kernel_rfl) (fun _ _ _ h => h) (Or.inl ⟨by rfl, fun w hSw => by go_simp⟩) (by assumption) ?_
                  try simp only [Act.put, List.getElem_toArray, List.getElem_cons_zero, List.getElem_cons_succ, List.setIfInBounds_toArray, List.set_cons_zero, List.set_cons_succ]
                  refine wpAnyH_done (by kernel_rfl) ?_ _
                  go_wp2
                  rw [show ([.bool false, .int .i64 v.n, .int .i64 v.p, .int .i64 v.b, .int .i64 v.l, .int .i64 v.a, .int .i64 v.s] : List Value) = mvC v by unfold mvC; rw [hvi]] at o6
                  have e6 := set_parts (v := v) HLT.out
                  rw [List.drop_of_length_le (by omega), List.flatMap_nil, List.append_nil] at e6
                  rw [← e6] at o6
                  obtain ⟨aa, dd, e7, _, A7⟩ := own_vals (by rw [List.length_set]; omega) o6
                  exact bodyPost_ret (v := .tuple #[.slice (some ⟨g, 0, none⟩) (j + 1) cap, .int .i64 0]) (by simp [results, Try.results14, go_sem]) rfl ⟨some ⟨g, 0, none⟩, cap, by rw [List.length_set, HEQ.out], hB3.trans (hHeld.mono (by omega)), by injection e7 with e7; rw [e7]; exact A7⟩
          · have ONv : ∀ u ∈ ([.bool true, .int .i64 v.n, .int .i64 v.p, .int .i64 v.b, .int .i64 v.l, .int .i64 v.a, .int .i64 v.s] : List Value), u.oneCell' = true := one7 _ _ _ _ _ _ _
            rw [hvi] at cV
            by_cases hja : j + 1 < vs.length
            · have jl : (j : Int) + 1 ≤ (vs.length : Int) := by omega
              have g0 : 0 ≤ (j : Int) + 1 := by omega
              have nc : ¬ c = j + 1 := by omega
              go_enter Try.func14, Try.ntmps14
              go_upto_region 12 with (first | (go_at_call 12; refine (cM _ (HA.out _ (two _ _))).mono ?_; rintro e w1 ⟨rfl, hbb⟩; have B1 := ((Box.new _ _ _).alloc _).below hbb; have B2 := (Box.new1 _ _ _ _).below hbb; have q1 := B1.cell; have q2 := B2.cell; have hB1 := Below.step0 (two _ _) hbb; clear hbb cM) | (go_at_call 25; refine (cV _).mono ?_; rintro e w2 ⟨rfl, hbb⟩; replace B1 := B1.below hbb; replace B2 := B2.below hbb; replace q1 := B1.cell; replace q2 := B2.cell; have hB2 := Below.step0 hB1 hbb; clear hbb cV) | (go_at_call 22; refine (cP _).mono ?_; rintro e w3 ⟨rfl, hbb⟩; replace B1 := B1.below hbb; replace B2 := B2.below hbb; replace q1 := B1.cell; replace q2 := B2.cell; have hB3 := Below.step0 hB2 hbb; clear hbb cP) | (go_at_call 23; refine (ref_within _ _ _).mono ?_; simp only [hp16]; rintro e w4 ⟨rfl, rfl⟩))
              have sz3 : w.heap.size + 2 ≤ w4.heap.size := B2.lt
              refine wp_region_held_drew (S := Below (w.heap.size + 2) w4) (by kernel_rfl) ((Below.refl _ _).drew) (fun hHeld => ?_)
              refine wpAnyH_take (i := 0) (v := .slice (some ⟨B, off0, none⟩) vs.length c) rfl (by kernel_rfl) (by kernel_rfl) (by kernel_rfl) (fun _ _ _ h => h) (Or.inl ⟨by rfl, fun w hSw => by go_simp⟩) (by assumption) ?_
              try simp only [Act.put, List.getElem_toArray, List.getElem_cons_zero, List.getElem_cons_succ, List.setIfInBounds_toArray, List.set_cons_zero, List.set_cons_succ]
              refine wpAnyH_take (i := 1) (v := .int .i64 (j : Int)) rfl (by kernel_rfl) (by kernel_rfl) (by kernel_rfl) (fun _ _ _ h => h) (Or.inl ⟨by rfl, fun w hSw => by go_simp⟩) (by assumption) ?_
              try simp only [Act.put, List.getElem_toArray, List.getElem_cons_zero, List.getElem_cons_succ, List.setIfInBounds_toArray, List.set_cons_zero, List.set_cons_succ]
              refine wpAnyH_take (i := 2) (v := .slice (some ⟨B, off0, none⟩) j c) rfl (by kernel_rfl) (by kernel_rfl) (by kernel_rfl) (fun _ _ _ h => h) (Or.inl ⟨by rfl, fun w hSw => by go_simp⟩) (by assumption) ?_
              try simp only [Act.put, List.getElem_toArray, List.getElem_cons_zero, List.getElem_cons_succ, List.setIfInBounds_toArray, List.set_cons_zero, List.set_cons_succ]
              refine wpAnyH_take (i := 4) (v := .agg #[.bool true, .int .i64 v.n, .int .i64 v.p, .int .i64 v.b, .int .i64 v.l, .int .i64 v.a, .int .i64 v.s]) rfl (by kernel_rfl) (by kernel_rfl) (by kernel_rfl) (fun _ _ _ h => h) (Or.inl ⟨by rfl, fun w hSw => by have q := fun o => (hSw.cell (p := ⟨_, o, none⟩) (Nat.lt_succ_self _)).trans (q2 o); go_simp⟩) (by assumption) ?_
              try simp only [Act.put, List.getElem_toArray, List.getElem_cons_zero, List.getElem_cons_succ, List.setIfInBounds_toArray, List.set_cons_zero, List.set_cons_succ]
              refine wpAnyH_take (i := 7) (v := .slice (some ⟨B, off0, none⟩) vs.length c) rfl (by kernel_rfl) (by kernel_rfl) (by kernel_rfl) (fun _ _ _ h => h) (Or.inl ⟨by rfl, fun w hSw => by go_simp⟩) (by assumption) ?_
              try simp only [Act.put, List.getElem_toArray, List.getElem_cons_zero, List.getElem_cons_succ, List.setIfInBounds_toArray, List.set_cons_zero, List.set_cons_succ]
              refine wpAnyH_take (i := 8) (v := .int .i64 (j : Int)) rfl (by kernel_rfl) (by kernel_rfl) (by kernel_rfl) (fun _ _ _ h => h) (Or.inl ⟨by rfl, fun w hSw => by go_simp⟩) (by assumption) ?_
              try simp only [Act.put, List.getElem_toArray, List.getElem_cons_zero, List.getElem_cons_succ, List.setIfInBounds_toArray, List.set_cons_zero, List.set_cons_succ]
              refine wpAnyH_take (i := 9) (v := .int .i64 ((j : Int) + 1)) rfl (by kernel_rfl) (by kernel_rfl) (by kernel_rfl) (fun _ _ _ h => h) (Or.inl ⟨by rfl, fun w hSw => by go_simp⟩) (by assumption) ?_
              try simp only [Act.put, List.getElem_toArray, List.getElem_cons_zero, List.getElem_cons_succ, List.setIfInBounds_toArray, List.set_cons_zero, List.set_cons_succ]
              refine wpAnyH_take (i := 10) (v := .slice (some ⟨B, off0 + (j + 1) * 7, none⟩) (vs.length - (j + 1)) (c - (j + 1))) rfl (by kernel_rfl) (by kernel_rfl) (by kernel_rfl) (fun _ _ _ h => h) (Or.inl ⟨by rfl, fun w hSw => by go_simp⟩) (by assumption) ?_
              try simp only [Act.put, List.getElem_toArray, List.getElem_cons_zero, List.getElem_cons_succ, List.setIfInBounds_toArray, List.set_cons_zero, List.set_cons_succ]
              refine wpAnyH_ready (rs := [3, 5]) (by kernel_rfl) (by simp) (AllReadyH.cons rfl (fun K hK => ?_) (AllReadyH.cons rfl (fun K hK => ?_) AllReadyH.nil))
              · go_simp
                refine (cC _ ((HA.out _ (hB3.trans (hHeld.mono (by omega)))).take j)).mono ?_
                rintro e w5 ⟨V, rfl, hbb, o5⟩
                refine hK.out _ _ (hHeld.trans (hbb.mono (le2 hHeld sz3))) (fun hHeld => ?_)
                clear hK K
                try simp only [Act.put, List.getElem_toArray, List.getElem_cons_zero, List.getElem_cons_succ, List.setIfInBounds_toArray, List.set_cons_zero, List.set_cons_succ]
                refine wpAnyH_ready (rs := [5]) (by kernel_rfl) (by simp) (AllReadyH.cons rfl (fun K hK => ?_) AllReadyH.nil)
                go_simp
                refine hK.out _ _ (hHeld.alloc (le2 hHeld sz3) _) (fun hHeld => ?_)
                clear hK K
                try simp only [Act.put, List.getElem_toArray, List.getElem_cons_zero, List.getElem_cons_succ, List.setIfInBounds_toArray, List.set_cons_zero, List.set_cons_succ]
                refine wpAnyH_ready (rs := [6]) (by kernel_rfl) (by simp) (AllReadyH.cons rfl (fun K hK => ?_) AllReadyH.nil)
                refine step_append_lies _ rfl (.tmp 45) (.tmp 47) 22 rfl _ 26 i0 _ 7 56 Try.underlying22 hi hz0 hz1 hz2 rfl (by decide) V j ((vs.take j).flatMap mvC) rfl (o5.alloc _) ⟨w5.heap.size, 0, none⟩ 1 1 [.bool true, .int .i64 v.n, .int .i64 v.p, .int .i64 v.b, .int .i64 v.l, .int .i64 v.a, .int .i64 v.s] rfl rfl (World.news_of_block (cs := #[.bool true, .int .i64 v.n, .int .i64 v.p, .int .i64 v.b, .int .i64 v.l, .int .i64 v.a, .int .i64 v.s]) (t := 26) (fr := (0, 0)) (heap_alloc_new w5 (.cells #[.bool true, .int .i64 v.n, .int .i64 v.p, .int .i64 v.b, .int .i64 v.l, .int .i64 v.a, .int .i64 v.s] 26))) ONv (by decide) (by omega) (by omega) hHeld.size _ rfl ?_
                intro g cap w6 o6 hg6 hat6 hlt6
                have s6 := Below.grown hHeld hg6 (le2 hHeld sz3) (fun kk e => Nat.le_trans (show w.heap.size + 2 ≤ w4.drew.heap.size from sz3) (World.ownsRow.lt o5 kk e).1)
                refine hK.out _ _ s6 (fun hHeld => ?_)
                have BB := Nat.le_trans (show w.heap.size + 2 ≤ w4.drew.heap.size from sz3) (Nat.le_refl _)
                clear hK K hg6 hat6 s6
                try simp only [Act.put, List.getElem_toArray, List.getElem_cons_zero, List.getElem_cons_succ, List.setIfInBounds_toArray, List.set_cons_zero, List.set_cons_succ]
                refine wpAnyH_ready (rs := [11]) (by kernel_rfl) (by simp) (AllReadyH.cons rfl (fun K hK => ?_) AllReadyH.nil)
                have hc6 := (HA.out _ (hB3.trans (hHeld.mono (by omega)))).cells
                refine step_append_lies _ rfl (.tmp 48) (.tmp 52) 22 rfl _ 26 i0 _ 7 56 Try.underlying22 hi hz0 hz1 hz2 rfl (by decide) (.slice (some ⟨g, 0, none⟩) (j + 1) cap) (j + 1) _ rfl o6 ⟨B, off0 + (j + 1) * 7, none⟩ (vs.length - (j + 1)) (c - (j + 1)) ((vs.drop (j + 1)).flatMap mvC) rfl (by rw [mv_len, List.length_drop]) (vals_drop hc6 (j + 1)) (mv_one _) (by omega) (by omega) (by omega) (Nat.le_of_lt (Nat.lt_of_le_of_lt (World.ownsRow.lt o6 g rfl).1 (World.ownsRow.lt o6 g rfl).2)) _ rfl ?_
                intro g7 cap7 w7 o7 hg7 hat7 hlt7
                have s7 := Below.grown hHeld hg7 (le2 hHeld sz3) (fun kk e => Nat.le_trans BB (World.ownsRow.lt o6 kk e).1)
                refine hK.out _ _ s7 (fun hHeld => ?_)
                clear hK K hg7 hat7 s7
                try simp only [Act.put, List.getElem_toArray, List.getElem_cons_zero, List.getElem_cons_succ, List.setIfInBounds_toArray, List.set_cons_zero, List.set_cons_succ]
                refine wpAnyH_take (i := 12) (v := .slice (some ⟨g7, 0, none⟩) (j + 1 + (vs.length - (j + 1))) cap7) rfl (by kernel_rfl) (by kernel_rfl) (by kernel_rfl) (fun _ _ _ h => h) (Or.inl ⟨by rfl, fun w hSw => by go_simp⟩) (by assumption) ?_
                try simp only [Act.put, List.getElem_toArray, List.getElem_cons_zero, List.getElem_cons_succ, List.setIfInBounds_toArray, List.set_cons_zero, List.set_cons_succ]
                refine wpAnyH_take (i := 13) (v := .int .i64 0) rfl (by kernel_rfl) (by kernel_rfl) (by kernel_rfl) (fun _ _ _ h => h) (Or.inl ⟨by rfl, fun w hSw => by go_simp⟩) (by assumption) ?_
                try simp only [Act.put, List.getElem_toArray, List.getElem_cons_zero, List.getElem_cons_succ, List.setIfInBounds_toArray, List.set_cons_zero, List.set_cons_succ]
                refine wpAnyH_done (by kernel_rfl) ?_ _
                go_wp2
                rw [show ([.bool true, .int .i64 v.n, .int .i64 v.p, .int .i64 v.b, .int .i64 v.l, .int .i64 v.a, .int .i64 v.s] : List Value) = mvC v by unfold mvC; rw [hvi], ← set_parts HLT.out] at o7
                obtain ⟨aa, dd, e7, _, A7⟩ := own_vals (by rw [List.length_set]; omega) o7
                exact bodyPost_ret (v := .tuple #[.slice (some ⟨g7, 0, none⟩) (j + 1 + (vs.length - (j + 1))) cap7, .int .i64 0]) (by simp [results, Try.results14, go_sem]) rfl ⟨some ⟨g7, 0, none⟩, cap7, by rw [List.length_set, Nat.add_sub_cancel' (by omega)], hB3.trans (hHeld.mono (by omega)), by injection e7 with e7; rw [e7]; exact A7⟩
              · go_simp
                refine hK.out _ _ (hHeld.alloc (le2 hHeld sz3) _) (fun hHeld => ?_)
                clear hK K
                try simp only [Act.put, List.getElem_toArray, List.getElem_cons_zero, List.getElem_cons_succ, List.setIfInBounds_toArray, List.set_cons_zero, List.set_cons_succ]
                refine wpAnyH_ready (rs := [3]) (by kernel_rfl) (by simp) (AllReadyH.cons rfl (fun K hK => ?_) AllReadyH.nil)
                go_simp
                refine (cC _ ((HA.out _ (hB3.trans (hHeld.mono (by omega)))).take j)).mono ?_
                rintro e w5 ⟨V, rfl, hbb, o5⟩
                refine hK.out _ _ (hHeld.trans (hbb.mono (le2 hHeld sz3))) (fun hHeld => ?_)
                clear hK K
                try simp only [Act.put, List.getElem_toArray, List.getElem_cons_zero, List.getElem_cons_succ, List.setIfInBounds_toArray, List.set_cons_zero, List.set_cons_succ]
                refine wpAnyH_ready (rs := [6]) (by kernel_rfl) (by simp) (AllReadyH.cons rfl (fun K hK => ?_) AllReadyH.nil)
                refine step_append_lies _ rfl (.tmp 45) (.tmp 47) 22 rfl _ 26 i0 _ 7 56 Try.underlying22 hi hz0 hz1 hz2 rfl (by decide) V j ((vs.take j).flatMap mvC) rfl o5 ⟨w4.heap.size, 0, none⟩ 1 1 [.bool true, .int .i64 v.n, .int .i64 v.p, .int .i64 v.b, .int .i64 v.l, .int .i64 v.a, .int .i64 v.s] rfl rfl (fun jj u hu => by rw [addr_add, hbb.cell (p := ⟨w4.heap.size, 0 + jj, none⟩) (by simp)]; exact news_old (w := w4.drew) hu) ONv (by decide) (by omega) (by omega) hbb.size _ rfl ?_
                intro g cap w6 o6 hg6 hat6 hlt6
                have s6 := Below.grown hHeld hg6 (le2 hHeld sz3) (fun kk e => Nat.le_trans (sz4 (cs := #[.bool true, .int .i64 v.n, .int .i64 v.p, .int .i64 v.b, .int .i64 v.l, .int .i64 v.a, .int .i64 v.s]) (t := 26) sz3) (World.ownsRow.lt o5 kk e).1)
                refine hK.out _ _ s6 (fun hHeld => ?_)
                have BB := Nat.le_trans (sz4 (cs := #[.bool true, .int .i64 v.n, .int .i64 v.p, .int .i64 v.b, .int .i64 v.l, .int .i64 v.a, .int .i64 v.s]) (t := 26) sz3) (Nat.le_refl _)
                clear hK K hg6 hat6 s6
                try simp only [Act.put, List.getElem_toArray, List.getElem_cons_zero, List.getElem_cons_succ, List.setIfInBounds_toArray, List.set_cons_zero, List.set_cons_succ]
                refine wpAnyH_ready (rs := [11]) (by kernel_rfl) (by simp) (AllReadyH.cons rfl (fun K hK => ?_) AllReadyH.nil)
                have hc6 := (HA.out _ (hB3.trans (hHeld.mono (by omega)))).cells
                refine step_append_lies _ rfl (.tmp 48) (.tmp 52) 22 rfl _ 26 i0 _ 7 56 Try.underlying22 hi hz0 hz1 hz2 rfl (by decide) (.slice (some ⟨g, 0, none⟩) (j + 1) cap) (j + 1) _ rfl o6 ⟨B, off0 + (j + 1) * 7, none⟩ (vs.length - (j + 1)) (c - (j + 1)) ((vs.drop (j + 1)).flatMap mvC) rfl (by rw [mv_len, List.length_drop]) (vals_drop hc6 (j + 1)) (mv_one _) (by omega) (by omega) (by omega) (Nat.le_of_lt (Nat.lt_of_le_of_lt (World.ownsRow.lt o6 g rfl).1 (World.ownsRow.lt o6 g rfl).2)) _ rfl ?_
                intro g7 cap7 w7 o7 hg7 hat7 hlt7
                have s7 := Below.grown hHeld hg7 (le2 hHeld sz3) (fun kk e => Nat.le_trans BB (World.ownsRow.lt o6 kk e).1)
                refine hK.out _ _ s7 (fun hHeld => ?_)
                clear hK K hg7 hat7 s7
                try simp only [Act.put, List.getElem_toArray, List.getElem_cons_zero, List.getElem_cons_succ, List.setIfInBounds_toArray, List.set_cons_zero, List.set_cons_succ]
                refine wpAnyH_take (i := 12) (v := .slice (some ⟨g7, 0, none⟩) (j + 1 + (vs.length - (j + 1))) cap7) rfl (by kernel_rfl) (by kernel_rfl) (by kernel_rfl) (fun _ _ _ h => h) (Or.inl ⟨by rfl, fun w hSw => by go_simp⟩) (by assumption) ?_
                try simp only [Act.put, List.getElem_toArray, List.getElem_cons_zero, List.getElem_cons_succ, List.setIfInBounds_toArray, List.set_cons_zero, List.set_cons_succ]
                refine wpAnyH_take (i := 13) (v := .int .i64 0) rfl (by kernel_rfl) (by kernel_rfl) (by kernel_rfl) (fun _ _ _ h => h) (Or.inl ⟨by rfl, fun w hSw => by go_simp⟩) (by assumption) ?_
                try simp only [Act.put, List.getElem_toArray, List.getElem_cons_zero, List.getElem_cons_succ, List.setIfInBounds_toArray, List.set_cons_zero, List.set_cons_succ]
                refine wpAnyH_done (by kernel_rfl) ?_ _
                go_wp2
                rw [show ([.bool true, .int .i64 v.n, .int .i64 v.p, .int .i64 v.b, .int .i64 v.l, .int .i64 v.a, .int .i64 v.s] : List Value) = mvC v by unfold mvC; rw [hvi], ← set_parts HLT.out] at o7
                obtain ⟨aa, dd, e7, _, A7⟩ := own_vals (by rw [List.length_set]; omega) o7
                exact bodyPost_ret (v := .tuple #[.slice (some ⟨g7, 0, none⟩) (j + 1 + (vs.length - (j + 1))) cap7, .int .i64 0]) (by simp [results, Try.results14, go_sem]) rfl ⟨some ⟨g7, 0, none⟩, cap7, by rw [List.length_set, Nat.add_sub_cancel' (by omega)], hB3.trans (hHeld.mono (by omega)), by injection e7 with e7; rw [e7]; exact A7⟩
            · have jl : (j : Int) + 1 ≤ (vs.length : Int) := by omega
              have g0 : 0 ≤ (j : Int) + 1 := by omega
              have heq : vs.length = j + 1 := by omega
              have hs0 : vs.length - (j + 1) = 0 := by omega
              have HEQ : Hid (vs.length = j + 1) := heq
              clear heq
              by_cases nc : c = j + 1
              · have nc' : j + 1 = c := nc.symm
                have hs0' : vs.length - c = 0 := by omega
                clear nc hs0
                go_enter Try.func14, Try.ntmps14
                go_upto_region 12 with (first | (go_at_call 12; refine (cM _ (HA.out _ (two _ _))).mono ?_; rintro e w1 ⟨rfl, hbb⟩; have B1 := ((Box.new _ _ _).alloc _).below hbb; have B2 := (Box.new1 _ _ _ _).below hbb; have q1 := B1.cell; have q2 := B2.cell; have hB1 := Below.step0 (two _ _) hbb; clear hbb cM) | (go_at_call 25; refine (cV _).mono ?_; rintro e w2 ⟨rfl, hbb⟩; replace B1 := B1.below hbb; replace B2 := B2.below hbb; replace q1 := B1.cell; replace q2 := B2.cell; have hB2 := Below.step0 hB1 hbb; clear hbb cV) | (go_at_call 22; refine (cP _).mono ?_; rintro e w3 ⟨rfl, hbb⟩; replace B1 := B1.below hbb; replace B2 := B2.below hbb; replace q1 := B1.cell; replace q2 := B2.cell; have hB3 := Below.step0 hB2 hbb; clear hbb cP) | (go_at_call 23; refine (ref_within _ _ _).mono ?_; simp only [hp16]; rintro e w4 ⟨rfl, rfl⟩))
                have sz3 : w.heap.size + 2 ≤ w4.heap.size := B2.lt
                refine wp_region_held_drew (S := Below (w.heap.size + 2) w4) (by kernel_rfl) ((Below.refl _ _).drew) (fun hHeld => ?_)
                refine wpAnyH_take (i := 0) (v := .slice (some ⟨B, off0, none⟩) vs.length c) rfl (by kernel_rfl) (by kernel_rfl) (by kernel_rfl) (fun _ _ _ h => h) (Or.inl ⟨by rfl, fun w hSw => by go_simp⟩) (by assumption) ?_
                try simp only [Act.put, List.getElem_toArray, List.getElem_cons_zero, List.getElem_cons_succ, List.setIfInBounds_toArray, List.set_cons_zero, List.set_cons_succ]
                refine wpAnyH_take (i := 1) (v := .int .i64 (j : Int)) rfl (by kernel_rfl) (by kernel_rfl) (by kernel_rfl) (fun _ _ _ h => h) (Or.inl ⟨by rfl, fun w hSw => by go_simp⟩) (by assumption) ?_
                try simp only [Act.put, List.getElem_toArray, List.getElem_cons_zero, List.getElem_cons_succ, List.setIfInBounds_toArray, List.set_cons_zero, List.set_cons_succ]
                refine wpAnyH_take (i := 2) (v := .slice (some ⟨B, off0, none⟩) j c) rfl (by kernel_rfl) (by kernel_rfl) (by kernel_rfl) (fun _ _ _ h => h) (Or.inl ⟨by rfl, fun w hSw => by go_simp⟩) (by assumption) ?_
                try simp only [Act.put, List.getElem_toArray, List.getElem_cons_zero, List.getElem_cons_succ, List.setIfInBounds_toArray, List.set_cons_zero, List.set_cons_succ]
                refine wpAnyH_take (i := 4) (v := .agg #[.bool true, .int .i64 v.n, .int .i64 v.p, .int .i64 v.b, .int .i64 v.l, .int .i64 v.a, .int .i64 v.s]) rfl (by kernel_rfl) (by kernel_rfl) (by kernel_rfl) (fun _ _ _ h => h) (Or.inl ⟨by rfl, fun w hSw => by have q := fun o => (hSw.cell (p := ⟨_, o, none⟩) (Nat.lt_succ_self _)).trans (q2 o); go_simp⟩) (by assumption) ?_
                try simp only [Act.put, List.getElem_toArray, List.getElem_cons_zero, List.getElem_cons_succ, List.setIfInBounds_toArray, List.set_cons_zero, List.set_cons_succ]
                refine wpAnyH_take (i := 7) (v := .slice (some ⟨B, off0, none⟩) vs.length c) rfl (by kernel_rfl) (by kernel_rfl) (by kernel_rfl) (fun _ _ _ h => h) (Or.inl ⟨by rfl, fun w hSw => by go_simp⟩) (by assumption) ?_
                try simp only [Act.put, List.getElem_toArray, List.getElem_cons_zero, List.getElem_cons_succ, List.setIfInBounds_toArray, List.set_cons_zero, List.set_cons_succ]
                refine wpAnyH_take (i := 8) (v := .int .i64 (j : Int)) rfl (by kernel_rfl) (by kernel_rfl) (by kernel_rfl) (fun _ _ _ h => h) (Or.inl ⟨by rfl, fun w hSw => by go_simp⟩) (by assumption) ?_
                try simp only [Act.put, List.getElem_toArray, List.getElem_cons_zero, List.getElem_cons_succ, List.setIfInBounds_toArray, List.set_cons_zero, List.set_cons_succ]
                refine wpAnyH_take (i := 9) (v := .int .i64 ((j : Int) + 1)) rfl (by kernel_rfl) (by kernel_rfl) (by kernel_rfl) (fun _ _ _ h => h) (Or.inl ⟨by rfl, fun w hSw => by go_simp⟩) (by assumption) ?_
                try simp only [Act.put, List.getElem_toArray, List.getElem_cons_zero, List.getElem_cons_succ, List.setIfInBounds_toArray, List.set_cons_zero, List.set_cons_succ]
                refine wpAnyH_take (i := 10) (v := .slice (some ⟨B, off0, none⟩) 0 0) rfl (by kernel_rfl) (by kernel_rfl) (by kernel_rfl) (fun _ _ _ h => h) (Or.inl ⟨by rfl, fun w hSw => by go_simp⟩) (by assumption) ?_
                try simp only [Act.put, List.getElem_toArray, List.getElem_cons_zero, List.getElem_cons_succ, List.setIfInBounds_toArray, List.set_cons_zero, List.set_cons_succ]
                have HNC : Hid (j + 1 = c) := nc'
                clear nc' hs0'
                refine wpAnyH_ready (rs := [3, 5]) (by kernel_rfl) (by simp) (AllReadyH.cons rfl (fun K hK => ?_) (AllReadyH.cons rfl (fun K hK => ?_) AllReadyH.nil))
                · go_simp
                  refine (cC _ ((HA.out _ (hB3.trans (hHeld.mono (by omega)))).take j)).mono ?_
                  rintro e w5 ⟨V, rfl, hbb, o5⟩
                  refine hK.out _ _ (hHeld.trans (hbb.mono (le2 hHeld sz3))) (fun hHeld => ?_)
                  clear hK K
                  try simp only [Act.put, List.getElem_toArray, List.getElem_cons_zero, List.getElem_cons_succ, List.setIfInBounds_toArray, List.set_cons_zero, List.set_cons_succ]
                  refine wpAnyH_ready (rs := [5]) (by kernel_rfl) (by simp) (AllReadyH.cons rfl (fun K hK => ?_) AllReadyH.nil)
                  go_simp
                  refine hK.out _ _ (hHeld.alloc (le2 hHeld sz3) _) (fun hHeld => ?_)
                  clear hK K
                  try simp only [Act.put, List.getElem_toArray, List.getElem_cons_zero, List.getElem_cons_succ, List.setIfInBounds_toArray, List.set_cons_zero, List.set_cons_succ]
                  refine wpAnyH_ready (rs := [6]) (by kernel_rfl) (by simp) (AllReadyH.cons rfl (fun K hK => ?_) AllReadyH.nil)
                  refine step_append_lies _ rfl (.tmp 45) (.tmp 47) 22 rfl _ 26 i0 _ 7 56 Try.underlying22 hi hz0 hz1 hz2 rfl (by decide) V j ((vs.take j).flatMap mvC) rfl (o5.alloc _) ⟨w5.heap.size, 0, none⟩ 1 1 [.bool true, .int .i64 v.n, .int .i64 v.p, .int .i64 v.b, .int .i64 v.l, .int .i64 v.a, .int .i64 v.s] rfl rfl (World.news_of_block (cs := #[.bool true, .int .i64 v.n, .int .i64 v.p, .int .i64 v.b, .int .i64 v.l, .int .i64 v.a, .int .i64 v.s]) (t := 26) (fr := (0, 0)) (heap_alloc_new w5 (.cells #[.bool true, .int .i64 v.n, .int .i64 v.p, .int .i64 v.b, .int .i64 v.l, .int .i64 v.a, .int .i64 v.s] 26))) ONv (by decide) (by omega) (by omega) hHeld.size _ rfl ?_
                  intro g cap w6 o6 hg6 hat6 hlt6
                  have s6 := Below.grown hHeld hg6 (le2 hHeld sz3) (fun kk e => Nat.le_trans (show w.heap.size + 2 ≤ w4.drew.heap.size from sz3) (World.ownsRow.lt o5 kk e).1)
                  refine hK.out _ _ s6 (fun hHeld => ?_)
                  have BB := Nat.le_trans (show w.heap.size + 2 ≤ w4.drew.heap.size from sz3) (Nat.le_refl _)
                  clear hK K hg6 hat6 s6
                  try simp only [Act.put, List.getElem_toArray, List.getElem_cons_zero, List.getElem_cons_succ, List.setIfInBounds_toArray, List.set_cons_zero, List.set_cons_succ]
                  refine wpAnyH_ready (rs := [11]) (by kernel_rfl) (by simp) (AllReadyH.cons rfl (fun K hK => ?_) AllReadyH.nil)
                  have hc6 := own_cap7 o6
                  go_simp
                  refine hK.out _ _ hHeld (fun hHeld => ?_)
                  clear hK K
                  try simp only [Act.put, List.getElem_toArray, List.getElem_cons_zero, List.getElem_cons_succ, List.setIfInBounds_toArray, List.set_cons_zero, List.set_cons_succ]
                  refine wpAnyH_take (i := 12) (v := .slice (some ⟨g, 0, none⟩) (j + 1) cap) rfl (by kernel_rfl) (by kernel_rfl) (by kernel_rfl) (fun _ _ _ h => h) (Or.inl ⟨by rfl, fun w hSw => by go_simp⟩) (by assumption) ?_
                  try simp only [Act.put, List.getElem_toArray, List.getElem_cons_zero, List.getElem_cons_succ, List.setIfInBounds_toArray, List.set_cons_zero, List.set_cons_succ]
                  refine wpAnyH_take (i := 13) (v := .int .i64 0) rfl (by kernel_rfl) (by kernel_rfl) (by kernel_rfl) (fun _ _ _ h => h) (Or.inl ⟨by rfl, fun w hSw => by go_simp⟩) (by assumption) ?_
                  try simp only [Act.put, List.getElem_toArray, List.getElem_cons_zero, List.getElem_cons_succ, List.setIfInBounds_toArray, List.set_cons_zero, List.set_cons_succ]
                  refine wpAnyH_done (by kernel_rfl) ?_ _
                  go_wp2
                  rw [show ([.bool true, .int .i64 v.n, .int .i64 v.p, .int .i64 v.b, .int .i64 v.l, .int .i64 v.a, .int .i64 v.s] : List Value) = mvC v by unfold mvC; rw [hvi]] at o6
                  have e6 := set_parts (v := v) HLT.out
                  rw [List.drop_of_length_le (by omega), List.flatMap_nil, List.append_nil] at e6
                  rw [← e6] at o6
                  obtain ⟨aa, dd, e7, _, A7⟩ := own_vals (by rw [List.length_set]; omega) o6
                  exact bodyPost_ret (v := .tuple #[.slice (some ⟨g, 0, none⟩) (j + 1) cap, .int .i64 0]) (by simp [results, Try.results14, go_sem]) rfl ⟨some ⟨g, 0, none⟩, cap, by rw [List.length_set, HEQ.out], hB3.trans (hHeld.mono (by omega)), by injection e7 with e7; rw [e7]; exact A7⟩
                · go_simp
                  refine hK.out _ _ (hHeld.alloc (le2 hHeld sz3) _) (fun hHeld => ?_)
                  clear hK K
                  try simp only [Act.put, List.getElem_toArray, List.getElem_cons_zero, List.getElem_cons_succ, List.setIfInBounds_toArray, List.set_cons_zero, List.set_cons_succ]
                  refine wpAnyH_ready (rs := [3]) (by kernel_rfl) (by simp) (AllReadyH.cons rfl (fun K hK => ?_) AllReadyH.nil)
                  go_simp
                  refine (cC _ ((HA.out _ (hB3.trans (hHeld.mono (by omega)))).take j)).mono ?_
                  rintro e w5 ⟨V, rfl, hbb, o5⟩
                  refine hK.out _ _ (hHeld.trans (hbb.mono (le2 hHeld sz3))) (fun hHeld => ?_)
                  clear hK K
                  try simp only [Act.put, List.getElem_toArray, List.getElem_cons_zero, List.getElem_cons_succ, List.setIfInBounds_toArray, List.set_cons_zero, List.set_cons_succ]
                  refine wpAnyH_ready (rs := [6]) (by kernel_rfl) (by simp) (AllReadyH.cons rfl (fun K hK => ?_) AllReadyH.nil)
                  refine step_append_lies _ rfl (.tmp 45) (.tmp 47) 22 rfl _ 26 i0 _ 7 56 Try.underlying22 hi hz0 hz1 hz2 rfl (by decide) V j ((vs.take j).flatMap mvC) rfl o5 ⟨w4.heap.size, 0, none⟩ 1 1 [.bool true, .int .i64 v.n, .int .i64 v.p, .int .i64 v.b, .int .i64 v.l, .int .i64 v.a, .int .i64 v.s] rfl rfl (fun jj u hu => by rw [addr_add, hbb.cell (p := ⟨w4.heap.size, 0 + jj, none⟩) (by simp)]; exact news_old (w := w4.drew) hu) ONv (by decide) (by omega) (by omega) hbb.size _ rfl ?_
                  intro g cap w6 o6 hg6 hat6 hlt6
                  have s6 := Below.grown hHeld hg6 (le2 hHeld sz3) (fun kk e => Nat.le_trans (sz4 (cs := #[.bool true, .int .i64 v.n, .int .i64 v.p, .int .i64 v.b, .int .i64 v.l, .int .i64 v.a, .int .i64 v.s]) (t := 26) sz3) (World.ownsRow.lt o5 kk e).1)
                  refine hK.out _ _ s6 (fun hHeld => ?_)
                  have BB := Nat.le_trans (sz4 (cs := #[.bool true, .int .i64 v.n, .int .i64 v.p, .int .i64 v.b, .int .i64 v.l, .int .i64 v.a, .int .i64 v.s]) (t := 26) sz3) (Nat.le_refl _)
                  clear hK K hg6 hat6 s6
                  try simp only [Act.put, List.getElem_toArray, List.getElem_cons_zero, List.getElem_cons_succ, List.setIfInBounds_toArray, List.set_cons_zero, List.set_cons_succ]
                  refine wpAnyH_ready (rs := [11]) (by kernel_rfl) (by simp) (AllReadyH.cons rfl (fun K hK => ?_) AllReadyH.nil)
                  have hc6 := own_cap7 o6
                  go_simp
                  refine hK.out _ _ hHeld (fun hHeld => ?_)
                  clear hK K
                  try simp only [Act.put, List.getElem_toArray, List.getElem_cons_zero, List.getElem_cons_succ, List.setIfInBounds_toArray, List.set_cons_zero, List.set_cons_succ]
                  refine wpAnyH_take (i := 12) (v := .slice (some ⟨g, 0, none⟩) (j + 1) cap) rfl (by kernel_rfl) (by kernel_rfl) (by kernel_rfl) (fun _ _ _ h => h) (Or.inl ⟨by rfl, fun w hSw => by go_simp⟩) (by assumption) ?_
                  try simp only [Act.put, List.getElem_toArray, List.getElem_cons_zero, List.getElem_cons_succ, List.setIfInBounds_toArray, List.set_cons_zero, List.set_cons_succ]
                  refine wpAnyH_take (i := 13) (v := .int .i64 0) rfl (by kernel_rfl) (by kernel_rfl) (by kernel_rfl) (fun _ _ _ h => h) (Or.inl ⟨by rfl, fun w hSw => by go_simp⟩) (by assumption) ?_
                  try simp only [Act.put, List.getElem_toArray, List.getElem_cons_zero, List.getElem_cons_succ, List.setIfInBounds_toArray, List.set_cons_zero, List.set_cons_succ]
                  refine wpAnyH_done (by kernel_rfl) ?_ _
                  go_wp2
                  rw [show ([.bool true, .int .i64 v.n, .int .i64 v.p, .int .i64 v.b, .int .i64 v.l, .int .i64 v.a, .int .i64 v.s] : List Value) = mvC v by unfold mvC; rw [hvi]] at o6
                  have e6 := set_parts (v := v) HLT.out
                  rw [List.drop_of_length_le (by omega), List.flatMap_nil, List.append_nil] at e6
                  rw [← e6] at o6
                  obtain ⟨aa, dd, e7, _, A7⟩ := own_vals (by rw [List.length_set]; omega) o6
                  exact bodyPost_ret (v := .tuple #[.slice (some ⟨g, 0, none⟩) (j + 1) cap, .int .i64 0]) (by simp [results, Try.results14, go_sem]) rfl ⟨some ⟨g, 0, none⟩, cap, by rw [List.length_set, HEQ.out], hB3.trans (hHeld.mono (by omega)), by injection e7 with e7; rw [e7]; exact A7⟩
              · go_enter Try.func14, Try.ntmps14
                go_upto_region 12 with (first | (go_at_call 12; refine (cM _ (HA.out _ (two _ _))).mono ?_; rintro e w1 ⟨rfl, hbb⟩; have B1 := ((Box.new _ _ _).alloc _).below hbb; have B2 := (Box.new1 _ _ _ _).below hbb; have q1 := B1.cell; have q2 := B2.cell; have hB1 := Below.step0 (two _ _) hbb; clear hbb cM) | (go_at_call 25; refine (cV _).mono ?_; rintro e w2 ⟨rfl, hbb⟩; replace B1 := B1.below hbb; replace B2 := B2.below hbb; replace q1 := B1.cell; replace q2 := B2.cell; have hB2 := Below.step0 hB1 hbb; clear hbb cV) | (go_at_call 22; refine (cP _).mono ?_; rintro e w3 ⟨rfl, hbb⟩; replace B1 := B1.below hbb; replace B2 := B2.below hbb; replace q1 := B1.cell; replace q2 := B2.cell; have hB3 := Below.step0 hB2 hbb; clear hbb cP) | (go_at_call 23; refine (ref_within _ _ _).mono ?_; simp only [hp16]; rintro e w4 ⟨rfl, rfl⟩))
                have sz3 : w.heap.size + 2 ≤ w4.heap.size := B2.lt
                refine wp_region_held_drew (S := Below (w.heap.size + 2) w4) (by kernel_rfl) ((Below.refl _ _).drew) (fun hHeld => ?_)
                refine wpAnyH_take (i := 0) (v := .slice (some ⟨B, off0, none⟩) vs.length c) rfl (by kernel_rfl) (by kernel_rfl) (by kernel_rfl) (fun _ _ _ h => h) (Or.inl ⟨by rfl, fun w hSw => by go_simp⟩) (by assumption) ?_
                try simp only [Act.put, List.getElem_toArray, List.getElem_cons_zero, List.getElem_cons_succ, List.setIfInBounds_toArray, List.set_cons_zero, List.set_cons_succ]
                refine wpAnyH_take (i := 1) (v := .int .i64 (j : Int)) rfl (by kernel_rfl) (by kernel_rfl) (by kernel_rfl) (fun _ _ _ h => h) (Or.inl ⟨by rfl, fun w hSw => by go_simp⟩) (by assumption) ?_
                try simp only [Act.put, List.getElem_toArray, List.getElem_cons_zero, List.getElem_cons_succ, List.setIfInBounds_toArray, List.set_cons_zero, List.set_cons_succ]
                refine wpAnyH_take (i := 2) (v := .slice (some ⟨B, off0, none⟩) j c) rfl (by kernel_rfl) (by kernel_rfl) (by kernel_rfl) (fun _ _ _ h => h) (Or.inl ⟨by rfl, fun w hSw => by go_simp⟩) (by assumption) ?_
                try simp only [Act.put, List.getElem_toArray, List.getElem_cons_zero, List.getElem_cons_succ, List.setIfInBounds_toArray, List.set_cons_zero, List.set_cons_succ]
                refine wpAnyH_take (i := 4) (v := .agg #[.bool true, .int .i64 v.n, .int .i64 v.p, .int .i64 v.b, .int .i64 v.l, .int .i64 v.a, .int .i64 v.s]) rfl (by kernel_rfl) (by kernel_rfl) (by kernel_rfl) (fun _ _ _ h => h) (Or.inl ⟨by rfl, fun w hSw => by have q := fun o => (hSw.cell (p := ⟨_, o, none⟩) (Nat.lt_succ_self _)).trans (q2 o); go_simp⟩) (by assumption) ?_
                try simp only [Act.put, List.getElem_toArray, List.getElem_cons_zero, List.getElem_cons_succ, List.setIfInBounds_toArray, List.set_cons_zero, List.set_cons_succ]
                refine wpAnyH_take (i := 7) (v := .slice (some ⟨B, off0, none⟩) vs.length c) rfl (by kernel_rfl) (by kernel_rfl) (by kernel_rfl) (fun _ _ _ h => h) (Or.inl ⟨by rfl, fun w hSw => by go_simp⟩) (by assumption) ?_
                try simp only [Act.put, List.getElem_toArray, List.getElem_cons_zero, List.getElem_cons_succ, List.setIfInBounds_toArray, List.set_cons_zero, List.set_cons_succ]
                refine wpAnyH_take (i := 8) (v := .int .i64 (j : Int)) rfl (by kernel_rfl) (by kernel_rfl) (by kernel_rfl) (fun _ _ _ h => h) (Or.inl ⟨by rfl, fun w hSw => by go_simp⟩) (by assumption) ?_
                try simp only [Act.put, List.getElem_toArray, List.getElem_cons_zero, List.getElem_cons_succ, List.setIfInBounds_toArray, List.set_cons_zero, List.set_cons_succ]
                refine wpAnyH_take (i := 9) (v := .int .i64 ((j : Int) + 1)) rfl (by kernel_rfl) (by kernel_rfl) (by kernel_rfl) (fun _ _ _ h => h) (Or.inl ⟨by rfl, fun w hSw => by go_simp⟩) (by assumption) ?_
                try simp only [Act.put, List.getElem_toArray, List.getElem_cons_zero, List.getElem_cons_succ, List.setIfInBounds_toArray, List.set_cons_zero, List.set_cons_succ]
                refine wpAnyH_take (i := 10) (v := .slice (some ⟨B, off0 + (j + 1) * 7, none⟩) 0 (c - (j + 1))) rfl (by kernel_rfl) (by kernel_rfl) (by kernel_rfl) (fun _ _ _ h => h) (Or.inl ⟨by rfl, fun w hSw => by go_simp⟩) (by assumption) ?_
                try simp only [Act.put, List.getElem_toArray, List.getElem_cons_zero, List.getElem_cons_succ, List.setIfInBounds_toArray, List.set_cons_zero, List.set_cons_succ]
                refine wpAnyH_ready (rs := [3, 5]) (by kernel_rfl) (by simp) (AllReadyH.cons rfl (fun K hK => ?_) (AllReadyH.cons rfl (fun K hK => ?_) AllReadyH.nil))
                · go_simp
                  refine (cC _ ((HA.out _ (hB3.trans (hHeld.mono (by omega)))).take j)).mono ?_
                  rintro e w5 ⟨V, rfl, hbb, o5⟩
                  refine hK.out _ _ (hHeld.trans (hbb.mono (le2 hHeld sz3))) (fun hHeld => ?_)
                  clear hK K
                  try simp only [Act.put, List.getElem_toArray, List.getElem_cons_zero, List.getElem_cons_succ, List.setIfInBounds_toArray, List.set_cons_zero, List.set_cons_succ]
                  refine wpAnyH_ready (rs := [5]) (by kernel_rfl) (by simp) (AllReadyH.cons rfl (fun K hK => ?_) AllReadyH.nil)
                  go_simp
                  refine hK.out _ _ (hHeld.alloc (le2 hHeld sz3) _) (fun hHeld => ?_)
                  clear hK K
                  try simp only [Act.put, List.getElem_toArray, List.getElem_cons_zero, List.getElem_cons_succ, List.setIfInBounds_toArray, List.set_cons_zero, List.set_cons_succ]
                  refine wpAnyH_ready (rs := [6]) (by kernel_rfl) (by simp) (AllReadyH.cons rfl (fun K hK => ?_) AllReadyH.nil)
                  refine step_append_lies _ rfl (.tmp 45) (.tmp 47) 22 rfl _ 26 i0 _ 7 56 Try.underlying22 hi hz0 hz1 hz2 rfl (by decide) V j ((vs.take j).flatMap mvC) rfl (o5.alloc _) ⟨w5.heap.size, 0, none⟩ 1 1 [.bool true, .int .i64 v.n, .int .i64 v.p, .int .i64 v.b, .int .i64 v.l, .int .i64 v.a, .int .i64 v.s] rfl rfl (World.news_of_block (cs := #[.bool true, .int .i64 v.n, .int .i64 v.p, .int .i64 v.b, .int .i64 v.l, .int .i64 v.a, .int .i64 v.s]) (t := 26) (fr := (0, 0)) (heap_alloc_new w5 (.cells #[.bool true, .int .i64 v.n, .int .i64 v.p, .int .i64 v.b, .int .i64 v.l, .int .i64 v.a, .int .i64 v.s] 26))) ONv (by decide) (by omega) (by omega) hHeld.size _ rfl ?_
                  intro g cap w6 o6 hg6 hat6 hlt6
                  have s6 := Below.grown hHeld hg6 (le2 hHeld sz3) (fun kk e => Nat.le_trans (show w.heap.size + 2 ≤ w4.drew.heap.size from sz3) (World.ownsRow.lt o5 kk e).1)
                  refine hK.out _ _ s6 (fun hHeld => ?_)
                  have BB := Nat.le_trans (show w.heap.size + 2 ≤ w4.drew.heap.size from sz3) (Nat.le_refl _)
                  clear hK K hg6 hat6 s6
                  try simp only [Act.put, List.getElem_toArray, List.getElem_cons_zero, List.getElem_cons_succ, List.setIfInBounds_toArray, List.set_cons_zero, List.set_cons_succ]
                  refine wpAnyH_ready (rs := [11]) (by kernel_rfl) (by simp) (AllReadyH.cons rfl (fun K hK => ?_) AllReadyH.nil)
                  have hc6 := own_cap7 o6
                  go_simp
                  refine hK.out _ _ hHeld (fun hHeld => ?_)
                  clear hK K
                  try simp only [Act.put, List.getElem_toArray, List.getElem_cons_zero, List.getElem_cons_succ, List.setIfInBounds_toArray, List.set_cons_zero, List.set_cons_succ]
                  refine wpAnyH_take (i := 12) (v := .slice (some ⟨g, 0, none⟩) (j + 1) cap) rfl (by kernel_rfl) (by kernel_rfl) (by kernel_rfl) (fun _ _ _ h => h) (Or.inl ⟨by rfl, fun w hSw => by go_simp⟩) (by assumption) ?_
                  try simp only [Act.put, List.getElem_toArray, List.getElem_cons_zero, List.getElem_cons_succ, List.setIfInBounds_toArray, List.set_cons_zero, List.set_cons_succ]
                  refine wpAnyH_take (i := 13) (v := .int .i64 0) rfl (by kernel_rfl) (by kernel_rfl) (by kernel_rfl) (fun _ _ _ h => h) (Or.inl ⟨by rfl, fun w hSw => by go_simp⟩) (by assumption) ?_
                  try simp only [Act.put, List.getElem_toArray, List.getElem_cons_zero, List.getElem_cons_succ, List.setIfInBounds_toArray, List.set_cons_zero, List.set_cons_succ]
                  refine wpAnyH_done (by kernel_rfl) ?_ _
                  go_wp2
                  rw [show ([.bool true, .int .i64 v.n, .int .i64 v.p, .int .i64 v.b, .int .i64 v.l, .int .i64 v.a, .int .i64 v.s] : List Value) = mvC v by unfold mvC; rw [hvi]] at o6
                  have e6 := set_parts (v := v) HLT.out
                  rw [List.drop_of_length_le (by omega), List.flatMap_nil, List.append_nil] at e6
                  rw [← e6] at o6
                  obtain ⟨aa, dd, e7, _, A7⟩ := own_vals (by rw [List.length_set]; omega) o6
                  exact bodyPost_ret (v := .tuple #[.slice (some ⟨g, 0, none⟩) (j + 1) cap, .int .i64 0]) (by simp [results, Try.results14, go_sem]) rfl ⟨some ⟨g, 0, none⟩, cap, by rw [List.length_set, HEQ.out], hB3.trans (hHeld.mono (by omega)), by injection e7 with e7; rw [e7]; exact A7⟩
                · go_simp
                  refine hK.out _ _ (hHeld.alloc (le2 hHeld sz3) _) (fun hHeld => ?_)
                  clear hK K
                  try simp only [Act.put, List.getElem_toArray, List.getElem_cons_zero, List.getElem_cons_succ, List.setIfInBounds_toArray, List.set_cons_zero, List.set_cons_succ]
                  refine wpAnyH_ready (rs := [3]) (by kernel_rfl) (by simp) (AllReadyH.cons rfl (fun K hK => ?_) AllReadyH.nil)
                  go_simp
                  refine (cC _ ((HA.out _ (hB3.trans (hHeld.mono (by omega)))).take j)).mono ?_
                  rintro e w5 ⟨V, rfl, hbb, o5⟩
                  refine hK.out _ _ (hHeld.trans (hbb.mono (le2 hHeld sz3))) (fun hHeld => ?_)
                  clear hK K
                  try simp only [Act.put, List.getElem_toArray, List.getElem_cons_zero, List.getElem_cons_succ, List.setIfInBounds_toArray, List.set_cons_zero, List.set_cons_succ]
                  refine wpAnyH_ready (rs := [6]) (by kernel_rfl) (by simp) (AllReadyH.cons rfl (fun K hK => ?_) AllReadyH.nil)
                  refine step_append_lies _ rfl (.tmp 45) (.tmp 47) 22 rfl _ 26 i0 _ 7 56 Try.underlying22 hi hz0 hz1 hz2 rfl (by decide) V j ((vs.take j).flatMap mvC) rfl o5 ⟨w4.heap.size, 0, none⟩ 1 1 [.bool true, .int .i64 v.n, .int .i64 v.p, .int .i64 v.b, .int .i64 v.l, .int .i64 v.a, .int .i64 v.s] rfl rfl (fun jj u hu => by rw [addr_add, hbb.cell (p := ⟨w4.heap.size, 0 + jj, none⟩) (by simp)]; exact news_old (w := w4.drew) hu) ONv (by decide) (by omega) (by omega) hbb.size _ rfl ?_
                  intro g cap w6 o6 hg6 hat6 hlt6
                  have s6 := Below.grown hHeld hg6 (le2 hHeld sz3) (fun kk e => Nat.le_trans (sz4 (cs := #[.bool true, .int .i64 v.n, .int .i64 v.p, .int .i64 v.b, .int .i64 v.l, .int .i64 v.a, .int .i64 v.s]) (t := 26) sz3) (World.ownsRow.lt o5 kk e).1)
                  refine hK.out _ _ s6 (fun hHeld => ?_)
                  have BB := Nat.le_trans (sz4 (cs := #[.bool true, .int .i64 v.n, .int .i64 v.p, .int .i64 v.b, .int .i64 v.l, .int .i64 v.a, .int .i64 v.s]) (t := 26) sz3) (Nat.le_refl _)
                  clear hK K hg6 hat6 s6
                  try simp only [Act.put, List.getElem_toArray, List.getElem_cons_zero, List.getElem_cons_succ, List.setIfInBounds_toArray, List.set_cons_zero, List.set_cons_succ]
                  refine wpAnyH_ready (rs := [11]) (by kernel_rfl) (by simp) (AllReadyH.cons rfl (fun K hK => ?_) AllReadyH.nil)
                  have hc6 := own_cap7 o6
                  go_simp
                  refine hK.out _ _ hHeld (fun hHeld => ?_)
                  clear hK K
                  try simp only [Act.put, List.getElem_toArray, List.getElem_cons_zero, List.getElem_cons_succ, List.setIfInBounds_toArray, List.set_cons_zero, List.set_cons_succ]
                  refine wpAnyH_take (i := 12) (v := .slice (some ⟨g, 0, none⟩) (j + 1) cap) rfl (by kernel_rfl) (by kernel_rfl) (by kernel_rfl) (fun _ _ _ h => h) (Or.inl ⟨by rfl, fun w hSw => by go_simp⟩) (by assumption) ?_
                  try simp only [Act.put, List.getElem_toArray, List.getElem_cons_zero, List.getElem_cons_succ, List.setIfInBounds_toArray, List.set_cons_zero, List.set_cons_succ]
                  refine wpAnyH_take (i := 13) (v := .int .i64 0) rfl (by kernel_rfl) (by kernel_rfl) (by kernel_rfl) (fun _ _ _ h => h) (Or.inl ⟨by rfl, fun w hSw => by go_simp⟩) (by assumption) ?_
                  try simp only [Act.put, List.getElem_toArray, List.getElem_cons_zero, List.getElem_cons_succ, List.setIfInBounds_toArray, List.set_cons_zero, List.set_cons_succ]
                  refine wpAnyH_done (by kernel_rfl) ?_ _
                  go_wp2
                  rw [show ([.bool true, .int .i64 v.n, .int .i64 v.p, .int .i64 v.b, .int .i64 v.l, .int .i64 v.a, .int .i64 v.s] : List Value) = mvC v by unfold mvC; rw [hvi]] at o6
                  have e6 := set_parts (v := v) HLT.out
                  rw [List.drop_of_length_le (by omega), List.flatMap_nil, List.append_nil] at e6
                  rw [← e6] at o6
                  obtain ⟨aa, dd, e7, _, A7⟩ := own_vals (by rw [List.length_set]; omega) o6
                  exact bodyPost_ret (v := .tuple #[.slice (some ⟨g, 0, none⟩) (j + 1) cap, .int .i64 0]) (by simp [results, Try.results14, go_sem]) rfl ⟨some ⟨g, 0, none⟩, cap, by rw [List.length_set, HEQ.out], hB3.trans (hHeld.mono (by omega)), by injection e7 with e7; rw [e7]; exact A7⟩
      · have hE : storeE vs k off v = plE vs.length k off 2 := by unfold storeE; rw [if_pos hm, if_pos hc, if_neg hp]
        have hL := store_no (show ¬ storeE vs k off v = 0 by rw [hE]; exact hp)
        rw [if_neg hp] at cP
        rw [hE, hL]
        have ge : (plE vs.length k off 2 != 0) = true := by simpa using hp
        generalize plE vs.length k off 2 = E at *
        clear hE hL hp hm hc
        go_enter Try.func14, Try.ntmps14
        go_wp2_with (first | (go_at_call 12; refine (cM _ (HA.out _ (two _ _))).mono ?_; rintro e w1 ⟨rfl, hbb⟩; have B1 := ((Box.new _ _ _).alloc _).below hbb; have B2 := (Box.new1 _ _ _ _).below hbb; have q1 := B1.cell; have q2 := B2.cell; have hB1 := Below.step0 (two _ _) hbb; clear hbb cM) | (go_at_call 25; refine (cV _).mono ?_; rintro e w2 ⟨rfl, hbb⟩; replace B1 := B1.below hbb; replace B2 := B2.below hbb; replace q1 := B1.cell; replace q2 := B2.cell; have hB2 := Below.step0 hB1 hbb; clear hbb cV) | (go_at_call 22; refine (cP _).mono ?_; rintro e w3 ⟨rfl, hbb⟩; replace B1 := B1.below hbb; replace B2 := B2.below hbb; replace q1 := B1.cell; replace q2 := B2.cell; have hB3 := Below.step0 hB2 hbb; clear hbb cP) | (go_at_call 23; refine (ref_within _ _ _).mono ?_; simp only [hp16]; rintro e w4 ⟨rfl, rfl⟩))
        exact bodyPost_ret (v := .tuple #[.slice none 0 0, .int .i64 E]) (by simp [results, Try.results14, go_sem]) rfl ⟨none, 0, rfl, hB3, .inl rfl⟩
    · have hE : storeE vs k off v = chk1 v := by unfold storeE; rw [if_pos hm, if_neg hc]
      have hL := store_no (show ¬ storeE vs k off v = 0 by rw [hE]; exact hc)
      rw [hE, hL]
      have ge : (chk1 v != 0) = true := by simpa using hc
      generalize chk1 v = E at *
      clear hE hL hm hc
      go_enter Try.func14, Try.ntmps14
      go_wp2_with (first | (go_at_call 12; refine (cM _ (HA.out _ (two _ _))).mono ?_; rintro e w1 ⟨rfl, hbb⟩; have B1 := ((Box.new _ _ _).alloc _).below hbb; have B2 := (Box.new1 _ _ _ _).below hbb; have q1 := B1.cell; have q2 := B2.cell; have hB1 := Below.step0 (two _ _) hbb; clear hbb cM) | (go_at_call 25; refine (cV _).mono ?_; rintro e w2 ⟨rfl, hbb⟩; replace B1 := B1.below hbb; replace B2 := B2.below hbb; replace q1 := B1.cell; replace q2 := B2.cell; have hB2 := Below.step0 hB1 hbb; clear hbb cV) | (go_at_call 22; refine (cP _).mono ?_; rintro e w3 ⟨rfl, hbb⟩; replace B1 := B1.below hbb; replace B2 := B2.below hbb; replace q1 := B1.cell; replace q2 := B2.cell; have hB3 := Below.step0 hB2 hbb; clear hbb cP) | (go_at_call 23; refine (ref_within _ _ _).mono ?_; simp only [hp16]; rintro e w4 ⟨rfl, rfl⟩))
      exact bodyPost_ret (v := .tuple #[.slice none 0 0, .int .i64 E]) (by simp [results, Try.results14, go_sem]) rfl ⟨none, 0, rfl, hB2, .inl rfl⟩
  · have hE : storeE vs k off v = memE vs := by unfold storeE; rw [if_neg hm]
    have hL := store_no (show ¬ storeE vs k off v = 0 by rw [hE]; exact hm)
    rw [hE, hL]
    have ge : (memE vs != 0) = true := by simpa using hm
    generalize memE vs = E at *
    clear hE hL hm
    go_enter Try.func14, Try.ntmps14
    go_wp2_with (first | (go_at_call 12; refine (cM _ (HA.out _ (two _ _))).mono ?_; rintro e w1 ⟨rfl, hbb⟩; have B1 := ((Box.new _ _ _).alloc _).below hbb; have B2 := (Box.new1 _ _ _ _).below hbb; have q1 := B1.cell; have q2 := B2.cell; have hB1 := Below.step0 (two _ _) hbb; clear hbb cM) | (go_at_call 25; refine (cV _).mono ?_; rintro e w2 ⟨rfl, hbb⟩; replace B1 := B1.below hbb; replace B2 := B2.below hbb; replace q1 := B1.cell; replace q2 := B2.cell; have hB2 := Below.step0 hB1 hbb; clear hbb cV) | (go_at_call 22; refine (cP _).mono ?_; rintro e w3 ⟨rfl, hbb⟩; replace B1 := B1.below hbb; replace B2 := B2.below hbb; replace q1 := B1.cell; replace q2 := B2.cell; have hB3 := Below.step0 hB2 hbb; clear hbb cP) | (go_at_call 23; refine (ref_within _ _ _).mono ?_; simp only [hp16]; rintro e w4 ⟨rfl, rfl⟩))
    exact bodyPost_ret (v := .tuple #[.slice none 0 0, .int .i64 E]) (by simp [results, Try.results14, go_sem]) rfl ⟨none, 0, rfl, hB1, .inl rfl⟩
end Go.Proofs.Ytpkmpkbgngbkjaa
