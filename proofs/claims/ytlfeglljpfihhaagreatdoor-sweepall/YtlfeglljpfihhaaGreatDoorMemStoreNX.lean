/- mem.Store: what is stored lies in memory of its own. -/
import Derived.Test.YtlfeglljpfihhaaGreatDoorRows
import Derived.Test.YtlfeglljpfihhaaGreatDoorCardBaseX
import Derived.Test.YtlfeglljpfihhaaGreatDoorCellChkX
import Derived.Test.YtlfeglljpfihhaaGreatDoorKeyChkX
import Derived.Test.YtlfeglljpfihhaaGreatDoorKeyCovX
import Derived.Test.YtlfeglljpfihhaaGreatDoorValArgX
import Derived.Test.YtlfeglljpfihhaaGreatDoorMemPureX
import Derived.Test.YtlfeglljpfihhaaGreatDoorMemChkX
import Derived.Test.YtlfeglljpfihhaaGreatDoorStepOffX
import Derived.WalkKit
import Derived.ProofKit
import Derived.OpenShut
import Derived.Deep.CutBlock
import Derived.Laws.CopyOwn
import Derived.Laws.OwnMore
import Derived.Laws.Rows
namespace Go.Proofs.YtlfeglljpfihhaaGreatDoor
open Go.ChangeShapes Go.WideShapes Go.ChangeAt Go.RowKit
set_option maxRecDepth 100000
set_option linter.unusedSimpArgs false

set_option maxHeartbeats 4000000 in
theorem mem_store_new (s : Option Addr) (c : Nat) (vs : List MV) (k : K5) (off : Int) (v : MV) (w : World) (hA : ValsAt w s vs) (hn : mvsOk vs) (hk : k5b k) (ho : -9223372036854775808 ≤ off ∧ off ≤ 9223372036854775807) (hv : mvOk v) :
    Calls Tryz.prog 84 #[.slice s vs.length c, .agg #[.int .i64 k.p, .int .i64 k.b, .int .i64 k.l, .int .i64 k.a, .int .i64 k.s], .int .i64 off, .agg #[.bool v.i, .int .i64 v.n, .int .i64 v.p, .int .i64 v.b, .int .i64 v.l, .int .i64 v.a, .int .i64 v.s]] w
      fun e w' => ∃ a d, e = .returned (.tuple #[.slice a (storeL vs k off v).length d, .int .i64 (storeE vs k off v)]) ∧ Below w.heap.size w w' ∧ ValsAt w' a (storeL vs k off v) ∧ ((storeL vs k off v).length ≤ d ∧ d ≤ maxLen) ∧ ∀ y ∈ a, w.heap.size ≤ y.block := by
  have cM := fun w hA => mem_check s c vs w hA hn
  have cV := fun w => cell_check v.i v.n v.p v.b v.l v.a v.s w hv
  have eV : chkV v.i v.n v.p v.b v.l v.a v.s = chk1 v := rfl
  rw [eV] at cV
  have cP := fun w => mem_place s c vs.length k off 2 w hk ho
  have HA : Hid (∀ w', Below w.heap.size w w' → ValsAt w' s vs) := fun w' hb => hA.below hb
  clear eV
  by_cases hm : memE vs = 0
  · rw [hm] at cM
    have hmx : vs.length ≤ maxLen := by have := (mem_small hm).1; unfold maxLen; omega
    by_cases hc : chk1 v = 0
    · rw [hc] at cV
      by_cases hp : plE vs.length k off 2 = 0
      · have P := plE_yes hp
        have hlt := P.lt
        rw [if_pos hp, hp] at cP
        have cW := fun w hA => mem_with s c vs (pl k off) v w hA hlt (mem_small hm).1
        unfold mvA at cW
        by_cases hx : v.i = true ∧ inB 16 k.p = false
        · have hE : storeE vs k off v = 12 := by unfold storeE; rw [if_pos hm, if_pos hc, if_pos hp, if_pos hx]
          have hL := store_no (show ¬ storeE vs k off v = 0 by rw [hE]; decide)
          rw [hE, hL]
          obtain ⟨hi, hp16⟩ := hx
          rw [hi] at cV
          generalize pl k off = j at *
          clear hE hL hm hc hp P cW
          go_enter Tryz.func84, Tryz.ntmps84
          go_wp2_with (first | (go_at_call 43; refine (cM _ (HA.out _ (two _ _))).mono ?_; rintro e w1 ⟨rfl, hbb⟩; have B1 := ((Box.new _ _ _).alloc _).below hbb; have B2 := (Box.new1 _ _ _ _).below hbb; have q1 := B1.cell; have q2 := B2.cell; have hB1 := Below.step0 (two _ _) hbb; clear hbb cM) | (go_at_call 41; refine (cV _).mono ?_; rintro e w2 ⟨rfl, hbb⟩; replace B1 := B1.below hbb; replace B2 := B2.below hbb; replace q1 := B1.cell; replace q2 := B2.cell; have hB2 := Below.step0 hB1 hbb; clear hbb cV) | (go_at_call 108; refine (cP _).mono ?_; rintro e w3 ⟨rfl, hbb⟩; replace B1 := B1.below hbb; replace B2 := B2.below hbb; replace q1 := B1.cell; replace q2 := B2.cell; have hB3 := Below.step0 hB2 hbb; clear hbb cP) | (go_at_call 35; refine (perm_within _ _ _).mono ?_; simp only [hp16]; rintro e w4 ⟨rfl, rfl⟩) | (go_at_call 109; refine (cW _ (HA.out _ hB3)).mono ?_; rintro e w5 ⟨g, rfl, hbb, hg, hA5⟩; have hB4 := Below.step0 hB3 hbb; clear hbb cW))
          exact bodyPost_ret (v := .tuple #[.slice none 0 0, .int .i64 12]) (by simp [results, Tryz.results84, go_sem]) rfl ⟨none, 0, rfl, hB3, .inl rfl, ⟨Nat.le_refl _, Nat.zero_le _⟩, fun y hy => by cases hy⟩
        · have hE : storeE vs k off v = 0 := by unfold storeE; rw [if_pos hm, if_pos hc, if_pos hp, if_neg hx]
          have hL := store_set hE
          rw [hE, hL]
          generalize pl k off = j at *
          clear hE hL hm hc hp P
          cases hi : v.i
          · rw [hi] at cW cV
            go_enter Tryz.func84, Tryz.ntmps84
            go_wp2_with (first | (go_at_call 43; refine (cM _ (HA.out _ (two _ _))).mono ?_; rintro e w1 ⟨rfl, hbb⟩; have B1 := ((Box.new _ _ _).alloc _).below hbb; have B2 := (Box.new1 _ _ _ _).below hbb; have q1 := B1.cell; have q2 := B2.cell; have hB1 := Below.step0 (two _ _) hbb; clear hbb cM) | (go_at_call 41; refine (cV _).mono ?_; rintro e w2 ⟨rfl, hbb⟩; replace B1 := B1.below hbb; replace B2 := B2.below hbb; replace q1 := B1.cell; replace q2 := B2.cell; have hB2 := Below.step0 hB1 hbb; clear hbb cV) | (go_at_call 108; refine (cP _).mono ?_; rintro e w3 ⟨rfl, hbb⟩; replace B1 := B1.below hbb; replace B2 := B2.below hbb; replace q1 := B1.cell; replace q2 := B2.cell; have hB3 := Below.step0 hB2 hbb; clear hbb cP) | (go_at_call 35; refine (perm_within _ _ _).mono ?_; simp only [hp16]; rintro e w4 ⟨rfl, rfl⟩) | (go_at_call 109; refine (cW _ (HA.out _ hB3)).mono ?_; rintro e w5 ⟨g, rfl, hbb, hg, hA5⟩; have hB4 := Below.step0 hB3 hbb; clear hbb cW))
            exact bodyPost_ret (v := .tuple #[.slice (some ⟨g, 0, none⟩) vs.length vs.length, .int .i64 0]) (by simp [results, Tryz.results84, go_sem]) rfl ⟨some ⟨g, 0, none⟩, vs.length, by rw [List.length_set], hB4, hA5, ⟨by rw [List.length_set]; exact Nat.le_refl _, hmx⟩, fun y hy => by cases hy; exact Nat.le_trans hB3.size hg⟩
          · have hp16 : inB 16 k.p = true := by
              cases h : inB 16 k.p
              · exact absurd ⟨hi, h⟩ hx
              · rfl
            rw [hi] at cW cV
            clear hx
            go_enter Tryz.func84, Tryz.ntmps84
            go_wp2_with (first | (go_at_call 43; refine (cM _ (HA.out _ (two _ _))).mono ?_; rintro e w1 ⟨rfl, hbb⟩; have B1 := ((Box.new _ _ _).alloc _).below hbb; have B2 := (Box.new1 _ _ _ _).below hbb; have q1 := B1.cell; have q2 := B2.cell; have hB1 := Below.step0 (two _ _) hbb; clear hbb cM) | (go_at_call 41; refine (cV _).mono ?_; rintro e w2 ⟨rfl, hbb⟩; replace B1 := B1.below hbb; replace B2 := B2.below hbb; replace q1 := B1.cell; replace q2 := B2.cell; have hB2 := Below.step0 hB1 hbb; clear hbb cV) | (go_at_call 108; refine (cP _).mono ?_; rintro e w3 ⟨rfl, hbb⟩; replace B1 := B1.below hbb; replace B2 := B2.below hbb; replace q1 := B1.cell; replace q2 := B2.cell; have hB3 := Below.step0 hB2 hbb; clear hbb cP) | (go_at_call 35; refine (perm_within _ _ _).mono ?_; simp only [hp16]; rintro e w4 ⟨rfl, rfl⟩) | (go_at_call 109; refine (cW _ (HA.out _ hB3)).mono ?_; rintro e w5 ⟨g, rfl, hbb, hg, hA5⟩; have hB4 := Below.step0 hB3 hbb; clear hbb cW))
            exact bodyPost_ret (v := .tuple #[.slice (some ⟨g, 0, none⟩) vs.length vs.length, .int .i64 0]) (by simp [results, Tryz.results84, go_sem]) rfl ⟨some ⟨g, 0, none⟩, vs.length, by rw [List.length_set], hB4, hA5, ⟨by rw [List.length_set]; exact Nat.le_refl _, hmx⟩, fun y hy => by cases hy; exact Nat.le_trans hB3.size hg⟩
      · have hE : storeE vs k off v = plE vs.length k off 2 := by unfold storeE; rw [if_pos hm, if_pos hc, if_neg hp]
        have hL := store_no (show ¬ storeE vs k off v = 0 by rw [hE]; exact hp)
        rw [if_neg hp] at cP
        rw [hE, hL]
        have ge : (plE vs.length k off 2 != 0) = true := by simpa using hp
        generalize plE vs.length k off 2 = E at *
        clear hE hL hp hm hc
        go_enter Tryz.func84, Tryz.ntmps84
        go_wp2_with (first | (go_at_call 43; refine (cM _ (HA.out _ (two _ _))).mono ?_; rintro e w1 ⟨rfl, hbb⟩; have B1 := ((Box.new _ _ _).alloc _).below hbb; have B2 := (Box.new1 _ _ _ _).below hbb; have q1 := B1.cell; have q2 := B2.cell; have hB1 := Below.step0 (two _ _) hbb; clear hbb cM) | (go_at_call 41; refine (cV _).mono ?_; rintro e w2 ⟨rfl, hbb⟩; replace B1 := B1.below hbb; replace B2 := B2.below hbb; replace q1 := B1.cell; replace q2 := B2.cell; have hB2 := Below.step0 hB1 hbb; clear hbb cV) | (go_at_call 108; refine (cP _).mono ?_; rintro e w3 ⟨rfl, hbb⟩; replace B1 := B1.below hbb; replace B2 := B2.below hbb; replace q1 := B1.cell; replace q2 := B2.cell; have hB3 := Below.step0 hB2 hbb; clear hbb cP) | (go_at_call 35; refine (perm_within _ _ _).mono ?_; simp only [hp16]; rintro e w4 ⟨rfl, rfl⟩) | (go_at_call 109; refine (cW _ (HA.out _ hB3)).mono ?_; rintro e w5 ⟨g, rfl, hbb, hg, hA5⟩; have hB4 := Below.step0 hB3 hbb; clear hbb cW))
        exact bodyPost_ret (v := .tuple #[.slice none 0 0, .int .i64 E]) (by simp [results, Tryz.results84, go_sem]) rfl ⟨none, 0, rfl, hB3, .inl rfl, ⟨Nat.le_refl _, Nat.zero_le _⟩, fun y hy => by cases hy⟩
    · have hE : storeE vs k off v = chk1 v := by unfold storeE; rw [if_pos hm, if_neg hc]
      have hL := store_no (show ¬ storeE vs k off v = 0 by rw [hE]; exact hc)
      rw [hE, hL]
      have ge : (chk1 v != 0) = true := by simpa using hc
      generalize chk1 v = E at *
      clear hE hL hm hc
      go_enter Tryz.func84, Tryz.ntmps84
      go_wp2_with (first | (go_at_call 43; refine (cM _ (HA.out _ (two _ _))).mono ?_; rintro e w1 ⟨rfl, hbb⟩; have B1 := ((Box.new _ _ _).alloc _).below hbb; have B2 := (Box.new1 _ _ _ _).below hbb; have q1 := B1.cell; have q2 := B2.cell; have hB1 := Below.step0 (two _ _) hbb; clear hbb cM) | (go_at_call 41; refine (cV _).mono ?_; rintro e w2 ⟨rfl, hbb⟩; replace B1 := B1.below hbb; replace B2 := B2.below hbb; replace q1 := B1.cell; replace q2 := B2.cell; have hB2 := Below.step0 hB1 hbb; clear hbb cV) | (go_at_call 108; refine (cP _).mono ?_; rintro e w3 ⟨rfl, hbb⟩; replace B1 := B1.below hbb; replace B2 := B2.below hbb; replace q1 := B1.cell; replace q2 := B2.cell; have hB3 := Below.step0 hB2 hbb; clear hbb cP) | (go_at_call 35; refine (perm_within _ _ _).mono ?_; simp only [hp16]; rintro e w4 ⟨rfl, rfl⟩) | (go_at_call 109; refine (cW _ (HA.out _ hB3)).mono ?_; rintro e w5 ⟨g, rfl, hbb, hg, hA5⟩; have hB4 := Below.step0 hB3 hbb; clear hbb cW))
      exact bodyPost_ret (v := .tuple #[.slice none 0 0, .int .i64 E]) (by simp [results, Tryz.results84, go_sem]) rfl ⟨none, 0, rfl, hB2, .inl rfl, ⟨Nat.le_refl _, Nat.zero_le _⟩, fun y hy => by cases hy⟩
  · have hE : storeE vs k off v = memE vs := by unfold storeE; rw [if_neg hm]
    have hL := store_no (show ¬ storeE vs k off v = 0 by rw [hE]; exact hm)
    rw [hE, hL]
    have ge : (memE vs != 0) = true := by simpa using hm
    generalize memE vs = E at *
    clear hE hL hm
    go_enter Tryz.func84, Tryz.ntmps84
    go_wp2_with (first | (go_at_call 43; refine (cM _ (HA.out _ (two _ _))).mono ?_; rintro e w1 ⟨rfl, hbb⟩; have B1 := ((Box.new _ _ _).alloc _).below hbb; have B2 := (Box.new1 _ _ _ _).below hbb; have q1 := B1.cell; have q2 := B2.cell; have hB1 := Below.step0 (two _ _) hbb; clear hbb cM) | (go_at_call 41; refine (cV _).mono ?_; rintro e w2 ⟨rfl, hbb⟩; replace B1 := B1.below hbb; replace B2 := B2.below hbb; replace q1 := B1.cell; replace q2 := B2.cell; have hB2 := Below.step0 hB1 hbb; clear hbb cV) | (go_at_call 108; refine (cP _).mono ?_; rintro e w3 ⟨rfl, hbb⟩; replace B1 := B1.below hbb; replace B2 := B2.below hbb; replace q1 := B1.cell; replace q2 := B2.cell; have hB3 := Below.step0 hB2 hbb; clear hbb cP) | (go_at_call 35; refine (perm_within _ _ _).mono ?_; simp only [hp16]; rintro e w4 ⟨rfl, rfl⟩) | (go_at_call 109; refine (cW _ (HA.out _ hB3)).mono ?_; rintro e w5 ⟨g, rfl, hbb, hg, hA5⟩; have hB4 := Below.step0 hB3 hbb; clear hbb cW))
    exact bodyPost_ret (v := .tuple #[.slice none 0 0, .int .i64 E]) (by simp [results, Tryz.results84, go_sem]) rfl ⟨none, 0, rfl, hB1, .inl rfl, ⟨Nat.le_refl _, Nat.zero_le _⟩, fun y hy => by cases hy⟩
end Go.Proofs.YtlfeglljpfihhaaGreatDoor
