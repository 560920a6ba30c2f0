/- Chapter 11, P24: with one key more no fewer are come to, and that one is; for every machine and any key. -/
import Derived.Test.YtlfeglljpfihhaaRows
import Derived.Test.YtlfeglljpfihhaaKeyArg
import Derived.Test.YtlfeglljpfihhaaMachArg
import Derived.Carry
import Derived.Test.YtlfeglljpfihhaaKeyPure
import Derived.Test.YtlfeglljpfihhaaStepChk
import Derived.Test.YtlfeglljpfihhaaStepChk2
import Derived.Test.YtlfeglljpfihhaaMachMid
import Derived.Test.YtlfeglljpfihhaaEqSame
import Derived.Test.YtlfeglljpfihhaaReachPls
import Derived.Test.YtlfeglljpfihhaaReachList
import Derived.Test.YtlfeglljpfihhaaReachUse
import Derived.Test.YtlfeglljpfihhaaReachRes
import Derived.Test.YtlfeglljpfihhaaMachSet
import Derived.Test.YtlfeglljpfihhaaNum
import Derived.WalkKit
import Derived.ProofKit
import Derived.OpenShut
namespace Go.Proofs.Ytlfeglljpfihhaa.reachGrows
open Go.ChangeShapes Go.WideShapes Go.ChangeAt Go.RowKit
set_option linter.unusedVariables false
set_option linter.unusedSimpArgs false

theorem own : ownKnob Try.prog.godebug = none := by kernel_rfl
theorem laidOut : laidOutB Try.prog = true := by kernel_rfl

theorem zero_keys (d : Bool) (W : World) : Calls Try.prog 10 #[.agg #[.bool false, .int .i64 0, .int .i64 0, .int .i64 0, .int .i64 0, .int .i64 0, .int .i64 0, .bool false, .int .i64 0, .int .i64 0, .int .i64 0, .int .i64 0, .int .i64 0, .int .i64 0, .bool false, .int .i64 0, .int .i64 0, .int .i64 0, .int .i64 0, .int .i64 0, .int .i64 0, .bool false, .int .i64 0, .int .i64 0, .int .i64 0, .int .i64 0, .int .i64 0, .int .i64 0, .bool false, .int .i64 0, .int .i64 0, .int .i64 0, .int .i64 0, .int .i64 0, .int .i64 0, .bool false, .int .i64 0, .int .i64 0, .int .i64 0, .int .i64 0, .int .i64 0, .int .i64 0, .bool false, .int .i64 0, .int .i64 0, .int .i64 0, .int .i64 0, .int .i64 0, .int .i64 0, .bool false, .int .i64 0, .int .i64 0, .int .i64 0, .int .i64 0, .int .i64 0, .int .i64 0, .int .i64 0, .int .i64 0, .int .i64 0, .int .i64 0, .int .i64 0, .slice none 0 0, .slice none 0 0, .slice none 0 0], .bool d] W fun e w' => ∃ a c, e = .returned (.tuple #[.slice a [key0].length c, .int .i64 0]) ∧ Below W.heap.size W w' ∧ RowAt w' a ([key0].flatMap k5C) := by
  have hA : McAt W zeroM zeroA := ⟨.inl rfl, .inl rfl, .inl rfl, Nat.le_refl _, Nat.le_refl _, show (0 : Nat) ≤ maxLen from Nat.zero_le _⟩
  have hO : McB zeroM := ⟨rfl, z8_ok, by show kb 0 0 0 0 0; unfold kb; decide, (fun v hv => by cases hv), (fun v hv => by cases hv), (fun v hv => by cases hv)⟩
  have hE : mcE zeroM = 0 := by decide +kernel
  have h := reach_keys zeroM zeroA d W hA hO hA.c.2.1 hA.c.2.2 hE
  refine Calls.mono (h : Calls Try.prog _ _ _ _) ?_
  rintro e w' ⟨a, c, ks, rfl, hb, hr, _, hk, hp⟩
  have hh : ∀ k, Has zeroM d k ↔ k = key0 := fun k => by
    constructor
    · intro h
      induction h with
      | rt hk =>
        cases hk with
        | reg v hv hi => rw [z8_no v hv] at hi; cases hi
        | code => rfl
        | fc hd f hf => cases hf
        | fd hd f hf hi => cases hf
      | cell r j v _ _ _ _ hm _ _ => cases hm
    · rintro rfl
      exact .rt .code
  have e1 : ks = [key0] := by
    have hm : ∀ k, k ∈ ks ↔ k = key0 := fun k => by rw [hk, hh]
    cases ks with
    | nil => exact absurd ((hm key0).2 rfl) (by simp)
    | cons x r =>
      have hx := (hm x).1 (by simp)
      cases r with
      | nil => rw [hx]
      | cons y r =>
        have hy := (hm y).1 (by simp)
        have := (List.pairwise_cons.1 hp).1 y (by simp)
        rw [hx, hy] at this
        exact absurd this (by rw [cmp5_lt]; simp)
  subst e1
  exact ⟨a, c, rfl, hb, hr⟩
theorem put_at {w : World} {x : MC} {q : MA} {k : Nat} {v : MV} (h : McAt w x q) : McAt w (putR x k v) q := ⟨h.m, h.s, h.o, h.c⟩
theorem put_ok {x : MC} {k : Nat} {v : MV} (h : McB x) (hv : mvOk v) : McB (putR x k v) :=
  ⟨put_r8 h.r8, fun u hu => (List.mem_or_eq_of_mem_set hu).elim (fun m => h.r u m) (fun e => e ▸ hv), h.k, h.m, h.s, h.o⟩
theorem put_has {x : MC} {r : Nat} {d : Bool} {v : MV} (hr : r < x.r.length) : ∀ k, Has (putR x r nil0) d k → Has (putR (putR x r nil0) r v) d k := fun k h => by
  induction h with
  | rt hk =>
    cases hk with
    | reg u hu hi =>
      refine .rt (.reg u ?_ hi)
      have hu' : u ∈ x.r.set r nil0 := hu
      show u ∈ (x.r.set r nil0).set r v
      rw [List.set_set]
      obtain ⟨j, hj⟩ := List.getElem?_of_mem hu'
      by_cases e : r = j
      · subst e
        rw [List.getElem?_set_self hr] at hj
        cases hj
        cases hi
      · rw [List.getElem?_set_ne e] at hj
        refine List.mem_of_getElem? (i := j) ?_
        rw [List.getElem?_set_ne e]
        exact hj
    | code => exact .rt .code
    | fc hd f hf => exact .rt (.fc hd f hf)
    | fd hd f hf hi => exact .rt (.fd hd f hf hi)
  | cell c j v _ hc hp hv hm hi ih => exact .cell c j v ih hc hp hv hm hi
theorem put_one {x : MC} {r : Nat} {d : Bool} {k : K5} (hr : r < x.r.length) : Has (putR x r (kV k)) d k :=
  .rt (show Rt (putR x r (kV k)) d (vK (kV k)) from .reg (kV k) (by
    show kV k ∈ x.r.set r (kV k)
    exact List.mem_set hr _) rfl)
theorem chkL_two : ∀ vs : List MV, (∀ v ∈ vs, chk1 v = 0 ∨ chk1 v = 1) → chkL vs = 0 ∨ chkL vs = 1
  | [], _ => .inl rfl
  | v :: vs, h => by
    unfold chkL
    split
    · exact chkL_two vs fun u hu => h u (List.mem_cons_of_mem _ hu)
    · exact h v (by simp)
theorem put_two {x : MC} {r : Nat} {k : K5} (h : mcE x = 0) : mcE (putR x r (kV k)) = 0 ∨ mcE (putR x r (kV k)) = 1 := by
  obtain ⟨h1, h2, h3, h4, h5⟩ := mc_zero.1 h
  have hv : chk1 (kV k) = 0 ∨ chk1 (kV k) = 1 := by
    unfold chk1 chkV kV keyE
    by_cases ho : ok k.p k.b k.l k.a k.s
    · left; simp [ho]
    · right; simp [ho]
  have hl : chkL (x.r.set r (kV k)) = 0 ∨ chkL (x.r.set r (kV k)) = 1 := chkL_two _ fun v hm => (List.mem_or_eq_of_mem_set hm).elim (fun m => .inl (chkL_all.1 h1 v m)) (fun e => e ▸ hv)
  unfold mcE putR
  dsimp only
  rw [h2, h3, h4, h5]
  rcases hl with hl | hl <;> rw [hl] <;> decide
set_option maxHeartbeats 4000000 in
set_option maxRecDepth 1000000 in
theorem walk (x0 : MC) (q0 : MA) (a1 : Int) (a2p a2b a2l a2a a2s : Int) (a3 : Bool) (O0 : McOk x0 q0) (b1 : -9223372036854775808 ≤ a1 ∧ a1 ≤ 9223372036854775807) (K2 : kb a2p a2b a2l a2a a2s) (w : World) (A0 : McAt w x0 q0) :
    Calls Try.prog 6 #[.agg (mcC x0 q0).toArray, .int .i64 a1, .agg #[.int .i64 a2p, .int .i64 a2b, .int .i64 a2l, .int .i64 a2a, .int .i64 a2s], .bool a3] w fun e w' => e = .returned (.bool true) ∧ Below w.heap.size w w' := by
  obtain ⟨r, hr⟩ : ∃ r : Nat, a1 % 8 = (r : Int) := ⟨(a1 % 8).toNat, by omega⟩
  have lr : r < 8 := by omega
  have gk : (r : Int) < 8 := by omega
  have gk0 : (0 : Int) ≤ (r : Int) := by omega
  have cR := fun w => ref_rest a1 8 w b1 (by omega)
  rw [hr] at cR
  clear hr
  obtain ⟨W0, hW0⟩ : ∃ W, W = (w.alloc (.cells (mcC x0 q0).toArray 31)).alloc (.cells #[.int .i64 a2p, .int .i64 a2b, .int .i64 a2l, .int .i64 a2a, .int .i64 a2s] 23) := ⟨_, rfl⟩
  have bM : Box W0 w.heap.size (mcC x0 q0).toArray := by rw [hW0]; exact (Box.new w _ _).alloc _
  have bK : Box W0 (w.heap.size + 1) #[.int .i64 a2p, .int .i64 a2b, .int .i64 a2l, .int .i64 a2a, .int .i64 a2s] := by
    have := Box.new (w.alloc (.cells (mcC x0 q0).toArray 31)) #[.int .i64 a2p, .int .i64 a2b, .int .i64 a2l, .int .i64 a2a, .int .i64 a2s] 23
    rw [hW0]
    simpa using this
  have hB : Below w.heap.size w W0 := by rw [hW0]; exact ((Below.refl _ _).alloc (Nat.le_refl _) _).alloc (by simp) _
  have HA : Hid (∀ w', Below w.heap.size w w' → McAt w' x0 q0) := fun w' hb => A0.below hb
  have cZ := zero_keys a3
  have cE := fun a b c d W h1 h2 => eq_keys a b c d [key0] W h1 h2 (by unfold maxLen; decide)
  clear A0
  go_enter Try.func6, Try.ntmps6
  go_upto_region 1 with fail
  rw [← hW0]
  clear hW0
  go_upto_region 2 with (go_at_call 10; refine (cZ _).mono ?_; rintro e w1 ⟨a, c, rfl, hb1, hn1⟩; replace bM := bM.below hb1; replace bK := bK.below hb1; replace hB := Below.step0 hB hb1; clear cZ hb1)
  have hB2 : ∀ x, Below w1.heap.size w1 (w1.alloc x) := fun x => (Below.refl _ _).alloc (Nat.le_refl _) _
  have hn2 := hn1.below (hB2 (.cells #[.int .i64 0, .int .i64 0, .int .i64 0, .int .i64 0, .int .i64 0] 23))
  replace bM := bM.below (hB2 (.cells #[.int .i64 0, .int .i64 0, .int .i64 0, .int .i64 0, .int .i64 0] 23))
  replace bK := bK.below (hB2 (.cells #[.int .i64 0, .int .i64 0, .int .i64 0, .int .i64 0, .int .i64 0] 23))
  replace hB := Below.step0 hB (hB2 (.cells #[.int .i64 0, .int .i64 0, .int .i64 0, .int .i64 0, .int .i64 0] 23))
  have hR0 : RowAt (w1.alloc (.cells #[.int .i64 0, .int .i64 0, .int .i64 0, .int .i64 0, .int .i64 0] 23)) (some ⟨w1.heap.size, 0, none⟩) ([key0].flatMap k5C) := .inr ⟨_, 0, rfl, by simp, fun j u hj => by rw [Nat.zero_add, cell_new]; show ([key0].flatMap k5C).toArray[j]? = some u; rw [List.getElem?_toArray]; exact hj⟩
  have cE1 := cE a (some ⟨w1.heap.size, 0, none⟩) c 1 _ hn2 hR0
  clear hn1 cE hR0 hB2 hn2
  rw [show [key0].length = 1 from rfl] at cE1
  go_upto_region 5 with (first | (go_at_call 12; refine cE1.mono ?_; rintro e w2 ⟨rfl, hbb⟩; replace bM := bM.below hbb; replace bK := bK.below hbb; replace hB := Below.step0 hB hbb; clear cE1 hbb) | (go_at_call 18; refine (cR _).mono ?_; rintro e wr1 ⟨rfl, rfl⟩; clear cR))
  go_upto_region 6 with ((with_reducible refine at_store ?_); refine pl_store_reg rfl (.tmp 37) (.tmp 35) rfl nil0 (S := w.heap.size) (k := r) (x := x0) (q := q0) (by rfl) (by rfl) bM O0.r8 lr ?_; intro w3 hOf bM3; replace bK := hOf.box bK (Nat.succ_ne_self _); replace hB := hB.trans (hOf.to (Nat.le_refl _) hB.size); clear hOf bM)
  obtain ⟨Y1, hY1⟩ : ∃ Y, putR x0 r nil0 = Y := ⟨_, rfl⟩
  rw [hY1] at bM3
  have O1 : McB Y1 := by rw [← hY1]; exact put_ok O0.toMcB nil0_ok
  have H1 : Hid (∀ W, Below w.heap.size w W → McAt W Y1 q0) := by rw [← hY1]; exact fun W hb => put_at (HA.out W hb)
  obtain ⟨Y2, hY2⟩ : ∃ Y, putR Y1 r (kV ⟨a2p, a2b, a2l, a2a, a2s⟩) = Y := ⟨_, rfl⟩
  have O2 : McB Y2 := by rw [← hY2]; exact put_ok O1 ⟨by show (-9223372036854775808 : Int) ≤ 0 ∧ (0 : Int) ≤ 9223372036854775807; decide, K2⟩
  have H2 : Hid (∀ W, Below w.heap.size w W → McAt W Y2 q0) := by rw [← hY2]; exact fun W hb => put_at (H1.out W hb)
  have hmono : ∀ k, Has Y1 a3 k → Has Y2 a3 k := by rw [← hY2, ← hY1]; exact put_has (by rw [O0.r8]; exact lr)
  have hone : Has Y2 a3 ⟨a2p, a2b, a2l, a2a, a2s⟩ := by rw [← hY2]; exact put_one (by rw [O1.r8]; exact lr)
  have h01 : mcE Y1 = 0 → mcE Y2 = 0 ∨ mcE Y2 = 1 := fun h => by rw [← hY2]; exact put_two h
  have Y18 := O1.r8
  have Y28 := O2.r8
  clear hY1 HA K2
  by_cases h1 : mcE Y1 = 0
  · have cA := fun W (hA : McAt W Y1 q0) => reach_keys_f Y1 q0 a3 W hA O1 hA.c.2.1 hA.c.2.2 h1
    rcases h01 h1 with h2 | h2
    · have cB := fun W (hA : McAt W Y2 q0) => reach_keys Y2 q0 a3 W hA O2 hA.c.2.1 hA.c.2.2 h2
      clear h01 h1 h2 O1 O2
      go_upto_region 7 with (first | ((with_reducible refine at_load ?_); refine pl_load_box (by rfl) 31 (.tmp 4) rfl w.heap.size (by rfl) (mcC Y1 q0) bM3 _ Try.underlying31 rfl (mach_info Y18) ?_) | (go_at_call 10; refine (cA _ (H1.out _ hB)).mono ?_; rintro e w4 ⟨ag, ac, ka, rfl, hag, hbb, na, la, ja, -⟩; have hfa : ag ≠ w.heap.size := Nat.ne_of_gt (Nat.lt_of_lt_of_le bM3.lt hag); replace bM3 := bM3.below hbb; replace bK := bK.below hbb; replace hB := Below.step0 hB hbb; clear cA hbb hag))
      have qK := bK.cell
      go_upto_region 8 with (first | ((with_reducible refine at_store ?_); refine pl_store_reg rfl (.tmp 48) (.tmp 46) rfl (kV ⟨a2p, a2b, a2l, a2a, a2s⟩) (S := w.heap.size) (k := r) (x := Y1) (q := q0) (by rfl) (by rfl) bM3 Y18 lr ?_; intro w5 hOf bM4; rw [hY2] at bM4; replace bK := hOf.box bK (Nat.succ_ne_self _); replace hB := hB.trans (hOf.to (Nat.le_refl _) hB.size); replace na := na.off hfa hOf; clear hOf bM3))
      clear qK
      go_upto_region 10 with (first | ((with_reducible refine at_load ?_); refine pl_load_box (by rfl) 31 (.tmp 4) rfl w.heap.size (by rfl) (mcC Y2 q0) bM4 _ Try.underlying31 rfl (mach_info Y28) ?_) | (go_at_call 10; refine (cB _ (H2.out _ hB)).mono ?_; rintro e w6 ⟨bl, bc, kb1, rfl, hbb, nb, lb, jb, -⟩; replace bM4 := bM4.below hbb; replace bK := bK.below hbb; replace hB := Below.step0 hB hbb; replace na := na.below hbb; clear cB hbb))
      have HF : Hid (∀ k, k ∈ ka → k ∈ kb1) := fun k h => (jb k).2 (hmono k ((ja k).1 h))
      have HL : Hid (kb1.length ≤ maxLen) := by show _ ≤ _; unfold maxLen; omega
      have cH := fun W k h => has_key bl bc kb1 k W h HL.out
      have hin := (jb _).2 hone
      clear hmono hone ja jb
      go_upto_region 12 with fail
      go_loopw [79] (fun i wr => ∃ j : Nat, j ≤ ka.length ∧ i = .int .i64 (j : Int) ∧ Below w6.heap.size w6 wr) (fun i _ => ka.length - (intOf i).toNat)
      case atStart => exact ⟨0, Nat.zero_le _, rfl, Below.refl _ _⟩
      case round =>
        obtain ⟨j, hj, rfl, hb4⟩ := hrel
        replace hB := Below.step0 hB hb4
        replace bK := bK.below hb4
        replace na := na.below hb4
        replace nb := nb.below hb4
        have HB6 := hb4
        clear hb4
        by_cases hlt : j < ka.length
        · have gkj : (j : Int) < (ka.length : Int) := by omega
          have hw1 : IntKind.i64.wrap ((j : Int) + 1) = (j : Int) + 1 := by rw [IntKind.wrap_i64]; omega
          obtain ⟨y, hy⟩ : ∃ y, ka[j]? = some y := ⟨_, List.getElem?_eq_getElem hlt⟩
          obtain ⟨Bk, off, ek, hBl, c0, c1, c2, c3, c4⟩ := keys_at na hy
          cases ek
          rw [Nat.zero_add] at c0 c1 c2 c3 c4
          have hyk : y ∈ kb1 := HF.out y (List.mem_of_getElem? hy)
          clear hy
          have cI := fun W h => cH W y h
          have hsz := hB.size
          have hB2 := hB.alloc hsz (.cells #[.int .i64 y.p, .int .i64 y.b, .int .i64 y.l, .int .i64 y.a, .int .i64 y.s] 23)
          have nb2 := nb.below ((Below.refl _ _).alloc (Nat.le_refl _) (.cells #[.int .i64 y.p, .int .i64 y.b, .int .i64 y.l, .int .i64 y.a, .int .i64 y.s] 23))
          have b61 : Below w6.heap.size w6 (wr.alloc (.cells #[.int .i64 y.p, .int .i64 y.b, .int .i64 y.l, .int .i64 y.a, .int .i64 y.s] 23)) := HB6.alloc HB6.size _
          clear HB6 hB nb na bK
          go_wp2_with (go_at_call 19; refine (cI _ nb2).mono ?_; rintro e w8 ⟨R, rfl, hR, hbb⟩; have b8 := Below.step0 b61 hbb; obtain rfl := hR.2 hyk; clear hbb)
          go_roundw
          case rel => first | exact ⟨j + 1, by omega, rfl, b8⟩ | exact ⟨_, ⟨j + 1, by omega, rfl⟩, b8⟩
          case measure => simp [intOf]; omega
        · obtain rfl : j = ka.length := by omega
          have gkj : ¬ (ka.length : Int) < (ka.length : Int) := by omega
          have qK := bK.cell
          have cI := cH wr (⟨a2p, a2b, a2l, a2a, a2s⟩ : K5) nb
          go_wp2_with (go_at_call 19; refine cI.mono ?_; rintro e w8 ⟨R, rfl, hR, hbb⟩; replace hB := Below.step0 hB hbb; obtain rfl := hR.2 hin; clear hbb)
          go_ret
          exact ⟨rfl, hB⟩
    · have cB := fun W (hA : McAt W Y2 q0) => reach_keys_no Y2 q0 a3 W hA O2 (by rw [h2]; decide)
      rw [h2] at cB
      clear h01 h1 h2 O1 O2 hmono hone
      go_upto_region 7 with (first | ((with_reducible refine at_load ?_); refine pl_load_box (by rfl) 31 (.tmp 4) rfl w.heap.size (by rfl) (mcC Y1 q0) bM3 _ Try.underlying31 rfl (mach_info Y18) ?_) | (go_at_call 10; refine (cA _ (H1.out _ hB)).mono ?_; rintro e w4 ⟨ag, ac, ka, rfl, hag, hbb, na, la, ja, -⟩; have hfa : ag ≠ w.heap.size := Nat.ne_of_gt (Nat.lt_of_lt_of_le bM3.lt hag); replace bM3 := bM3.below hbb; replace bK := bK.below hbb; replace hB := Below.step0 hB hbb; clear cA hbb hag))
      have qK := bK.cell
      go_upto_region 8 with (first | ((with_reducible refine at_store ?_); refine pl_store_reg rfl (.tmp 48) (.tmp 46) rfl (kV ⟨a2p, a2b, a2l, a2a, a2s⟩) (S := w.heap.size) (k := r) (x := Y1) (q := q0) (by rfl) (by rfl) bM3 Y18 lr ?_; intro w5 hOf bM4; rw [hY2] at bM4; replace bK := hOf.box bK (Nat.succ_ne_self _); replace hB := hB.trans (hOf.to (Nat.le_refl _) hB.size); clear hOf bM3))
      clear qK
      go_upto_region 10 with (first | ((with_reducible refine at_load ?_); refine pl_load_box (by rfl) 31 (.tmp 4) rfl w.heap.size (by rfl) (mcC Y2 q0) bM4 _ Try.underlying31 rfl (mach_info Y28) ?_) | (go_at_call 10; refine (cB _ (H2.out _ hB)).mono ?_; rintro e w6 ⟨rfl, hbb⟩; replace bM4 := bM4.below hbb; replace bK := bK.below hbb; replace hB := Below.step0 hB hbb; clear cB hbb))
      clear bM4 bK na ja la
      cases ka <;> go_wp2
      all_goals go_ret
      all_goals exact ⟨rfl, hB⟩
  · have cA := fun W (hA : McAt W Y1 q0) => reach_keys_no Y1 q0 a3 W hA O1 h1
    have g1 : (mcE Y1 != 0) = true := by simpa using h1
    by_cases h2 : mcE Y2 = 0
    · have cB := fun W (hA : McAt W Y2 q0) => reach_keys Y2 q0 a3 W hA O2 hA.c.2.1 hA.c.2.2 h2
      clear h01 h1 h2 O1 O2 hmono hone
      generalize mcE Y1 = E1 at *
      go_upto_region 7 with (first | ((with_reducible refine at_load ?_); refine pl_load_box (by rfl) 31 (.tmp 4) rfl w.heap.size (by rfl) (mcC Y1 q0) bM3 _ Try.underlying31 rfl (mach_info Y18) ?_) | (go_at_call 10; refine (cA _ (H1.out _ hB)).mono ?_; rintro e w4 ⟨rfl, hbb⟩; replace bM3 := bM3.below hbb; replace bK := bK.below hbb; replace hB := Below.step0 hB hbb; clear cA hbb))
      have qK := bK.cell
      go_upto_region 8 with (first | ((with_reducible refine at_store ?_); refine pl_store_reg rfl (.tmp 48) (.tmp 46) rfl (kV ⟨a2p, a2b, a2l, a2a, a2s⟩) (S := w.heap.size) (k := r) (x := Y1) (q := q0) (by rfl) (by rfl) bM3 Y18 lr ?_; intro w5 hOf bM4; rw [hY2] at bM4; replace bK := hOf.box bK (Nat.succ_ne_self _); replace hB := hB.trans (hOf.to (Nat.le_refl _) hB.size); clear hOf bM3))
      clear qK
      go_upto_region 10 with (first | ((with_reducible refine at_load ?_); refine pl_load_box (by rfl) 31 (.tmp 4) rfl w.heap.size (by rfl) (mcC Y2 q0) bM4 _ Try.underlying31 rfl (mach_info Y28) ?_) | (go_at_call 10; refine (cB _ (H2.out _ hB)).mono ?_; rintro e w6 ⟨bl, bc, kb1, rfl, hbb, nb, lb, jb, -⟩; replace bM4 := bM4.below hbb; replace bK := bK.below hbb; replace hB := Below.step0 hB hbb; clear cB hbb))
      clear bM4 bK nb jb lb
      go_wp2
      go_ret
      exact ⟨rfl, hB⟩
    · have cB := fun W (hA : McAt W Y2 q0) => reach_keys_no Y2 q0 a3 W hA O2 h2
      clear h01 h1 h2 O1 O2 hmono hone
      generalize mcE Y1 = E1 at *
      generalize mcE Y2 = E2 at *
      go_upto_region 7 with (first | ((with_reducible refine at_load ?_); refine pl_load_box (by rfl) 31 (.tmp 4) rfl w.heap.size (by rfl) (mcC Y1 q0) bM3 _ Try.underlying31 rfl (mach_info Y18) ?_) | (go_at_call 10; refine (cA _ (H1.out _ hB)).mono ?_; rintro e w4 ⟨rfl, hbb⟩; replace bM3 := bM3.below hbb; replace bK := bK.below hbb; replace hB := Below.step0 hB hbb; clear cA hbb))
      have qK := bK.cell
      go_upto_region 8 with (first | ((with_reducible refine at_store ?_); refine pl_store_reg rfl (.tmp 48) (.tmp 46) rfl (kV ⟨a2p, a2b, a2l, a2a, a2s⟩) (S := w.heap.size) (k := r) (x := Y1) (q := q0) (by rfl) (by rfl) bM3 Y18 lr ?_; intro w5 hOf bM4; rw [hY2] at bM4; replace bK := hOf.box bK (Nat.succ_ne_self _); replace hB := hB.trans (hOf.to (Nat.le_refl _) hB.size); clear hOf bM3))
      clear qK
      go_upto_region 10 with (first | ((with_reducible refine at_load ?_); refine pl_load_box (by rfl) 31 (.tmp 4) rfl w.heap.size (by rfl) (mcC Y2 q0) bM4 _ Try.underlying31 rfl (mach_info Y28) ?_) | (go_at_call 10; refine (cB _ (H2.out _ hB)).mono ?_; rintro e w6 ⟨rfl, hbb⟩; replace bM4 := bM4.below hbb; replace bK := bK.below hbb; replace hB := Below.step0 hB hbb; clear cB hbb))
      clear bM4 bK
      go_wp2
      go_ret
      exact ⟨rfl, hB⟩

set_option maxRecDepth 100000 in
theorem lifted (os : Os) (started : os.Started) (H : Type) (enc : TypeId × Value → H) :
    ReturnsInHanded {} Try.checked os 6 .any (Rows.reachGrowsSpec.pre6 enc Try.prog Try.f6 Rows.reachGrowsRow.domain false) (Rows.reachGrowsSpec.post enc Try.prog Try.f6 false true false false) := by
  refine returnsInHanded_of_change (C := Try.checked) own started (by kernel_rfl) Try.func6
    (ChangeSpec.witness6 (enc := enc) (C := Try.checked) false ⟨#[], #[.agg #[.bool false, .int .i64 0, .int .i64 0, .int .i64 0, .int .i64 0, .int .i64 0, .int .i64 0, .bool false, .int .i64 0, .int .i64 0, .int .i64 0, .int .i64 0, .int .i64 0, .int .i64 0, .bool false, .int .i64 0, .int .i64 0, .int .i64 0, .int .i64 0, .int .i64 0, .int .i64 0, .bool false, .int .i64 0, .int .i64 0, .int .i64 0, .int .i64 0, .int .i64 0, .int .i64 0, .bool false, .int .i64 0, .int .i64 0, .int .i64 0, .int .i64 0, .int .i64 0, .int .i64 0, .bool false, .int .i64 0, .int .i64 0, .int .i64 0, .int .i64 0, .int .i64 0, .int .i64 0, .bool false, .int .i64 0, .int .i64 0, .int .i64 0, .int .i64 0, .int .i64 0, .int .i64 0, .bool false, .int .i64 0, .int .i64 0, .int .i64 0, .int .i64 0, .int .i64 0, .int .i64 0, .int .i64 0, .int .i64 0, .int .i64 0, .int .i64 0, .int .i64 0, .slice none 0 0, .slice none 0 0, .slice none 0 0], .int .i64 0, .agg #[.int .i64 0, .int .i64 0, .int .i64 0, .int .i64 0, .int .i64 0], .bool false], []⟩ 8 (by kernel_rfl) (by kernel_rfl) (by kernel_rfl) (by kernel_rfl)) ?_
  intro W base args ds gs before hval0 hW hcnd _
  have hval : ∀ (j : Nat) t v, Try.f6.params[j]? = some t → args[j]? = some v → Value.okWide Try.prog W .any base t v := hval0
  have hW' := hW
  obtain ⟨p, q, hA0, hV, rfl, hfz, hnd⟩ := hW
  have hA : DataW.TrodAll enc Try.prog W 0 (fun _ => true) true Try.f6.params.toList args.toList ds p := hA0
  rw [Try.params6] at hA hval
  obtain ⟨v0, vs0, d0, ds0, p0, q0, hargs, rfl, rfl, h0, r0⟩ := trodAll_cons hA
  obtain ⟨v1, vs1, d1, ds1, p1, q1, rfl, rfl, rfl, h1, r1⟩ := trodAll_cons r0
  obtain ⟨v2, vs2, d2, ds2, p2, q2, rfl, rfl, rfl, h2, r2⟩ := trodAll_cons r1
  obtain ⟨v3, vs3, d3, ds3, p3, q3, rfl, rfl, rfl, h3, r3⟩ := trodAll_cons r2
  obtain ⟨rfl, rfl, rfl⟩ := trodAll_nil r3
  obtain rfl : args = #[v0, v1, v2, v3] := by cases args; simp_all
  obtain ⟨rfl, rfl⟩ := trodVars_none hV
  have k0 := h0
  have lt0 : ∀ x ∈ p0, x.block < W.heap.size := by obtain ⟨m, hm⟩ := k0; exact DataW.trod_lt m _ _ _ hm
  obtain ⟨x0, q0, rfl, O0, A0⟩ := open_mach (hval 0 31 v0 rfl rfl) k0
  obtain ⟨a1, rfl, rfl, rfl, w1⟩ := open_int Try.underlying3 (hval 1 3 v1 rfl rfl) h1
  obtain ⟨a2p, a2b, a2l, a2a, a2s, rfl, rfl, rfl, w2p, w2b, w2l, w2a, w2s⟩ := open_key (hval 2 23 v2 rfl rfl) h2
  obtain ⟨a3, rfl, rfl, rfl⟩ := open_bool Try.underlying4 (hval 3 4 v3 rfl rfl) h3
  clear hA0 hval0
  refine (walk x0 q0 a1 a2p a2b a2l a2a a2s a3 O0 (bounds_i64 w1) ⟨bounds_i64 w2p, bounds_i64 w2b, bounds_i64 w2l, bounds_i64 w2a, bounds_i64 w2s⟩ W A0).mono fun e W' ⟨he, bel⟩ => ?_
  subst he
  exact ⟨_, rfl, _, _, _, [], _, [], hW', trodAll_mk1 (shut_bool Try.underlying4 _), (trodAll_cons_mk (Below.trod laidOut (by kernel_rfl) (of_decide_eq_true (by kernel_rfl)) k0 bel lt0) (trodAll_cons_mk (shut_int Try.underlying3 w1) (trodAll_cons_mk (shut_key w2p w2b w2l w2a w2s) (trodAll_cons_mk (shut_bool Try.underlying4 a3) trodAll_mk0)))), rfl, bel.frame _, fun h => by cases h⟩

theorem over : Rows.reachGrowsRow.holds Try.pinned (OpenSpec.ofChange Rows.reachGrowsSpec) :=
  OpenClaim.holds_of_wide 6 Try.f6 rfl rfl rfl rfl rfl rfl rfl ⟨rfl, rfl, rfl, rfl, rfl⟩ rfl rfl rfl rfl rfl (by kernel_rfl) Try.func6 (by kernel_rfl)
    (of_decide_eq_true (by kernel_rfl)) (by unfold Func.isWrapper; first | (rw [if_pos (by decide +kernel)]; kernel_rfl) | (rw [if_neg (by decide +kernel)]; exact ⟨rfl, rfl⟩))
    (fun os started H enc _ => lifted os started H enc)

theorem proved : Rows.ReachGrowsSaid :=
  over
#print axioms proved
end Go.Proofs.Ytlfeglljpfihhaa.reachGrows
