/- Chapter 11, P24: a machine whose only key allows nothing comes to nothing; for every machine. -/
import Derived.Test.YtlfeglljpfihhaaRows
import Derived.Test.YtlfeglljpfihhaaKeyArg
import Derived.Test.YtlfeglljpfihhaaMachArg
import Derived.Carry
import Derived.Test.YtlfeglljpfihhaaKeyPure
import Derived.Test.YtlfeglljpfihhaaStepChk
import Derived.Test.YtlfeglljpfihhaaStepChk2
import Derived.Test.YtlfeglljpfihhaaMachMid
import Derived.Test.YtlfeglljpfihhaaEqSame
import Derived.Test.YtlfeglljpfihhaaReachPls
import Derived.Test.YtlfeglljpfihhaaReachList
import Derived.Test.YtlfeglljpfihhaaReachUse
import Derived.Test.YtlfeglljpfihhaaReachRes
import Derived.Test.YtlfeglljpfihhaaMachSet
import Derived.WalkKit
import Derived.ProofKit
import Derived.OpenShut
namespace Go.Proofs.Ytlfeglljpfihhaa.reachNone
open Go.ChangeShapes Go.WideShapes Go.ChangeAt Go.RowKit
set_option linter.unusedVariables false
set_option linter.unusedSimpArgs false

theorem own : ownKnob Try.prog.godebug = none := by kernel_rfl
theorem laidOut : laidOutB Try.prog = true := by kernel_rfl

def lit2 : MC := ⟨[nil0, nil0, nil0, nil0, nil0, nil0, nil0, nil0], ⟨3, 0, 1, 0, 0⟩, [nil0, nil0], [], []⟩
theorem lit2_e : mcE lit2 = 0 := by decide +kernel
theorem lit2_ok : McB lit2 := by
  refine ⟨rfl, z8_ok, ?_, (fun v hv => ?_), (fun v hv => by cases hv), (fun v hv => by cases hv)⟩
  · show kb 3 0 1 0 0
    unfold kb
    decide
  · simp only [lit2, List.mem_cons, List.not_mem_nil, or_false, or_self] at hv
    try (rw [hv]; exact nil0_ok)
theorem lit2_m : ∀ v ∈ lit2.m, v.i = false := fun v hv => by
  simp only [lit2, List.mem_cons, List.not_mem_nil, or_false, or_self] at hv
  try (rw [hv]; rfl)
theorem lit2_mk (W : World) : (Instr.makeSlice 27 (.int .i64 2) (.int .i64 2)).run Try.prog W = .ok (.slice (some ⟨W.heap.size, 0, none⟩) 2 2) (W.alloc (.cells #[.bool false, .int .i64 0, .int .i64 0, .int .i64 0, .int .i64 0, .int .i64 0, .int .i64 0, .bool false, .int .i64 0, .int .i64 0, .int .i64 0, .int .i64 0, .int .i64 0, .int .i64 0] 25)) := by
  kernel_rfl
theorem lit2_at (W : World) : McAt (W.alloc (.cells #[.bool false, .int .i64 0, .int .i64 0, .int .i64 0, .int .i64 0, .int .i64 0, .int .i64 0, .bool false, .int .i64 0, .int .i64 0, .int .i64 0, .int .i64 0, .int .i64 0, .int .i64 0] 25)) lit2 ⟨some ⟨W.heap.size, 0, none⟩, 2, none, 0, none, 0⟩ := by
  refine ⟨.inr ⟨_, 0, rfl, by simp, fun j u hj => ?_⟩, .inl rfl, .inl rfl, Nat.le_refl _, Nat.le_refl _, show (2 : Nat) ≤ maxLen by unfold maxLen; decide⟩
  rw [Nat.zero_add, cell_new]
  show (lit2.m.flatMap mvC).toArray[j]? = some u
  rw [List.getElem?_toArray]
  exact hj
theorem lit2_cls (W : World) (B : Nat) (hB : W.heap.size = B) : Calls Try.prog 14 #[.agg #[.bool false, .int .i64 0, .int .i64 0, .int .i64 0, .int .i64 0, .int .i64 0, .int .i64 0, .bool false, .int .i64 0, .int .i64 0, .int .i64 0, .int .i64 0, .int .i64 0, .int .i64 0, .bool false, .int .i64 0, .int .i64 0, .int .i64 0, .int .i64 0, .int .i64 0, .int .i64 0, .bool false, .int .i64 0, .int .i64 0, .int .i64 0, .int .i64 0, .int .i64 0, .int .i64 0, .bool false, .int .i64 0, .int .i64 0, .int .i64 0, .int .i64 0, .int .i64 0, .int .i64 0, .bool false, .int .i64 0, .int .i64 0, .int .i64 0, .int .i64 0, .int .i64 0, .int .i64 0, .bool false, .int .i64 0, .int .i64 0, .int .i64 0, .int .i64 0, .int .i64 0, .int .i64 0, .bool false, .int .i64 0, .int .i64 0, .int .i64 0, .int .i64 0, .int .i64 0, .int .i64 0, .int .i64 3, .int .i64 0, .int .i64 1, .int .i64 0, .int .i64 0, .slice (some ⟨B, 0, none⟩) 2 2, .slice none 0 0, .slice none 0 0], .int .i64 3, .bool true] (W.alloc (.cells #[.bool false, .int .i64 0, .int .i64 0, .int .i64 0, .int .i64 0, .int .i64 0, .int .i64 0, .bool false, .int .i64 0, .int .i64 0, .int .i64 0, .int .i64 0, .int .i64 0, .int .i64 0] 25)) fun e w' => ∃ a c, e = .returned (.tuple #[.slice a [(0 : Int)].length c, .int .i64 0]) ∧ Below W.heap.size W w' ∧ NumsAt w' a [(0 : Int)] := by
  subst hB
  have h := cls_ok lit2 ⟨some ⟨W.heap.size, 0, none⟩, 2, none, 0, none, 0⟩ 3 true _ (lit2_at W) lit2_ok lit2_e
  refine Calls.mono (h : Calls Try.prog _ _ _ _) ?_
  rintro e w' ⟨a, c, b, he, hb, hn, hj⟩
  have hp : ∀ j, b j = true ↔ covB 0 1 j = true := fun j => by
    rw [hj, bare_plc z8_no lit2_m rfl]
    simp [lit2, srvB, in_refl]
  have e1 : filtN b 0 lit2.m.length = [(0 : Int)] := by
    have b0 : b ((0 : Int) + ((0 : Nat) : Int)) = true := (hp _).2 (by decide)
    have b1 : b ((0 : Int) + ((1 : Nat) : Int)) = false := by
      cases h0 : b ((0 : Int) + ((1 : Nat) : Int))
      · rfl
      · exact absurd ((hp _).1 h0) (by decide)
    show filtN b 0 2 = [(0 : Int)]
    unfold filtN
    rw [if_neg (by rw [b1]; decide)]
    unfold filtN
    rw [if_pos b0]
    rfl
  rw [e1] at he hn
  exact ⟨a, c, he, ((Below.refl _ _).alloc (Nat.le_refl _) _).trans (hb.mono (by simp)), hn⟩
theorem list8r {r : List MV} (h8 : r.length = 8) : ∃ v0 v1 v2 v3 v4 v5 v6 v7, r = [v0, v1, v2, v3, v4, v5, v6, v7] := by
  obtain ⟨c0, c1, c2, c3, c4, c5, c6, c7, h⟩ := list8 h8
  exact ⟨c0, c1, c2, c3, c4, c5, c6, c7, h⟩
/-- So many registers are nought. -/
def clrI : Nat → List MV → List MV
  | 0, r => r
  | n + 1, r => (clrI n r).set n nil0
theorem clrI_len : ∀ (n : Nat) (r : List MV), (clrI n r).length = r.length
  | 0, _ => rfl
  | n + 1, r => by show ((clrI n r).set n nil0).length = _; rw [List.length_set, clrI_len n r]
theorem clrI_all {r : List MV} (h8 : r.length = 8) : clrI 8 r = [nil0, nil0, nil0, nil0, nil0, nil0, nil0, nil0] := by
  obtain ⟨v0, v1, v2, v3, v4, v5, v6, v7, rfl⟩ := list8r h8
  rfl
theorem none_has {x : MC} {d : Bool} (hr : ∀ v ∈ x.r, v.i = false) (hk : inB 9 x.k.p = false) (hs : x.s = []) (k : K5) : Has x d k ↔ k = x.k := by
  constructor
  · intro h
    induction h with
    | rt hk =>
      cases hk with
      | reg v hv hi => rw [hr v hv] at hi; cases hi
      | code => rfl
      | fc hd f hf => rw [hs] at hf; cases hf
      | fd hd f hf hi => rw [hs] at hf; cases hf
    | cell r j v _ _ hp _ _ _ ih => rw [ih, hk] at hp; cases hp
  · rintro rfl
    exact .rt .code
set_option maxHeartbeats 4000000 in
set_option maxRecDepth 1000000 in
theorem walk (x0 : MC) (q0 : MA) (a1 : Int) (O0 : McOk x0 q0) (b1 : -9223372036854775808 ≤ a1 ∧ a1 ≤ 9223372036854775807) (w : World) (A0 : McAt w x0 q0) :
    Calls Try.prog 9 #[.agg (mcC x0 q0).toArray, .int .i64 a1] w fun e w' => e = .returned (.bool true) ∧ Below w.heap.size w w' := by
  have bM := Box.new w (mcC x0 q0).toArray 31
  have hB : Below w.heap.size w (w.alloc (.cells (mcC x0 q0).toArray 31)) := (Below.refl _ _).alloc (Nat.le_refl _) _
  have h8 := O0.r8
  have HA : Hid (∀ w', Below w.heap.size w w' → McAt w' x0 q0) := fun w' hb => A0.below hb
  have hmk := lit2_mk
  have cL := lit2_cls
  have cE := fun a b c d W (h1 : NumsAt W a [0]) (h2 : NumsAt W b [0]) => eq_nums a b c d [0] W h1 h2 (by unfold maxLen; decide)
  have hW0 : ∀ W : World, NumsAt (W.alloc (.cells #[.int .i64 0] 3)) (some ⟨W.heap.size, 0, none⟩) [0] := fun W => .inr ⟨_, 0, rfl, by simp, fun j u hj => by rw [Nat.zero_add, cell_new]; show ([0].map nmC).toArray[j]? = some u; rw [List.getElem?_toArray]; exact hj⟩
  clear A0
  go_enter Try.func9, Try.ntmps9
  go_upto_region 2 with (go_at_call 14; refine (cL (w.alloc (.cells (mcC x0 q0).toArray 31)) (w.heap.size + 1) (by simp)).mono ?_; rintro e w1 ⟨a, c, rfl, hb1, hn1⟩; replace bM := bM.below hb1; replace hB := Below.step0 hB hb1; clear cL hb1)
  have hB2 : ∀ x, Below w1.heap.size w1 (w1.alloc x) := fun x => (Below.refl _ _).alloc (Nat.le_refl _) _
  have hn2 := hn1.below (hB2 (.cells #[.int .i64 0] 3))
  replace bM := bM.below (hB2 (.cells #[.int .i64 0] 3))
  replace hB := Below.step0 hB (hB2 (.cells #[.int .i64 0] 3))
  have cE1 := cE a (some ⟨w1.heap.size, 0, none⟩) c 1 _ hn2 (hW0 w1)
  clear hmk hn1 cE hW0 hB2 hn2
  rw [show [(0 : Int)].length = 1 from rfl] at cE1
  go_upto_region 4 with (go_at_call 15; refine cE1.mono ?_; rintro e wz ⟨rfl, hwz⟩; obtain rfl := hwz.symm; clear cE1 hwz)
  obtain ⟨W1, hW1⟩ : ∃ W1, W1 = w1.alloc (.cells #[.int .i64 0] 3) := ⟨_, rfl⟩
  rw [← hW1] at bM hB ⊢
  clear hW1
  obtain ⟨t0, t1, t2, t3, t4, -, t6, -⟩ := mc_tail bM h8
  have fM := bM.free
  obtain ⟨Y, hY⟩ : ∃ Y : Nat → MC, Y = fun n => { x0 with k := key0, s := [], r := clrI n x0.r } := ⟨_, rfl⟩
  obtain ⟨Q, hQ⟩ : ∃ Q : MA, Q = { q0 with s := none, cs := 0 } := ⟨_, rfl⟩
  obtain ⟨W2, hW2⟩ : ∃ W2, W2 = ((((((W1.setCell ⟨w.heap.size, 56, none⟩ (.int .i64 0)).setCell ⟨w.heap.size, 57, none⟩ (.int .i64 0)).setCell ⟨w.heap.size, 58, none⟩ (.int .i64 0)).setCell ⟨w.heap.size, 59, none⟩ (.int .i64 0)).setCell ⟨w.heap.size, 60, none⟩ (.int .i64 0)).setCell ⟨w.heap.size, 62, none⟩ (.slice none 0 0)) := ⟨_, rfl⟩
  have bM2 : Box W2 w.heap.size (mcC (Y 0) Q).toArray := by rw [hW2, hY, hQ]; exact box_setS (box_setK bM h8 key0) h8 [] none 0
  have hB2 : Below w.heap.size w W2 := by rw [hW2]; exact ((((((hB.setCell (p := ⟨w.heap.size, _, none⟩) (Nat.le_refl _) _).setCell (p := ⟨w.heap.size, _, none⟩) (Nat.le_refl _) _).setCell (p := ⟨w.heap.size, _, none⟩) (Nat.le_refl _) _).setCell (p := ⟨w.heap.size, _, none⟩) (Nat.le_refl _) _).setCell (p := ⟨w.heap.size, _, none⟩) (Nat.le_refl _) _).setCell (p := ⟨w.heap.size, _, none⟩) (Nat.le_refl _) _)
  have hY8 : ∀ n, (Y n).r.length = 8 := fun n => by rw [hY]; exact (clrI_len n _).trans h8
  have hYs : ∀ n, putR (Y n) n nil0 = Y (n + 1) := fun n => by rw [hY]; rfl
  have HY : Hid (Y 8 = { x0 with k := key0, s := [], r := [nil0, nil0, nil0, nil0, nil0, nil0, nil0, nil0] }) := by rw [hY]; show (⟨clrI 8 x0.r, key0, x0.m, [], x0.o⟩ : MC) = _; rw [clrI_all h8]
  have HQ : Hid (Q = { q0 with s := none, cs := 0 }) := hQ
  clear bM hB hY hQ
  go_upto_region 6 with fail
  rw [← hW2]
  clear hW2 t0 t1 t2 t3 t4 t6 fM
  go_loopw [30] (fun i wr => ∃ k : Nat, k ≤ 8 ∧ i = .int .i64 (k : Int) ∧ Below w.heap.size w wr ∧ Box wr w.heap.size (mcC (Y k) Q).toArray) (fun i _ => 8 - (intOf i).toNat)
  case atStart => exact ⟨0, Nat.zero_le _, rfl, hB2, bM2⟩
  case round =>
    clear hB2 bM2
    obtain ⟨k, hk, rfl, hB, bM⟩ := hrel
    by_cases hlt : k < 8
    · have gk : (k : Int) < 8 := by omega
      have gk0 : (0 : Int) ≤ (k : Int) := by omega
      have hw1 : IntKind.i64.wrap ((k : Int) + 1) = (k : Int) + 1 := by rw [IntKind.wrap_i64]; omega
      go_wp2_with ((with_reducible refine at_store ?_); refine pl_store_reg rfl (.tmp 36) (.tmp 34) rfl nil0 (S := w.heap.size) (k := k) (x := Y k) (q := Q) (by rfl) (by rfl) bM (hY8 k) hlt ?_; intro W3 hOf bM3)
      go_roundw
      case rel => exact ⟨k + 1, by omega, rfl, hB.trans (hOf.to (Nat.le_refl _) hB.size), by rw [← hYs]; exact bM3⟩
      case measure => simp [intOf]; omega
    · obtain rfl : k = 8 := by omega
      obtain ⟨Z, hZ⟩ : ∃ Z, Y 8 = Z := ⟨_, rfl⟩
      have z8 : Z.r.length = 8 := by rw [← hZ]; exact hY8 8
      rw [hZ] at bM
      have hi : (Try.prog.info? 31).map (·.size) = some (mcC Z Q).length := mach_info z8
      have hZ' : Z = { x0 with k := key0, s := [], r := [nil0, nil0, nil0, nil0, nil0, nil0, nil0, nil0] } := by rw [← hZ]; exact HY.out
      have hZr : ∀ v ∈ Z.r, v.i = false := by rw [hZ']; exact z8_no
      have hZk : Z.k = key0 := by rw [hZ']
      have hZs : Z.s = [] := by rw [hZ']
      have HZ : Hid (∀ W, Below w.heap.size w W → McAt W Z Q) := fun W hb => by
        have A := HA.out W hb
        rw [hZ', HQ.out]
        exact ⟨A.m, .inl rfl, A.o, A.c⟩
      have OZ : McB Z := by
        rw [hZ']
        refine ⟨rfl, z8_ok, ?_, O0.m, (fun f hf => by cases hf), O0.o⟩
        show kb 0 0 0 0 0
        unfold kb
        decide
      clear hY8 hYs HY HQ hZ hZ'
      by_cases h : mcE Z = 0
      · have cA := fun W hA => cls_ok Z Q a1 true W hA OZ h
        have cK := fun W (hA : McAt W Z Q) => reach_keys Z Q true W hA OZ hA.c.2.1 hA.c.2.2 h
        have cC := fun W hA => step_check Z Q W hA OZ
        rw [h] at cC
        have cQ := fun a b c d W h1 h2 => eq_keys a b c d [key0] W h1 h2 (by unfold maxLen; decide)
        have hW0 : ∀ W : World, RowAt (W.alloc (.cells #[.int .i64 0, .int .i64 0, .int .i64 0, .int .i64 0, .int .i64 0] 23)) (some ⟨W.heap.size, 0, none⟩) ([key0].flatMap k5C) := fun W => .inr ⟨_, 0, rfl, by simp, fun j u hj => by rw [Nat.zero_add, cell_new]; show ([key0].flatMap k5C).toArray[j]? = some u; rw [List.getElem?_toArray]; exact hj⟩
        have hF : ∀ b : Int → Bool, (∀ j, b j = true ↔ Plc1 Z true a1 j) → filtN b 0 Z.m.length = [] := fun b hb => by
          rw [List.eq_nil_iff_forall_not_mem]
          intro n hn
          obtain ⟨k, h1, _, h3⟩ := (hb n).1 ((filt_mem b 0 n _).1 hn).1
          rw [none_has hZr (by rw [hZk]; decide) hZs, hZk] at h1
          subst h1
          exact absurd h3 (by unfold covB; simp [key0])
        have hG : ∀ ks : List K5, (∀ k, k ∈ ks ↔ Has Z true k) → ks.Pairwise (fun a b => cmp5 a b < 0) → ks = [key0] := fun ks hk hp => by
          have hm : ∀ k, k ∈ ks ↔ k = key0 := fun k => by rw [hk, none_has hZr (by rw [hZk]; decide) hZs, hZk]
          cases ks with
          | nil => exact absurd ((hm key0).2 rfl) (by simp)
          | cons x r =>
            have hx := (hm x).1 (by simp)
            cases r with
            | nil => rw [hx]
            | cons y r =>
              have hy := (hm y).1 (by simp)
              have := (List.pairwise_cons.1 hp).1 y (by simp)
              rw [hx, hy] at this
              exact absurd this (by rw [cmp5_lt]; simp)
        have hlm : Z.m.length ≤ 400 := (mem_small (mc_zero.1 h).2.2.1).1
        clear h hZr hZk hZs
        generalize mcC Z Q = L at *
        go_upto_region 14 with (first | ((with_reducible refine at_load ?_); refine pl_load_box (by rfl) 31 (.tmp 2) rfl w.heap.size (by rfl) L bM _ Try.underlying31 rfl hi ?_) | (go_at_call 14; refine (cA _ (HZ.out _ hB)).mono ?_; rintro e w2 ⟨aa, ca, ba, rfl, hb2, na, ja⟩; rw [hF ba ja]; replace bM := bM.below hb2; replace hB := Below.step0 hB hb2; clear cA hb2 na ja) | (go_at_call 10; refine (cK _ (HZ.out _ hB)).mono ?_; rintro e w3 ⟨ak, ck, ks, rfl, hb3, hrw, hln, hks, hpw⟩; rw [hG ks hks hpw] at hrw ⊢; replace bM := bM.below hb3; replace hB := Below.step0 hB hb3; have HR : Hid (RowAt w3 ak ([key0].flatMap k5C)) := hrw; clear cK hb3 hrw hln hks hpw) | (go_at_call 22; refine (cC _ (HZ.out _ hB)).mono ?_; rintro e w4 ⟨rfl, hb4⟩; replace hB := Below.step0 hB hb4; replace HR : Hid (RowAt w4 ak ([key0].flatMap k5C)) := HR.out.below hb4; clear cC hb4))
        have hB2 : ∀ x, Below w4.heap.size w4 (w4.alloc x) := fun x => (Below.refl _ _).alloc (Nat.le_refl _) _
        have cQ1 := cQ ak (some ⟨w4.heap.size, 0, none⟩) ck 1 _ (HR.out.below (hB2 (.cells #[.int .i64 0, .int .i64 0, .int .i64 0, .int .i64 0, .int .i64 0] 23))) (hW0 w4)
        have hB5 := Below.step0 hB (hB2 (.cells #[.int .i64 0, .int .i64 0, .int .i64 0, .int .i64 0, .int .i64 0] 23))
        rw [show [key0].length = 1 from rfl] at cQ1
        clear cQ hW0 hF hG hB bM HR hB2
        go_wp2_with (go_at_call 12; refine cQ1.mono ?_; rintro e w6 ⟨rfl, hb6⟩; replace hB5 := Below.step0 hB5 hb6)
        go_ret
        exact ⟨rfl, hB5⟩
      · have cA := fun W hA => reach_cls_no Z Q a1 true W hA OZ h
        have cK := fun W hA => reach_keys_no Z Q true W hA OZ h
        have cC := fun W hA => step_check Z Q W hA OZ
        have gE : (mcE Z != 0) = true := by simpa using h
        clear h hZr hZk hZs
        generalize mcE Z = E at *
        generalize mcC Z Q = L at *
        go_wp2_with (first | ((with_reducible refine at_load ?_); refine pl_load_box (by rfl) 31 (.tmp 2) rfl w.heap.size (by rfl) L bM _ Try.underlying31 rfl hi ?_) | (go_at_call 14; refine (cA _ (HZ.out _ hB)).mono ?_; rintro e w2 ⟨rfl, hb2⟩; replace bM := bM.below hb2; replace hB := Below.step0 hB hb2; clear cA hb2) | (go_at_call 10; refine (cK _ (HZ.out _ hB)).mono ?_; rintro e w3 ⟨rfl, hb3⟩; replace bM := bM.below hb3; replace hB := Below.step0 hB hb3; clear cK hb3) | (go_at_call 22; refine (cC _ (HZ.out _ hB)).mono ?_; rintro e w4 ⟨rfl, hb4⟩; replace hB := Below.step0 hB hb4; clear cC hb4))
        go_ret
        exact ⟨rfl, hB⟩

set_option maxRecDepth 100000 in
theorem lifted (os : Os) (started : os.Started) (H : Type) (enc : TypeId × Value → H) :
    ReturnsInHanded {} Try.checked os 9 .any (Rows.reachNoneSpec.pre6 enc Try.prog Try.f9 Rows.reachNoneRow.domain false) (Rows.reachNoneSpec.post enc Try.prog Try.f9 false true false false) := by
  refine returnsInHanded_of_change (C := Try.checked) own started (by kernel_rfl) Try.func9
    (ChangeSpec.witness6 (enc := enc) (C := Try.checked) false ⟨#[], #[.agg #[.bool false, .int .i64 0, .int .i64 0, .int .i64 0, .int .i64 0, .int .i64 0, .int .i64 0, .bool false, .int .i64 0, .int .i64 0, .int .i64 0, .int .i64 0, .int .i64 0, .int .i64 0, .bool false, .int .i64 0, .int .i64 0, .int .i64 0, .int .i64 0, .int .i64 0, .int .i64 0, .bool false, .int .i64 0, .int .i64 0, .int .i64 0, .int .i64 0, .int .i64 0, .int .i64 0, .bool false, .int .i64 0, .int .i64 0, .int .i64 0, .int .i64 0, .int .i64 0, .int .i64 0, .bool false, .int .i64 0, .int .i64 0, .int .i64 0, .int .i64 0, .int .i64 0, .int .i64 0, .bool false, .int .i64 0, .int .i64 0, .int .i64 0, .int .i64 0, .int .i64 0, .int .i64 0, .bool false, .int .i64 0, .int .i64 0, .int .i64 0, .int .i64 0, .int .i64 0, .int .i64 0, .int .i64 0, .int .i64 0, .int .i64 0, .int .i64 0, .int .i64 0, .slice none 0 0, .slice none 0 0, .slice none 0 0], .int .i64 0], []⟩ 8 (by kernel_rfl) (by kernel_rfl) (by kernel_rfl) (by kernel_rfl)) ?_
  intro W base args ds gs before hval0 hW hcnd _
  have hval : ∀ (j : Nat) t v, Try.f9.params[j]? = some t → args[j]? = some v → Value.okWide Try.prog W .any base t v := hval0
  have hW' := hW
  obtain ⟨p, q, hA0, hV, rfl, hfz, hnd⟩ := hW
  have hA : DataW.TrodAll enc Try.prog W 0 (fun _ => true) true Try.f9.params.toList args.toList ds p := hA0
  rw [Try.params9] at hA hval
  obtain ⟨v0, vs0, d0, ds0, p0, q0, hargs, rfl, rfl, h0, r0⟩ := trodAll_cons hA
  obtain ⟨v1, vs1, d1, ds1, p1, q1, rfl, rfl, rfl, h1, r1⟩ := trodAll_cons r0
  obtain ⟨rfl, rfl, rfl⟩ := trodAll_nil r1
  obtain rfl : args = #[v0, v1] := by cases args; simp_all
  obtain ⟨rfl, rfl⟩ := trodVars_none hV
  have k0 := h0
  have lt0 : ∀ x ∈ p0, x.block < W.heap.size := by obtain ⟨m, hm⟩ := k0; exact DataW.trod_lt m _ _ _ hm
  obtain ⟨x0, q0, rfl, O0, A0⟩ := open_mach (hval 0 31 v0 rfl rfl) k0
  obtain ⟨a1, rfl, rfl, rfl, w1⟩ := open_int Try.underlying3 (hval 1 3 v1 rfl rfl) h1
  clear hA0 hval0
  refine (walk x0 q0 a1 O0 (bounds_i64 w1) W A0).mono fun e W' ⟨he, bel⟩ => ?_
  subst he
  exact ⟨_, rfl, _, _, _, [], _, [], hW', trodAll_mk1 (shut_bool Try.underlying4 _), (trodAll_cons_mk (Below.trod laidOut (by kernel_rfl) (of_decide_eq_true (by kernel_rfl)) k0 bel lt0) (trodAll_cons_mk (shut_int Try.underlying3 w1) trodAll_mk0)), rfl, bel.frame _, fun h => by cases h⟩

theorem over : Rows.reachNoneRow.holds Try.pinned (OpenSpec.ofChange Rows.reachNoneSpec) :=
  OpenClaim.holds_of_wide 9 Try.f9 rfl rfl rfl rfl rfl rfl rfl ⟨rfl, rfl, rfl, rfl, rfl⟩ rfl rfl rfl rfl rfl (by kernel_rfl) Try.func9 (by kernel_rfl)
    (of_decide_eq_true (by kernel_rfl)) (by unfold Func.isWrapper; first | (rw [if_pos (by decide +kernel)]; kernel_rfl) | (rw [if_neg (by decide +kernel)]; exact ⟨rfl, rfl⟩))
    (fun os started H enc _ => lifted os started H enc)

theorem proved : Rows.ReachNoneSaid :=
  over
#print axioms proved
end Go.Proofs.Ytlfeglljpfihhaa.reachNone
