/- Chapter 11, P24: what is come to without opening anything is come to; to allow more is to be allowed it at fewer places; for every machine. -/
import Derived.Test.YtlfeglljpfihhaaRows
import Derived.Test.YtlfeglljpfihhaaKeyArg
import Derived.Test.YtlfeglljpfihhaaMachArg
import Derived.Carry
import Derived.Test.YtlfeglljpfihhaaKeyPure
import Derived.Test.YtlfeglljpfihhaaStepChk
import Derived.Test.YtlfeglljpfihhaaStepChk2
import Derived.Test.YtlfeglljpfihhaaMachMid
import Derived.Test.YtlfeglljpfihhaaEqSame
import Derived.Test.YtlfeglljpfihhaaReachPls
import Derived.Test.YtlfeglljpfihhaaReachList
import Derived.Test.YtlfeglljpfihhaaReachUse
import Derived.Test.YtlfeglljpfihhaaReachRes
import Derived.WalkKit
import Derived.ProofKit
import Derived.OpenShut
namespace Go.Proofs.Ytlfeglljpfihhaa.reachDeep
open Go.ChangeShapes Go.WideShapes Go.ChangeAt Go.RowKit
set_option linter.unusedVariables false
set_option linter.unusedSimpArgs false

theorem own : ownKnob Try.prog.godebug = none := by kernel_rfl
theorem laidOut : laidOutB Try.prog = true := by kernel_rfl

def lit3 : MC := ⟨[nil0, nil0, nil0, nil0, nil0, nil0, nil0, nil0], ⟨1, 1, 9, 0, 0⟩, [nil0, nil0, nil0], [], []⟩
theorem lit3_e : mcE lit3 = 0 := by decide +kernel
theorem lit3_ok : McB lit3 := by
  refine ⟨rfl, z8_ok, ?_, (fun v hv => ?_), (fun v hv => by cases hv), (fun v hv => by cases hv)⟩
  · show kb 1 1 9 0 0
    unfold kb
    decide
  · simp only [lit3, List.mem_cons, List.not_mem_nil, or_false, or_self] at hv
    try (rw [hv]; exact nil0_ok)
theorem lit3_m : ∀ v ∈ lit3.m, v.i = false := fun v hv => by
  simp only [lit3, List.mem_cons, List.not_mem_nil, or_false, or_self] at hv
  try (rw [hv]; rfl)
theorem lit3_mk (W : World) : (Instr.makeSlice 27 (.int .i64 3) (.int .i64 3)).run Try.prog W = .ok (.slice (some ⟨W.heap.size, 0, none⟩) 3 3) (W.alloc (.cells #[.bool false, .int .i64 0, .int .i64 0, .int .i64 0, .int .i64 0, .int .i64 0, .int .i64 0, .bool false, .int .i64 0, .int .i64 0, .int .i64 0, .int .i64 0, .int .i64 0, .int .i64 0, .bool false, .int .i64 0, .int .i64 0, .int .i64 0, .int .i64 0, .int .i64 0, .int .i64 0] 25)) := by
  kernel_rfl
theorem lit3_at (W : World) : McAt (W.alloc (.cells #[.bool false, .int .i64 0, .int .i64 0, .int .i64 0, .int .i64 0, .int .i64 0, .int .i64 0, .bool false, .int .i64 0, .int .i64 0, .int .i64 0, .int .i64 0, .int .i64 0, .int .i64 0, .bool false, .int .i64 0, .int .i64 0, .int .i64 0, .int .i64 0, .int .i64 0, .int .i64 0] 25)) lit3 ⟨some ⟨W.heap.size, 0, none⟩, 3, none, 0, none, 0⟩ := by
  refine ⟨.inr ⟨_, 0, rfl, by simp, fun j u hj => ?_⟩, .inl rfl, .inl rfl, Nat.le_refl _, Nat.le_refl _, show (3 : Nat) ≤ maxLen by unfold maxLen; decide⟩
  rw [Nat.zero_add, cell_new]
  show (lit3.m.flatMap mvC).toArray[j]? = some u
  rw [List.getElem?_toArray]
  exact hj
theorem lit3_cls (W : World) (B : Nat) (hB : W.heap.size = B) : Calls Try.prog 14 #[.agg #[.bool false, .int .i64 0, .int .i64 0, .int .i64 0, .int .i64 0, .int .i64 0, .int .i64 0, .bool false, .int .i64 0, .int .i64 0, .int .i64 0, .int .i64 0, .int .i64 0, .int .i64 0, .bool false, .int .i64 0, .int .i64 0, .int .i64 0, .int .i64 0, .int .i64 0, .int .i64 0, .bool false, .int .i64 0, .int .i64 0, .int .i64 0, .int .i64 0, .int .i64 0, .int .i64 0, .bool false, .int .i64 0, .int .i64 0, .int .i64 0, .int .i64 0, .int .i64 0, .int .i64 0, .bool false, .int .i64 0, .int .i64 0, .int .i64 0, .int .i64 0, .int .i64 0, .int .i64 0, .bool false, .int .i64 0, .int .i64 0, .int .i64 0, .int .i64 0, .int .i64 0, .int .i64 0, .bool false, .int .i64 0, .int .i64 0, .int .i64 0, .int .i64 0, .int .i64 0, .int .i64 0, .int .i64 1, .int .i64 1, .int .i64 9, .int .i64 0, .int .i64 0, .slice (some ⟨B, 0, none⟩) 3 3, .slice none 0 0, .slice none 0 0], .int .i64 1, .bool false] (W.alloc (.cells #[.bool false, .int .i64 0, .int .i64 0, .int .i64 0, .int .i64 0, .int .i64 0, .int .i64 0, .bool false, .int .i64 0, .int .i64 0, .int .i64 0, .int .i64 0, .int .i64 0, .int .i64 0, .bool false, .int .i64 0, .int .i64 0, .int .i64 0, .int .i64 0, .int .i64 0, .int .i64 0] 25)) fun e w' => ∃ a c, e = .returned (.tuple #[.slice a [(1 : Int), 2].length c, .int .i64 0]) ∧ Below W.heap.size W w' ∧ NumsAt w' a [1, 2] := by
  subst hB
  have h := cls_ok lit3 ⟨some ⟨W.heap.size, 0, none⟩, 3, none, 0, none, 0⟩ 1 false _ (lit3_at W) lit3_ok lit3_e
  refine Calls.mono (h : Calls Try.prog _ _ _ _) ?_
  rintro e w' ⟨a, c, b, he, hb, hn, hj⟩
  have hp : ∀ j, b j = true ↔ covB 1 9 j = true := fun j => by
    rw [hj, bare_plc z8_no lit3_m rfl]
    simp [lit3, srvB, in_refl]
  have e1 : filtN b 0 lit3.m.length = [1, 2] := by
    have b0 : b ((0 : Int) + ((0 : Nat) : Int)) = false := by
      cases h0 : b ((0 : Int) + ((0 : Nat) : Int))
      · rfl
      · exact absurd ((hp _).1 h0) (by decide)
    have b1 : b ((0 : Int) + ((1 : Nat) : Int)) = true := (hp _).2 (by decide)
    have b2 : b ((0 : Int) + ((2 : Nat) : Int)) = true := (hp _).2 (by decide)
    show filtN b 0 3 = [1, 2]
    unfold filtN
    rw [if_pos b2]
    unfold filtN
    rw [if_pos b1]
    unfold filtN
    rw [b0]
    rfl
  rw [e1] at he hn
  exact ⟨a, c, he, ((Below.refl _ _).alloc (Nat.le_refl _) _).trans (hb.mono (by simp)), hn⟩
set_option maxHeartbeats 4000000 in
set_option maxRecDepth 1000000 in
theorem walk (x0 : MC) (q0 : MA) (a1 : Int) (a2 : Int) (O0 : McOk x0 q0) (b1 : -9223372036854775808 ≤ a1 ∧ a1 ≤ 9223372036854775807) (b2 : -9223372036854775808 ≤ a2 ∧ a2 ≤ 9223372036854775807) (w : World) (A0 : McAt w x0 q0) :
    Calls Try.prog 7 #[.agg (mcC x0 q0).toArray, .int .i64 a1, .int .i64 a2] w fun e w' => e = .returned (.bool true) ∧ Below w.heap.size w w' := by
  have bM := Box.new w (mcC x0 q0).toArray 31
  have hB : Below w.heap.size w (w.alloc (.cells (mcC x0 q0).toArray 31)) := (Below.refl _ _).alloc (Nat.le_refl _) _
  have hi0 : (Try.prog.info? 31).map (·.size) = some (mcC x0 q0).length := mach_info O0.r8
  have HA : Hid (∀ w', Below w.heap.size w w' → McAt w' x0 q0) := fun w' hb => A0.below hb
  have hmk := lit3_mk
  have cL := lit3_cls
  have cE := fun a b c d W (h1 : NumsAt W a [1, 2]) (h2 : NumsAt W b [1, 2]) => eq_nums a b c d [1, 2] W h1 h2 (by unfold maxLen; decide)
  have hW0 : ∀ W : World, NumsAt (W.alloc (.cells #[.int .i64 1, .int .i64 2] 3)) (some ⟨W.heap.size, 0, none⟩) [1, 2] := fun W => .inr ⟨_, 0, rfl, by simp, fun j u hj => by rw [Nat.zero_add, cell_new]; show ([1, 2].map nmC).toArray[j]? = some u; rw [List.getElem?_toArray]; exact hj⟩
  by_cases h : mcE x0 = 0
  · have hlm := (mem_small (mc_zero.1 h).2.2.1).1
    have cA := fun W hA => cls_ok x0 q0 a1 false W hA O0.toMcB h
    have cB := fun W hA => cls_ok x0 q0 a1 true W hA O0.toMcB h
    have cC := fun W hA => cls_ok x0 q0 (bits .or .i64 a1 a2) true W hA O0.toMcB h
    have HM : Hid (x0.m.length ≤ 400) := hlm
    clear A0 h hlm
    generalize x0.m.length = n at *
    generalize mcC x0 q0 = L at *
    go_enter Try.func7, Try.ntmps7
    go_upto_region 2 with (go_at_call 14; refine (cL (w.alloc (.cells L.toArray 31)) (w.heap.size + 1) (by simp)).mono ?_; rintro e w1 ⟨a, c, rfl, hb1, hn1⟩; replace bM := bM.below hb1; replace hB := Below.step0 hB hb1; clear cL hb1)
    have hB2 : ∀ x, Below w1.heap.size w1 (w1.alloc x) := fun x => (Below.refl _ _).alloc (Nat.le_refl _) _
    have hn2 := hn1.below (hB2 (.cells #[.int .i64 1, .int .i64 2] 3))
    replace bM := bM.below (hB2 (.cells #[.int .i64 1, .int .i64 2] 3))
    replace hB := Below.step0 hB (hB2 (.cells #[.int .i64 1, .int .i64 2] 3))
    have cE1 := cE a (some ⟨w1.heap.size, 0, none⟩) c 2 _ hn2 (hW0 w1)
    clear hmk hn1 cE hW0 hB2 hn2
    rw [show [(1 : Int), 2].length = 2 from rfl] at cE1
    go_upto_region 9 with (first | ((with_reducible refine at_load ?_); refine pl_load_box (by rfl) 31 (.tmp 3) rfl w.heap.size (by rfl) L bM _ Try.underlying31 rfl hi0 ?_) | (go_at_call 15; refine cE1.mono ?_; rintro e wz ⟨rfl, hwz⟩; obtain rfl := hwz.symm; clear cE1 hwz) | (go_at_call 14; refine (cA _ (HA.out _ hB)).mono ?_; rintro e w2 ⟨aa, ca, ba, rfl, hb2, na, ja⟩; replace bM := bM.below hb2; replace hB := Below.step0 hB hb2; have NA : Hid (NumsAt w2 aa (filtN ba 0 n)) := na; have JA : Hid (∀ j, ba j = true ↔ Plc1 x0 false a1 j) := ja; clear cA hb2 na ja) | (go_at_call 14; refine (cB _ (HA.out _ hB)).mono ?_; rintro e w3 ⟨ab, cb, bb, rfl, hb3, nb, jb⟩; replace bM := bM.below hb3; replace hB := Below.step0 hB hb3; replace NA : Hid (NumsAt w3 aa (filtN ba 0 n)) := NA.out.below hb3; have NB : Hid (NumsAt w3 ab (filtN bb 0 n)) := nb; have JB : Hid (∀ j, bb j = true ↔ Plc1 x0 true a1 j) := jb; clear cB hb3 nb jb) | (go_at_call 14; refine (cC _ (HA.out _ hB)).mono ?_; rintro e w4 ⟨ac, cc, bc, rfl, hb4, nc, jc⟩; replace bM := bM.below hb4; replace hB := Below.step0 hB hb4; replace NA : Hid (NumsAt w4 aa (filtN ba 0 n)) := NA.out.below hb4; replace NB : Hid (NumsAt w4 ab (filtN bb 0 n)) := NB.out.below hb4; have NC : Hid (NumsAt w4 ac (filtN bc 0 n)) := nc; have JC : Hid (∀ j, bc j = true ↔ Plc1 x0 true (bits .or .i64 a1 a2) j) := jc; clear cC hb4 nc jc))
    have r1 := filt_sub (f := 0) (m := n) (b := ba) (c := bb) (fun j h => (JB.out j).2 (plc_deep ((JA.out j).1 h)))
    have r2 := filt_sub (f := 0) (m := n) (b := bc) (c := bb) (fun j h => (JB.out j).2 (plc_less (in_or_l a1 a2) ((JC.out j).1 h)))
    have hn9 : (0 : Int) ≤ 0 ∧ (0 : Int) + (n : Int) ≤ 1000 := by have := HM.out; omega
    have la := filt_len ba 0 n
    have lb := filt_len bb 0 n
    have lc := filt_len bc 0 n
    have hn4 := HM.out
    have c1 := fun W hA hB => cells_in aa ab ca cb (filtN ba 0 n) (filtN bb 0 n) W hA hB (filt_ok hn9) (filt_ok hn9) (by omega) (by omega)
    have c2 := fun W hA hB => cells_in ac ab cc cb (filtN bc 0 n) (filtN bb 0 n) W hA hB (filt_ok hn9) (filt_ok hn9) (by omega) (by omega)
    rw [r1] at c1
    rw [r2] at c2
    clear r1 r2 la lb lc hn4 hn9 bM JA JB JC
    go_wp2_with (first | (go_at_call 20; refine (c1 _ NA.out NB.out).mono ?_; rintro e w5 ⟨rfl, hb5⟩; replace hB := Below.step0 hB hb5; replace NB : Hid (NumsAt w5 ab (filtN bb 0 n)) := NB.out.below hb5; replace NC : Hid (NumsAt w5 ac (filtN bc 0 n)) := NC.out.below hb5; clear hb5 c1) | (go_at_call 20; refine (c2 _ NC.out NB.out).mono ?_; rintro e w6 ⟨rfl, hb6⟩; replace hB := Below.step0 hB hb6; clear hb6 c2))
    go_ret
    exact ⟨rfl, hB⟩
  · have cA := fun W hA => reach_cls_no x0 q0 a1 false W hA O0.toMcB h
    have cB := fun W hA => reach_cls_no x0 q0 a1 true W hA O0.toMcB h
    have cC := fun W hA => reach_cls_no x0 q0 (bits .or .i64 a1 a2) true W hA O0.toMcB h
    have gE : (mcE x0 != 0) = true := by simpa using h
    have gE2 : (mcE x0 == mcE x0) = true := by simp
    clear A0 h
    generalize mcE x0 = E at *
    generalize mcC x0 q0 = L at *
    go_enter Try.func7, Try.ntmps7
    go_upto_region 2 with (go_at_call 14; refine (cL (w.alloc (.cells L.toArray 31)) (w.heap.size + 1) (by simp)).mono ?_; rintro e w1 ⟨a, c, rfl, hb1, hn1⟩; replace bM := bM.below hb1; replace hB := Below.step0 hB hb1; clear cL hb1)
    have hB2 : ∀ x, Below w1.heap.size w1 (w1.alloc x) := fun x => (Below.refl _ _).alloc (Nat.le_refl _) _
    have hn2 := hn1.below (hB2 (.cells #[.int .i64 1, .int .i64 2] 3))
    replace bM := bM.below (hB2 (.cells #[.int .i64 1, .int .i64 2] 3))
    replace hB := Below.step0 hB (hB2 (.cells #[.int .i64 1, .int .i64 2] 3))
    have cE1 := cE a (some ⟨w1.heap.size, 0, none⟩) c 2 _ hn2 (hW0 w1)
    clear hmk hn1 cE hW0 hB2 hn2
    rw [show [(1 : Int), 2].length = 2 from rfl] at cE1
    go_wp2_with (first | ((with_reducible refine at_load ?_); refine pl_load_box (by rfl) 31 (.tmp 3) rfl w.heap.size (by rfl) L bM _ Try.underlying31 rfl hi0 ?_) | (go_at_call 15; refine cE1.mono ?_; rintro e wz ⟨rfl, hwz⟩; obtain rfl := hwz.symm; clear cE1 hwz) | (go_at_call 14; refine (cA _ (HA.out _ hB)).mono ?_; rintro e w2 ⟨rfl, hb2⟩; replace bM := bM.below hb2; replace hB := Below.step0 hB hb2; clear cA hb2) | (go_at_call 14; refine (cB _ (HA.out _ hB)).mono ?_; rintro e w3 ⟨rfl, hb3⟩; replace bM := bM.below hb3; replace hB := Below.step0 hB hb3; clear cB hb3) | (go_at_call 14; refine (cC _ (HA.out _ hB)).mono ?_; rintro e w4 ⟨rfl, hb4⟩; replace bM := bM.below hb4; replace hB := Below.step0 hB hb4; clear cC hb4))
    go_ret
    exact ⟨rfl, hB⟩

set_option maxRecDepth 100000 in
theorem lifted (os : Os) (started : os.Started) (H : Type) (enc : TypeId × Value → H) :
    ReturnsInHanded {} Try.checked os 7 .any (Rows.reachDeepSpec.pre6 enc Try.prog Try.f7 Rows.reachDeepRow.domain false) (Rows.reachDeepSpec.post enc Try.prog Try.f7 false true false false) := by
  refine returnsInHanded_of_change (C := Try.checked) own started (by kernel_rfl) Try.func7
    (ChangeSpec.witness6 (enc := enc) (C := Try.checked) false ⟨#[], #[.agg #[.bool false, .int .i64 0, .int .i64 0, .int .i64 0, .int .i64 0, .int .i64 0, .int .i64 0, .bool false, .int .i64 0, .int .i64 0, .int .i64 0, .int .i64 0, .int .i64 0, .int .i64 0, .bool false, .int .i64 0, .int .i64 0, .int .i64 0, .int .i64 0, .int .i64 0, .int .i64 0, .bool false, .int .i64 0, .int .i64 0, .int .i64 0, .int .i64 0, .int .i64 0, .int .i64 0, .bool false, .int .i64 0, .int .i64 0, .int .i64 0, .int .i64 0, .int .i64 0, .int .i64 0, .bool false, .int .i64 0, .int .i64 0, .int .i64 0, .int .i64 0, .int .i64 0, .int .i64 0, .bool false, .int .i64 0, .int .i64 0, .int .i64 0, .int .i64 0, .int .i64 0, .int .i64 0, .bool false, .int .i64 0, .int .i64 0, .int .i64 0, .int .i64 0, .int .i64 0, .int .i64 0, .int .i64 0, .int .i64 0, .int .i64 0, .int .i64 0, .int .i64 0, .slice none 0 0, .slice none 0 0, .slice none 0 0], .int .i64 0, .int .i64 0], []⟩ 8 (by kernel_rfl) (by kernel_rfl) (by kernel_rfl) (by kernel_rfl)) ?_
  intro W base args ds gs before hval0 hW hcnd _
  have hval : ∀ (j : Nat) t v, Try.f7.params[j]? = some t → args[j]? = some v → Value.okWide Try.prog W .any base t v := hval0
  have hW' := hW
  obtain ⟨p, q, hA0, hV, rfl, hfz, hnd⟩ := hW
  have hA : DataW.TrodAll enc Try.prog W 0 (fun _ => true) true Try.f7.params.toList args.toList ds p := hA0
  rw [Try.params7] at hA hval
  obtain ⟨v0, vs0, d0, ds0, p0, q0, hargs, rfl, rfl, h0, r0⟩ := trodAll_cons hA
  obtain ⟨v1, vs1, d1, ds1, p1, q1, rfl, rfl, rfl, h1, r1⟩ := trodAll_cons r0
  obtain ⟨v2, vs2, d2, ds2, p2, q2, rfl, rfl, rfl, h2, r2⟩ := trodAll_cons r1
  obtain ⟨rfl, rfl, rfl⟩ := trodAll_nil r2
  obtain rfl : args = #[v0, v1, v2] := by cases args; simp_all
  obtain ⟨rfl, rfl⟩ := trodVars_none hV
  have k0 := h0
  have lt0 : ∀ x ∈ p0, x.block < W.heap.size := by obtain ⟨m, hm⟩ := k0; exact DataW.trod_lt m _ _ _ hm
  obtain ⟨x0, q0, rfl, O0, A0⟩ := open_mach (hval 0 31 v0 rfl rfl) k0
  obtain ⟨a1, rfl, rfl, rfl, w1⟩ := open_int Try.underlying3 (hval 1 3 v1 rfl rfl) h1
  obtain ⟨a2, rfl, rfl, rfl, w2⟩ := open_int Try.underlying3 (hval 2 3 v2 rfl rfl) h2
  clear hA0 hval0
  refine (walk x0 q0 a1 a2 O0 (bounds_i64 w1) (bounds_i64 w2) W A0).mono fun e W' ⟨he, bel⟩ => ?_
  subst he
  exact ⟨_, rfl, _, _, _, [], _, [], hW', trodAll_mk1 (shut_bool Try.underlying4 _), (trodAll_cons_mk (Below.trod laidOut (by kernel_rfl) (of_decide_eq_true (by kernel_rfl)) k0 bel lt0) (trodAll_cons_mk (shut_int Try.underlying3 w1) (trodAll_cons_mk (shut_int Try.underlying3 w2) trodAll_mk0))), rfl, bel.frame _, fun h => by cases h⟩

theorem over : Rows.reachDeepRow.holds Try.pinned (OpenSpec.ofChange Rows.reachDeepSpec) :=
  OpenClaim.holds_of_wide 7 Try.f7 rfl rfl rfl rfl rfl rfl rfl ⟨rfl, rfl, rfl, rfl, rfl⟩ rfl rfl rfl rfl rfl (by kernel_rfl) Try.func7 (by kernel_rfl)
    (of_decide_eq_true (by kernel_rfl)) (by unfold Func.isWrapper; first | (rw [if_pos (by decide +kernel)]; kernel_rfl) | (rw [if_neg (by decide +kernel)]; exact ⟨rfl, rfl⟩))
    (fun os started H enc _ => lifted os started H enc)

theorem proved : Rows.ReachDeepSaid :=
  over
#print axioms proved
end Go.Proofs.Ytlfeglljpfihhaa.reachDeep
