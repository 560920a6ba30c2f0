/- Chapter 11, P24: of each key that is come to all its cells are, with all that it allows, and of each seal likewise; for every machine. -/
import Derived.Test.YtlfeglljpfihhaaRows
import Derived.Test.YtlfeglljpfihhaaKeyArg
import Derived.Test.YtlfeglljpfihhaaMachArg
import Derived.Carry
import Derived.Test.YtlfeglljpfihhaaKeyPure
import Derived.Test.YtlfeglljpfihhaaStepChk
import Derived.Test.YtlfeglljpfihhaaStepChk2
import Derived.Test.YtlfeglljpfihhaaMachMid
import Derived.Test.YtlfeglljpfihhaaEqSame
import Derived.Test.YtlfeglljpfihhaaReachPls
import Derived.Test.YtlfeglljpfihhaaReachList
import Derived.Test.YtlfeglljpfihhaaReachUse
import Derived.Test.YtlfeglljpfihhaaReachRes
import Derived.Test.YtlfeglljpfihhaaMachSet
import Derived.Test.YtlfeglljpfihhaaNum
import Derived.Laws.Small
import Derived.WalkKit
import Derived.ProofKit
import Derived.OpenShut
namespace Go.Proofs.Ytlfeglljpfihhaa.reachAll
open Go.ChangeShapes Go.WideShapes Go.ChangeAt Go.RowKit
set_option linter.unusedVariables false
set_option linter.unusedSimpArgs false

theorem own : ownKnob Try.prog.godebug = none := by kernel_rfl
theorem laidOut : laidOutB Try.prog = true := by kernel_rfl

def lit1 : MC := ⟨[nil0, nil0, nil0, nil0, nil0, nil0, nil0, nil0], ⟨32, 0, 3, 0, 0⟩, [], [], []⟩
theorem lit1_e : mcE lit1 = 0 := by decide +kernel
theorem lit1_ok : McB lit1 := by
  refine ⟨rfl, z8_ok, ?_, (fun v hv => ?_), (fun v hv => by cases hv), (fun v hv => by cases hv)⟩
  · show kb 32 0 3 0 0
    unfold kb
    decide
  · simp only [lit1, List.mem_cons, List.not_mem_nil, or_false, or_self] at hv
    try (rw [hv]; exact nil0_ok)
theorem lit1_m : ∀ v ∈ lit1.m, v.i = false := fun v hv => by
  simp only [lit1, List.mem_cons, List.not_mem_nil, or_false, or_self] at hv
  try (rw [hv]; rfl)
theorem lit1_sls (W : World) : Calls Try.prog 17 #[.agg #[.bool false, .int .i64 0, .int .i64 0, .int .i64 0, .int .i64 0, .int .i64 0, .int .i64 0, .bool false, .int .i64 0, .int .i64 0, .int .i64 0, .int .i64 0, .int .i64 0, .int .i64 0, .bool false, .int .i64 0, .int .i64 0, .int .i64 0, .int .i64 0, .int .i64 0, .int .i64 0, .bool false, .int .i64 0, .int .i64 0, .int .i64 0, .int .i64 0, .int .i64 0, .int .i64 0, .bool false, .int .i64 0, .int .i64 0, .int .i64 0, .int .i64 0, .int .i64 0, .int .i64 0, .bool false, .int .i64 0, .int .i64 0, .int .i64 0, .int .i64 0, .int .i64 0, .int .i64 0, .bool false, .int .i64 0, .int .i64 0, .int .i64 0, .int .i64 0, .int .i64 0, .int .i64 0, .bool false, .int .i64 0, .int .i64 0, .int .i64 0, .int .i64 0, .int .i64 0, .int .i64 0, .int .i64 32, .int .i64 0, .int .i64 3, .int .i64 0, .int .i64 0, .slice none 0 0, .slice none 0 0, .slice none 0 0], .int .i64 32, .bool false] W fun e w' => ∃ a c, e = .returned (.tuple #[.slice a [(1 : Int), 2].length c, .int .i64 0]) ∧ Below W.heap.size W w' ∧ NumsAt w' a [1, 2] := by
  have hA : McAt W lit1 zeroA := ⟨.inl rfl, .inl rfl, .inl rfl, Nat.le_refl _, Nat.le_refl _, show (0 : Nat) ≤ maxLen from Nat.zero_le _⟩
  have h := sls_ok lit1 zeroA 32 false W hA lit1_ok lit1_e
  refine Calls.mono (h : Calls Try.prog _ _ _ _) ?_
  rintro e w' ⟨a, c, b, he, hb, hn, hj⟩
  have hp : b = fun j => covB 0 3 j := funext fun j => by
    rw [Bool.eq_iff_iff, hj, bare_plc z8_no lit1_m rfl]
    simp [lit1, srvB, in_refl]
  have e1 : filtN b 1 63 = [1, 2] := by rw [hp]; decide +kernel
  rw [e1] at he hn
  exact ⟨a, c, he, hb, hn⟩
theorem has_ok {x : MC} {d : Bool} (h8 : x.r.length = 8) (h : mcE x = 0) {k : K5} (hk : Has x d k) : ok5 k := by
  obtain ⟨h1, h2, h3, h4, h5⟩ := mc_zero.1 h
  cases hk with
  | rt hr =>
    cases hr with
    | reg v hv hi => exact ok_val (chkL_all.1 h1 v hv) hi
    | code => exact ok_key h2
    | fc hd f hf => exact ok_key (fr_zero.1 (frs_all.1 (stk_zero.1 h4).2 f hf)).1
    | fd hd f hf hi => exact ok_val (fr_zero.1 (frs_all.1 (stk_zero.1 h4).2 f hf)).2 hi
  | cell r j v _ _ _ _ hm hi => exact ok_val (chkL_all.1 (mem_small h3).2 v (List.mem_of_getElem? hm)) hi
theorem cov_rest {k : K5} (n : Int) (h : 0 < k.l) : covB k.b k.l (k.b + n % k.l) = true := by
  have h1 := Int.emod_nonneg n (show k.l ≠ 0 by omega)
  have h2 := Int.emod_lt_of_pos n h
  unfold covB
  simp
  omega
theorem all_cell {x : MC} {k : K5} {b : Int → Bool} {f : Int} {m : Nat} {C : Int} (hj : ∀ j, b j = true ↔ Plc1 x true k.p j) (h : Has x true k) (hc : covB k.b k.l C = true) (h1 : f ≤ C) (h2 : C < f + (m : Int)) : (filtN b f m).contains C = true := by
  rw [List.contains_iff_mem, filt_mem]
  exact ⟨(hj C).2 ⟨k, h, by unfold srvB; simp [in_refl], hc⟩, h1, h2⟩
theorem plc_self {x : MC} {k : K5} {j : Int} (h : Has x true k) (hc : covB k.b k.l j = true) : Plc1 x true k.p j :=
  ⟨k, h, by unfold srvB; simp [in_refl], hc⟩
set_option maxHeartbeats 4000000 in
set_option maxRecDepth 1000000 in
theorem walk (x0 : MC) (q0 : MA) (a1 : Int) (O0 : McOk x0 q0) (b1 : -9223372036854775808 ≤ a1 ∧ a1 ≤ 9223372036854775807) (w : World) (A0 : McAt w x0 q0) :
    Calls Try.prog 8 #[.agg (mcC x0 q0).toArray, .int .i64 a1] w fun e w' => e = .returned (.bool true) ∧ Below w.heap.size w w' := by
  have bM := Box.new w (mcC x0 q0).toArray 31
  have hB : Below w.heap.size w (w.alloc (.cells (mcC x0 q0).toArray 31)) := (Below.refl _ _).alloc (Nat.le_refl _) _
  have HA : Hid (∀ w', Below w.heap.size w w' → McAt w' x0 q0) := fun w' hb => A0.below hb
  have cL := lit1_sls
  have cE := fun a b c d W (h1 : NumsAt W a [1, 2]) (h2 : NumsAt W b [1, 2]) => eq_nums a b c d [1, 2] W h1 h2 (by unfold maxLen; decide)
  have hW0 : ∀ W : World, NumsAt (W.alloc (.cells #[.int .i64 1, .int .i64 2] 3)) (some ⟨W.heap.size, 0, none⟩) [1, 2] := fun W => .inr ⟨_, 0, rfl, by simp, fun j u hj => by rw [Nat.zero_add, cell_new]; show ([1, 2].map nmC).toArray[j]? = some u; rw [List.getElem?_toArray]; exact hj⟩
  clear A0
  go_enter Try.func8, Try.ntmps8
  go_upto_region 2 with (go_at_call 17; refine (cL _).mono ?_; rintro e w1 ⟨a, c, rfl, hb1, hn1⟩; replace bM := bM.below hb1; replace hB := Below.step0 hB hb1; clear cL hb1)
  have hB2 : ∀ x, Below w1.heap.size w1 (w1.alloc x) := fun x => (Below.refl _ _).alloc (Nat.le_refl _) _
  have hn2 := hn1.below (hB2 (.cells #[.int .i64 1, .int .i64 2] 3))
  replace bM := bM.below (hB2 (.cells #[.int .i64 1, .int .i64 2] 3))
  replace hB := Below.step0 hB (hB2 (.cells #[.int .i64 1, .int .i64 2] 3))
  have cE1 := cE a (some ⟨w1.heap.size, 0, none⟩) c 2 _ hn2 (hW0 w1)
  clear hn1 cE hW0 hB2 hn2
  rw [show [(1 : Int), 2].length = 2 from rfl] at cE1
  go_upto_region 4 with (go_at_call 15; refine cE1.mono ?_; rintro e wz ⟨rfl, hwz⟩; obtain rfl := hwz.symm; clear cE1 hwz)
  have r8 := O0.r8
  have OB := O0.toMcB
  by_cases h : mcE x0 = 0
  rotate_left 1
  · have cK := fun W hA => reach_keys_no x0 q0 true W hA OB h
    have gE : (mcE x0 != 0) = true := by simpa using h
    clear h OB
    generalize mcE x0 = E at *
    go_wp2_with (first | ((with_reducible refine at_load ?_); refine pl_load_box (by rfl) 31 (.tmp 2) rfl w.heap.size (by rfl) (mcC x0 q0) bM _ Try.underlying31 rfl (mach_info r8) ?_) | (go_at_call 10; refine (cK _ (HA.out _ hB)).mono ?_; rintro e w2 ⟨rfl, hb2⟩; replace hB := Below.step0 hB hb2; clear cK hb2))
    go_ret
    exact ⟨rfl, hB⟩
  have cK := fun W (hA : McAt W x0 q0) => reach_keys x0 q0 true W hA OB hA.c.2.1 hA.c.2.2 h
  have cC := fun p W hA => cls_ok x0 q0 p true W hA OB h
  have cS := fun p W hA => sls_ok x0 q0 p true W hA OB h
  have hlm : x0.m.length ≤ 400 := (mem_small (mc_zero.1 h).2.2.1).1
  have HO : Hid (∀ k, Has x0 true k → ok5 k) := fun k hk => has_ok r8 h hk
  obtain ⟨n, hn⟩ : ∃ n, x0.m.length = n := ⟨_, rfl⟩
  rw [hn] at cC hlm
  have HN : Hid (x0.m.length = n) := hn
  clear h hn
  go_upto_region 8 with (first | ((with_reducible refine at_load ?_); refine pl_load_box (by rfl) 31 (.tmp 2) rfl w.heap.size (by rfl) (mcC x0 q0) bM _ Try.underlying31 rfl (mach_info r8) ?_) | (go_at_call 10; refine (cK _ (HA.out _ hB)).mono ?_; rintro e w2 ⟨ak, ck, ks, rfl, hb2, hrw, hln, hks, -⟩; replace bM := bM.below hb2; replace hB := Below.step0 hB hb2; clear cK hb2))
  have HK : Hid (∀ k, k ∈ ks → Has x0 true k) := fun k hk => (hks k).1 hk
  have HR : Hid (∀ W, Below w2.heap.size w2 W → RowAt W ak (ks.flatMap k5C)) := fun W hb => hrw.below hb
  clear hks hrw
  go_loopw [42] (fun i wr => ∃ j : Nat, j ≤ ks.length ∧ i = .int .i64 (j : Int) ∧ Below w2.heap.size w2 wr) (fun i _ => ks.length - (intOf i).toNat)
  case atStart => exact ⟨0, Nat.zero_le _, rfl, Below.refl _ _⟩
  case round =>
    obtain ⟨j, hj, rfl, hb4⟩ := hrel
    replace hB := Below.step0 hB hb4
    replace bM := bM.below hb4
    by_cases hlt : j < ks.length
    · have gk : (j : Int) < (ks.length : Int) := by omega
      have hw1 : IntKind.i64.wrap ((j : Int) + 1) = (j : Int) + 1 := by rw [IntKind.wrap_i64]; omega
      obtain ⟨y, hy⟩ : ∃ y, ks[j]? = some y := ⟨_, List.getElem?_eq_getElem hlt⟩
      obtain ⟨Bk, off, rfl, hBl, c0, c1, c2, c3, c4⟩ := keys_at (HR.out _ hb4) hy
      have HY : Hid (Has x0 true y) := HK.out y (List.mem_of_getElem? hy)
      have hoy := HO.out y HY.out
      clear hy
      go_upto_region 10 with fail
      obtain ⟨w5, hw5⟩ : ∃ W, W = wr.alloc (.cells #[.int .i64 y.p, .int .i64 y.b, .int .i64 y.l, .int .i64 y.a, .int .i64 y.s] 23) := ⟨_, rfl⟩
      have bY : Box w5 wr.heap.size #[.int .i64 y.p, .int .i64 y.b, .int .i64 y.l, .int .i64 y.a, .int .i64 y.s] := by rw [hw5]; exact Box.new _ _ _
      replace bM : Box w5 w.heap.size (mcC x0 q0).toArray := by rw [hw5]; exact bM.alloc _
      replace hB : Below w.heap.size w w5 := by rw [hw5]; exact hB.alloc hB.size _
      have b65 : Below w2.heap.size w2 w5 := by rw [hw5]; exact hb4.alloc hb4.size _
      have qY := bY.cell
      rw [← hw5]
      clear hw5 hb4
      go_upto_region 14 with (first | ((with_reducible refine at_load ?_); refine pl_load_box (by rfl) 31 (.tmp 2) rfl w.heap.size (by rfl) (mcC x0 q0) bM _ Try.underlying31 rfl (mach_info r8) ?_) | (go_at_call 14; refine (cC _ _ (HA.out _ hB)).mono ?_; rintro e w6 ⟨al, lc, ba, rfl, hbb, na, ja⟩; replace bM := bM.below hbb; replace bY := bY.below hbb; replace hB := Below.step0 hB hbb; replace b65 := Below.step0 b65 hbb; have qY := bY.cell; have JA : Hid (∀ j, ba j = true ↔ Plc1 x0 true y.p j) := ja; clear cC hbb ja) | (go_at_call 17; refine (cS _ _ (HA.out _ hB)).mono ?_; rintro e w7 ⟨sl, sc, bs, rfl, hbb, ns, js⟩; replace bM := bM.below hbb; replace bY := bY.below hbb; replace hB := Below.step0 hB hbb; replace b65 := Below.step0 b65 hbb; have qY := bY.cell; replace na := na.below hbb; have JS : Hid (∀ j, bs j = true ↔ Plc1 x0 true y.p j) := js; clear cS hbb js))
      obtain ⟨yp, yb, yl, ya, ys⟩ := y
      obtain ⟨-, -, hl0, hb0, hbl, -⟩ := ok_lit hoy
      dsimp only at hl0 hb0 hbl JA JS qY bY na ns HY
      obtain ⟨M, hM⟩ : ∃ M, max 1 yl = M := ⟨_, rfl⟩
      have hM1 : 1 ≤ M ∧ M ≤ 400 ∧ (0 < yl → M = yl) := by omega
      have cR := fun W => ref_rest a1 M W b1 (by omega)
      obtain ⟨C, hC⟩ : ∃ C, yb + a1 % M = C := ⟨_, rfl⟩
      have hrm : 0 ≤ a1 % M ∧ a1 % M < 400 := ⟨Int.emod_nonneg _ (by omega), Int.lt_of_lt_of_le (Int.emod_lt_of_pos _ (by omega)) (by omega)⟩
      have hcv : 0 < yl → covB yb yl C = true := fun h => by
        rw [← hC, hM1.2.2 h]
        exact cov_rest (k := ⟨yp, yb, yl, ya, ys⟩) a1 h
      have hC0 : 0 ≤ C ∧ C ≤ 1000 := by omega
      generalize a1 % M = r at *
      have hw2 : IntKind.i64.wrap (yb + r) = C := by rw [hC, IntKind.wrap_i64]; omega
      obtain ⟨W, hW⟩ : ∃ W, w7.drew = W := ⟨_, rfl⟩
      have bYW := bY.drew
      have bMW := bM.drew
      have naW := na.below (below_drew _)
      have nsW := ns.below (below_drew _)
      have b6W := b65.drew
      have hBW := hB.drew
      rw [hW] at bYW bMW naW nsW b6W hBW
      clear qY bY bM na ns b65 hB
      have qY := bYW.cell
      refine wp_region_held_drew (S := fun w' => w' = W) (by kernel_rfl) hW (fun hHeld => ?_)
      rw [hW]
      clear hW hHeld
      have hSW : W = W := rfl
      refine wpAnyH_take (i := 0) (v := ?_) rfl (by kernel_rfl) (by kernel_rfl) (by kernel_rfl) (fun _ _ _ h => h) (Or.inl ⟨by rfl, ?_⟩) (by assumption) ?_
      rotate_left 1
      · intro wz hSw; obtain rfl := hSw; go_simp; try with_reducible rfl
      try simp only [Act.put, List.getElem_toArray, List.getElem_cons_zero, List.getElem_cons_succ, List.setIfInBounds_toArray, List.set_cons_zero, List.set_cons_succ]
      refine wpAnyH_take (i := 1) (v := ?_) rfl (by kernel_rfl) (by kernel_rfl) (by kernel_rfl) (fun _ _ _ h => h) (Or.inl ⟨by rfl, ?_⟩) (by assumption) ?_
      rotate_left 1
      · intro wz hSw; obtain rfl := hSw; go_simp; try with_reducible rfl
      try simp only [Act.put, List.getElem_toArray, List.getElem_cons_zero, List.getElem_cons_succ, List.setIfInBounds_toArray, List.set_cons_zero, List.set_cons_succ]
      refine wpAnyH_take (i := 2) (v := ?_) rfl (by kernel_rfl) (by kernel_rfl) (by kernel_rfl) (fun _ _ _ h => h) (Or.inl ⟨by rfl, ?_⟩) (by assumption) ?_
      rotate_left 1
      · intro wz hSw; obtain rfl := hSw; go_simp; try with_reducible rfl
      try simp only [Act.put, List.getElem_toArray, List.getElem_cons_zero, List.getElem_cons_succ, List.setIfInBounds_toArray, List.set_cons_zero, List.set_cons_succ]
      refine wpAnyH_take (i := 3) (v := ?_) rfl (by kernel_rfl) (by kernel_rfl) (by kernel_rfl) (fun _ _ _ h => h) (Or.inl ⟨by rfl, ?_⟩) (by assumption) ?_
      rotate_left 1
      · intro wz hSw; obtain rfl := hSw; go_simp; try with_reducible rfl
      try simp only [Act.put, List.getElem_toArray, List.getElem_cons_zero, List.getElem_cons_succ, List.setIfInBounds_toArray, List.set_cons_zero, List.set_cons_succ]
      refine wpAnyH_take (i := 4) (v := ?_) rfl (by kernel_rfl) (by kernel_rfl) (by kernel_rfl) (fun _ _ _ h => h) (Or.inl ⟨by rfl, ?_⟩) (by assumption) ?_
      rotate_left 1
      · intro wz hSw; obtain rfl := hSw; go_simp; try with_reducible rfl
      try simp only [Act.put, List.getElem_toArray, List.getElem_cons_zero, List.getElem_cons_succ, List.setIfInBounds_toArray, List.set_cons_zero, List.set_cons_succ]
      refine wpAnyH_take (i := 5) (v := .int .i64 M) rfl (by kernel_rfl) (by kernel_rfl) (by kernel_rfl) (fun _ _ _ h => h) (Or.inl ⟨by rfl, ?_⟩) (by assumption) ?_
      · intro wz hSw; obtain rfl := hSw; go_simp; try rw [hM]
      try simp only [Act.put, List.getElem_toArray, List.getElem_cons_zero, List.getElem_cons_succ, List.setIfInBounds_toArray, List.set_cons_zero, List.set_cons_succ]
      refine wpAnyH_ready (rs := [6]) (by kernel_rfl) (by simp) (AllReadyH.cons rfl (fun K hK => ?_) AllReadyH.nil)
      go_simp
      go_at_call 18
      refine (cR _).mono ?_
      rintro e wz ⟨rfl, hwz⟩
      obtain rfl := hwz.symm
      clear hwz
      refine hK.out _ _ hSW (fun hHeld => ?_)
      try simp only [Act.put, List.getElem_toArray, List.getElem_cons_zero, List.getElem_cons_succ, List.setIfInBounds_toArray, List.set_cons_zero, List.set_cons_succ]
      refine wpAnyH_take (i := 7) (v := ?_) rfl (by kernel_rfl) (by kernel_rfl) (by kernel_rfl) (fun _ _ _ h => h) (Or.inl ⟨by rfl, ?_⟩) (by assumption) ?_
      rotate_left 1
      · intro wz hSw; obtain rfl := hSw; go_simp; try with_reducible rfl
      try simp only [Act.put, List.getElem_toArray, List.getElem_cons_zero, List.getElem_cons_succ, List.setIfInBounds_toArray, List.set_cons_zero, List.set_cons_succ]
      refine wpAnyH_take (i := 8) (v := ?_) rfl (by kernel_rfl) (by kernel_rfl) (by kernel_rfl) (fun _ _ _ h => h) (Or.inl ⟨by rfl, ?_⟩) (by assumption) ?_
      rotate_left 1
      · intro wz hSw; obtain rfl := hSw; go_simp; try with_reducible rfl
      try simp only [Act.put, List.getElem_toArray, List.getElem_cons_zero, List.getElem_cons_succ, List.setIfInBounds_toArray, List.set_cons_zero, List.set_cons_succ]
      refine wpAnyH_done (by kernel_rfl) ?_ _
      obtain ⟨-, -, -, -, -, lm, -, -⟩ := mc_tail bMW r8
      rw [HN.out] at lm
      clear hrm hw2 hM cR hC bMW
      have lA := filt_len ba 0 n
      have lS := filt_len bs 1 63
      have cHa := has_int al lc (filtN ba 0 n) C W naW (by unfold maxLen; omega)
      have cHs := has_int sl sc (filtN bs 1 63) C W nsW (by unfold maxLen; omega)
      have hA1 : 0 < yl → C < (n : Int) → (filtN ba 0 n).contains C = true := fun h1 h2 => all_cell (k := ⟨yp, yb, yl, ya, ys⟩) JA.out HY.out (hcv h1) hC0.1 (by rw [Int.zero_add]; exact h2)
      have hS1 : 0 < yl → 1 ≤ C → C ≤ 63 → (filtN bs 1 63).contains C = true := fun h1 h2 h3 => all_cell (k := ⟨yp, yb, yl, ya, ys⟩) JS.out HY.out (hcv h1) h2 (Int.lt_of_le_of_lt h3 (by decide))
      obtain ⟨ca, hca⟩ : ∃ c, (filtN ba 0 n).contains C = c := ⟨_, rfl⟩
      obtain ⟨cs, hcs⟩ : ∃ c, (filtN bs 1 63).contains C = c := ⟨_, rfl⟩
      rw [hca] at cHa hA1
      rw [hcs] at cHs hS1
      clear hca hcs
      clear JA JS hcv naW nsW lA lS HY hM1 hl0 hb0 hbl hoy
      by_cases g0 : 0 < yl
      · by_cases gc : C < (n : Int)
        · have e1 := hA1 g0 gc
          rw [e1] at cHa
          clear e1
          by_cases g1 : 1 ≤ C
          · by_cases g63 : C ≤ 63
            · have e2 := hS1 g0 g1 g63
              rw [e2] at cHs
              clear hA1 hS1 e2
              go_wp2_with (first | (go_at_call 21; refine cHa.mono ?_; rintro e wz ⟨rfl, hwz⟩; obtain rfl := hwz.symm; clear hwz cHa) | (go_at_call 21; refine cHs.mono ?_; rintro e wz ⟨rfl, hwz⟩; obtain rfl := hwz.symm; clear hwz cHs))
              go_roundw
              case rel => first | exact ⟨j + 1, by omega, rfl, b6W⟩ | exact ⟨_, ⟨j + 1, by omega, rfl⟩, b6W⟩
              case measure => simp [intOf]; omega
            · clear hA1 hS1 cHs
              go_wp2_with (first | (go_at_call 21; refine cHa.mono ?_; rintro e wz ⟨rfl, hwz⟩; obtain rfl := hwz.symm; clear hwz cHa))
              go_roundw
              case rel => first | exact ⟨j + 1, by omega, rfl, b6W⟩ | exact ⟨_, ⟨j + 1, by omega, rfl⟩, b6W⟩
              case measure => simp [intOf]; omega
          · clear hA1 hS1 cHs
            go_wp2_with (first | (go_at_call 21; refine cHa.mono ?_; rintro e wz ⟨rfl, hwz⟩; obtain rfl := hwz.symm; clear hwz cHa))
            go_roundw
            case rel => first | exact ⟨j + 1, by omega, rfl, b6W⟩ | exact ⟨_, ⟨j + 1, by omega, rfl⟩, b6W⟩
            case measure => simp [intOf]; omega
        · clear cHa
          by_cases g1 : 1 ≤ C
          · by_cases g63 : C ≤ 63
            · have e2 := hS1 g0 g1 g63
              rw [e2] at cHs
              clear hA1 hS1 e2
              go_wp2_with (first | (go_at_call 21; refine cHs.mono ?_; rintro e wz ⟨rfl, hwz⟩; obtain rfl := hwz.symm; clear hwz cHs))
              go_roundw
              case rel => first | exact ⟨j + 1, by omega, rfl, b6W⟩ | exact ⟨_, ⟨j + 1, by omega, rfl⟩, b6W⟩
              case measure => simp [intOf]; omega
            · clear hA1 hS1 cHs
              go_wp2
              go_roundw
              case rel => first | exact ⟨j + 1, by omega, rfl, b6W⟩ | exact ⟨_, ⟨j + 1, by omega, rfl⟩, b6W⟩
              case measure => simp [intOf]; omega
          · clear hA1 hS1 cHs
            go_wp2
            go_roundw
            case rel => first | exact ⟨j + 1, by omega, rfl, b6W⟩ | exact ⟨_, ⟨j + 1, by omega, rfl⟩, b6W⟩
            case measure => simp [intOf]; omega
      · clear hA1 hS1 cHa cHs
        go_wp2
        go_roundw
        case rel => first | exact ⟨j + 1, by omega, rfl, b6W⟩ | exact ⟨_, ⟨j + 1, by omega, rfl⟩, b6W⟩
        case measure => simp [intOf]; omega
    · obtain rfl : j = ks.length := by omega
      have gk : ¬ (ks.length : Int) < (ks.length : Int) := by omega
      go_wp2
      go_ret
      exact ⟨rfl, hB⟩

set_option maxRecDepth 100000 in
theorem lifted (os : Os) (started : os.Started) (H : Type) (enc : TypeId × Value → H) :
    ReturnsInHanded {} Try.checked os 8 .any (Rows.reachAllSpec.pre6 enc Try.prog Try.f8 Rows.reachAllRow.domain false) (Rows.reachAllSpec.post enc Try.prog Try.f8 false true false false) := by
  refine returnsInHanded_of_change (C := Try.checked) own started (by kernel_rfl) Try.func8
    (ChangeSpec.witness6 (enc := enc) (C := Try.checked) false ⟨#[], #[.agg #[.bool false, .int .i64 0, .int .i64 0, .int .i64 0, .int .i64 0, .int .i64 0, .int .i64 0, .bool false, .int .i64 0, .int .i64 0, .int .i64 0, .int .i64 0, .int .i64 0, .int .i64 0, .bool false, .int .i64 0, .int .i64 0, .int .i64 0, .int .i64 0, .int .i64 0, .int .i64 0, .bool false, .int .i64 0, .int .i64 0, .int .i64 0, .int .i64 0, .int .i64 0, .int .i64 0, .bool false, .int .i64 0, .int .i64 0, .int .i64 0, .int .i64 0, .int .i64 0, .int .i64 0, .bool false, .int .i64 0, .int .i64 0, .int .i64 0, .int .i64 0, .int .i64 0, .int .i64 0, .bool false, .int .i64 0, .int .i64 0, .int .i64 0, .int .i64 0, .int .i64 0, .int .i64 0, .bool false, .int .i64 0, .int .i64 0, .int .i64 0, .int .i64 0, .int .i64 0, .int .i64 0, .int .i64 0, .int .i64 0, .int .i64 0, .int .i64 0, .int .i64 0, .slice none 0 0, .slice none 0 0, .slice none 0 0], .int .i64 0], []⟩ 8 (by kernel_rfl) (by kernel_rfl) (by kernel_rfl) (by kernel_rfl)) ?_
  intro W base args ds gs before hval0 hW hcnd _
  have hval : ∀ (j : Nat) t v, Try.f8.params[j]? = some t → args[j]? = some v → Value.okWide Try.prog W .any base t v := hval0
  have hW' := hW
  obtain ⟨p, q, hA0, hV, rfl, hfz, hnd⟩ := hW
  have hA : DataW.TrodAll enc Try.prog W 0 (fun _ => true) true Try.f8.params.toList args.toList ds p := hA0
  rw [Try.params8] at hA hval
  obtain ⟨v0, vs0, d0, ds0, p0, q0, hargs, rfl, rfl, h0, r0⟩ := trodAll_cons hA
  obtain ⟨v1, vs1, d1, ds1, p1, q1, rfl, rfl, rfl, h1, r1⟩ := trodAll_cons r0
  obtain ⟨rfl, rfl, rfl⟩ := trodAll_nil r1
  obtain rfl : args = #[v0, v1] := by cases args; simp_all
  obtain ⟨rfl, rfl⟩ := trodVars_none hV
  have k0 := h0
  have lt0 : ∀ x ∈ p0, x.block < W.heap.size := by obtain ⟨m, hm⟩ := k0; exact DataW.trod_lt m _ _ _ hm
  obtain ⟨x0, q0, rfl, O0, A0⟩ := open_mach (hval 0 31 v0 rfl rfl) k0
  obtain ⟨a1, rfl, rfl, rfl, w1⟩ := open_int Try.underlying3 (hval 1 3 v1 rfl rfl) h1
  clear hA0 hval0
  refine (walk x0 q0 a1 O0 (bounds_i64 w1) W A0).mono fun e W' ⟨he, bel⟩ => ?_
  subst he
  exact ⟨_, rfl, _, _, _, [], _, [], hW', trodAll_mk1 (shut_bool Try.underlying4 _), (trodAll_cons_mk (Below.trod laidOut (by kernel_rfl) (of_decide_eq_true (by kernel_rfl)) k0 bel lt0) (trodAll_cons_mk (shut_int Try.underlying3 w1) trodAll_mk0)), rfl, bel.frame _, fun h => by cases h⟩

theorem over : Rows.reachAllRow.holds Try.pinned (OpenSpec.ofChange Rows.reachAllSpec) :=
  OpenClaim.holds_of_wide 8 Try.f8 rfl rfl rfl rfl rfl rfl rfl ⟨rfl, rfl, rfl, rfl, rfl⟩ rfl rfl rfl rfl rfl (by kernel_rfl) Try.func8 (by kernel_rfl)
    (of_decide_eq_true (by kernel_rfl)) (by unfold Func.isWrapper; first | (rw [if_pos (by decide +kernel)]; kernel_rfl) | (rw [if_neg (by decide +kernel)]; exact ⟨rfl, rfl⟩))
    (fun os started H enc _ => lifted os started H enc)

theorem proved : Rows.ReachAllSaid :=
  over
#print axioms proved
end Go.Proofs.Ytlfeglljpfihhaa.reachAll
