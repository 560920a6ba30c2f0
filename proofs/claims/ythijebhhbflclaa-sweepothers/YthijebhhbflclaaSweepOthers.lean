/- Chapter 12, P25: what is for none of these cells stays; and no key comes to be; for every machine. -/
import Derived.Test.YthijebhhbflclaaRows
import Derived.Test.YthijebhhbflclaaKeyArg
import Derived.Test.YthijebhhbflclaaMachArg
import Derived.Carry
import Derived.Test.YthijebhhbflclaaKeyPure
import Derived.Test.YthijebhhbflclaaMachArg
import Derived.Test.YthijebhhbflclaaStepChk
import Derived.Test.YthijebhhbflclaaStepChk2
import Derived.Test.YthijebhhbflclaaMachMid
import Derived.Test.YthijebhhbflclaaSweepPure
import Derived.Test.YthijebhhbflclaaRowApp
import Derived.Test.YthijebhhbflclaaMachSet
import Derived.Test.YthijebhhbflclaaSweepTop
import Derived.Test.YthijebhhbflclaaSweepHasT
import Derived.Test.YthijebhhbflclaaEqSame
import Derived.Test.YthijebhhbflclaaSweepOth
import Derived.Deep.RegionHeld3
import Derived.Deep.CutBlock
import Derived.Laws.EntriesVeiled
import Derived.WalkKit
import Derived.ProofKit
import Derived.OpenShut
namespace Go.Proofs.Ythijebhhbflclaa.sweepOthers
open Go.ChangeShapes Go.WideShapes Go.ChangeAt Go.RowKit
set_option linter.unusedVariables false
set_option linter.unusedSimpArgs false

theorem own : ownKnob Try.prog.godebug = none := by kernel_rfl
theorem laidOut : laidOutB Try.prog = true := by kernel_rfl

theorem cK_le (b n : Int) (k : K5) : cK b n k ≤ 1 := by unfold cK b1; split <;> omega
theorem swM_b {b n : Int} {x : MC} (h : McB x) : McB (swM b n x) := by
  have n0 : mvOk nil0 := by show vb 0 0 0 0 0 0; unfold vb kb; decide
  have hv : ∀ v, mvOk v → mvOk (swV b n v) := fun v h => by unfold swV; split; exact n0; exact h
  have hk : ∀ k, k5b k → k5b (swK b n k) := fun k h => by
    unfold swK
    split
    · show kb 0 0 0 0 0
      unfold kb
      decide
    · exact h
  refine ⟨by show (x.r.map (swV b n)).length = 8; rw [List.length_map]; exact h.r8, fun v hm => ?_, hk _ h.k, fun v hm => ?_, fun f hm => ?_, h.o⟩
  · obtain ⟨u, hu, rfl⟩ := List.mem_map.1 hm
    exact hv _ (h.r u hu)
  · obtain ⟨u, hu, rfl⟩ := List.mem_map.1 hm
    exact hv _ (h.m u hu)
  · obtain ⟨u, hu, rfl⟩ := List.mem_map.1 hm
    exact ⟨hk _ (h.s u hu).1, hv _ (h.s u hu).2⟩
theorem off_at7 {S B o : Nat} {a b : World} {v : MV} (h : Off S a b) (hl : B < a.heap.size) (hS : a.heap.size ≤ S) (hv : At7 a B o v) : At7 b B o v := by
  have e : ∀ o, b.cell? ⟨B, o, none⟩ = a.cell? ⟨B, o, none⟩ := fun o => World.cell?_of_block (w := a) (a := ⟨B, o, none⟩) (h.block B hl (by omega))
  unfold At7
  simp only [e]
  exact hv
theorem off_at12 {S B o : Nat} {a b : World} {v : FR} (h : Off S a b) (hl : B < a.heap.size) (hS : a.heap.size ≤ S) (hv : At12 a B o v) : At12 b B o v := by
  have e : ∀ o, b.cell? ⟨B, o, none⟩ = a.cell? ⟨B, o, none⟩ := fun o => World.cell?_of_block (w := a) (a := ⟨B, o, none⟩) (h.block B hl (by omega))
  unfold At12
  simp only [e]
  exact hv
theorem off_tail {S B : Nat} {a b : World} {y : MC} {q : MA} (h : Off S a b) (hb : Box a B (mcC y q).toArray) (hB : B < S) (h8 : y.r.length = 8) : McT b B y q := mc_tail (h.box hb (by omega)) h8
theorem off_reg {S B k : Nat} {a b : World} {y : MC} {q : MA} {v : MV} (h : Off S a b) (hb : Box a B (mcC y q).toArray) (hB : B < S) (h8 : y.r.length = 8) (hv : y.r[k]? = some v) : At7 b B (k * 7) v := box_reg (h.box hb (by omega)) h8 hv
set_option maxHeartbeats 4000000 in
set_option maxRecDepth 1000000 in
theorem walk (x0 : MC) (q0 : MA) (a1 : Int) (a2 : Int) (O0 : McOk x0 q0) (b1 : -9223372036854775808 ≤ a1 ∧ a1 ≤ 9223372036854775807) (b2 : -9223372036854775808 ≤ a2 ∧ a2 ≤ 9223372036854775807) (w : World) (A0 : McAt w x0 q0) :
    Calls Try.prog 6 #[.agg (mcC x0 q0).toArray, .int .i64 a1, .int .i64 a2] w fun e w' => e = .returned (.bool true) ∧ Below w.heap.size w w' := by
  have hi0 : (Try.prog.info? 31).map (·.size) = some (mcC x0 q0).length := mach_info O0.r8
  have HA : Hid (∀ w', Below w.heap.size w w' → McAt w' x0 q0) := fun w' hb => A0.below hb
  have lm : x0.m.length ≤ maxLen := Nat.le_trans O0.zm O0.ym
  have ls : x0.s.length ≤ maxLen := Nat.le_trans O0.zs O0.ys
  have lo : x0.o.length ≤ maxLen := Nat.le_trans O0.zo O0.yo
  have cS := fun w hA => sweep_top x0 q0 a1 a2 w hA O0.toMcB b1 b2
  rcases sw_cases a1 a2 x0 with ⟨hE, e1, e2⟩ | ⟨hE, e1, e2⟩
  rotate_left 1
  · rw [e1, e2] at cS
    have gE : (swE a1 a2 x0 != 0) = true := by simpa using hE
    generalize swE a1 a2 x0 = E at *
    have z8 : zeroM.r.length = 8 := rfl
    clear hE e1 e2 A0 lm ls lo
    have iYzeroM : ∀ q', (Try.prog.info? 31).map (·.size) = some (mcC zeroM q').length := fun q' => mach_info z8
    have zYzeroM : ∀ q', z64.toArray.size = (mcC zeroM q').length := fun q' => by rw [mc_length z8]; rfl
    go_enter Try.func6, Try.ntmps6
    go_upto_region 1 with fail
    obtain ⟨w0, hw0⟩ : ∃ w0, w0 = ((w.alloc (.cells (mcC x0 q0).toArray 31)).alloc (.cells #[.int .i64 a1] 3)).alloc (.cells #[.int .i64 a2] 3) := ⟨_, rfl⟩
    rw [← hw0]
    have bM : Box w0 w.heap.size (mcC x0 q0).toArray := by rw [hw0]; exact ((Box.new _ _ _).alloc _).alloc _
    have bb : Box w0 (w.heap.size + 1) #[.int .i64 a1] := by rw [hw0]; exact (Box.new1 _ _ _ _).alloc _
    have bn : Box w0 (w.heap.size + 1 + 1) #[.int .i64 a2] := by rw [hw0]; exact Box.new2 _ _ _ _ _
    have hB : Below w.heap.size w w0 := by rw [hw0]; exact three _ _ _
    clear hw0
    have qb := bb.cell
    have qn := bn.cell
    go_wp2_with (first | ((with_reducible refine at_load ?_); refine pl_load_box (by rfl) 31 (.tmp 3) rfl (w.heap.size) (by rfl) (mcC x0 q0) bM _ Try.underlying31 rfl hi0 ?_) | (go_at_call 8; refine (cS _ (HA.out _ hB)).mono ?_; rintro e w1 ⟨q1, rfl, hbb, hY, hQ⟩; try replace bM := bM.below hbb; try replace bb := bb.below hbb; try replace bn := bn.below hbb; replace hB := Below.step0 hB hbb; have qb := bb.cell; have qn := bn.cell; clear hbb cS) | ((with_reducible refine at_alloc ?_); refine wpList_alloc1 rfl 31 rfl _ (alloc_mach _) ?_) | ((with_reducible refine at_store ?_); refine pl_store_box rfl 31 (.tmp 7) (.tmp 23) rfl w1.heap.size (mcC zeroM q1) (by rfl) (by rfl) z64.toArray (Box.new _ _ _) (zYzeroM q1) (iYzeroM q1) (mc_one _ _) ?_; intro bX; have hbw : Below w1.heap.size w1 ((w1.alloc (.cells z64.toArray 31)).setCells w1.heap.size 0 (mcC zeroM q1)) := below_cells _ _ _ _ ((Below.refl _ _).alloc (Nat.le_refl _) _) (Nat.le_refl _); try replace bM := bM.below hbw; try replace bb := bb.below hbw; try replace bn := bn.below hbw; try replace hY := hY.below hbw; replace hB := Below.step0 hB hbw; generalize ((w1.alloc (.cells z64.toArray 31)).setCells w1.heap.size 0 (mcC zeroM q1)) = w2 at *; clear hbw) | (go_at_call 12; refine (keep_swept _).mono ?_; rintro e w3 ⟨rfl, hbb⟩; try replace bM := bM.below hbb; try replace bb := bb.below hbb; try replace bn := bn.below hbb; try replace hY := hY.below hbb; try replace bX := bX.below hbb; replace hB := Below.step0 hB hbb; clear hbb ))
    go_ret
    exact ⟨rfl, hB⟩
  · rw [e1, e2, hE] at cS
    have h8 := O0.r8
    have hX := swok_of O0.r8 (sw_ok hE).1
    have hArg := arg_ok (sw_ok hE).2
    have x8 : (swM a1 a2 x0).r.length = 8 := (swM_b O0.toMcB).r8
    have cE := fun a c w hA => fun hA' => eq_nums a q0.o c q0.co x0.o w hA hA' lo
    obtain ⟨X, hXe⟩ : ∃ X, swM a1 a2 x0 = X := ⟨_, rfl⟩
    have HE : Hid (X = swM a1 a2 x0 ∧ SwOk x0 ∧ (0 ≤ a1 ∧ 0 ≤ a2 ∧ a1 + a2 ≤ 400)) := ⟨hXe.symm, hX, hArg⟩
    have xm : X.m.length = x0.m.length := by rw [← hXe]; exact List.length_map _
    have xs : X.s.length = x0.s.length := by rw [← hXe]; exact List.length_map _
    have xo : X.o = x0.o := by rw [← hXe]; rfl
    rw [hXe] at cS x8
    obtain ⟨cc, hcc⟩ : ∃ cc, cM a1 a2 x0 = cc := ⟨_, rfl⟩
    rw [hcc] at cS
    have HC : Hid (cM a1 a2 x0 = cc) := hcc
    clear hE e1 e2 A0 hX hArg hXe hcc
    have iYX : ∀ q', (Try.prog.info? 31).map (·.size) = some (mcC X q').length := fun q' => mach_info x8
    have zYX : ∀ q', z64.toArray.size = (mcC X q').length := fun q' => by rw [mc_length x8]; rfl
    go_enter Try.func6, Try.ntmps6
    go_upto_region 1 with fail
    obtain ⟨w0, hw0⟩ : ∃ w0, w0 = ((w.alloc (.cells (mcC x0 q0).toArray 31)).alloc (.cells #[.int .i64 a1] 3)).alloc (.cells #[.int .i64 a2] 3) := ⟨_, rfl⟩
    rw [← hw0]
    have bM : Box w0 w.heap.size (mcC x0 q0).toArray := by rw [hw0]; exact ((Box.new _ _ _).alloc _).alloc _
    have bb : Box w0 (w.heap.size + 1) #[.int .i64 a1] := by rw [hw0]; exact (Box.new1 _ _ _ _).alloc _
    have bn : Box w0 (w.heap.size + 1 + 1) #[.int .i64 a2] := by rw [hw0]; exact Box.new2 _ _ _ _ _
    have hB : Below w.heap.size w w0 := by rw [hw0]; exact three _ _ _
    clear hw0
    have qb := bb.cell
    have qn := bn.cell
    go_upto_region 6 with (first | ((with_reducible refine at_load ?_); refine pl_load_box (by rfl) 31 (.tmp 3) rfl (w.heap.size) (by rfl) (mcC x0 q0) bM _ Try.underlying31 rfl hi0 ?_) | (go_at_call 8; refine (cS _ (HA.out _ hB)).mono ?_; rintro e w1 ⟨q1, rfl, hbb, hY, hQ⟩; try replace bM := bM.below hbb; try replace bb := bb.below hbb; try replace bn := bn.below hbb; replace hB := Below.step0 hB hbb; have qb := bb.cell; have qn := bn.cell; clear hbb cS) | ((with_reducible refine at_alloc ?_); refine wpList_alloc1 rfl 31 rfl _ (alloc_mach _) ?_) | ((with_reducible refine at_store ?_); refine pl_store_box rfl 31 (.tmp 7) (.tmp 23) rfl w1.heap.size (mcC X q1) (by rfl) (by rfl) z64.toArray (Box.new _ _ _) (zYX q1) (iYX q1) (mc_one _ _) ?_; intro bX; have hbw : Below w1.heap.size w1 ((w1.alloc (.cells z64.toArray 31)).setCells w1.heap.size 0 (mcC X q1)) := below_cells _ _ _ _ ((Below.refl _ _).alloc (Nat.le_refl _) _) (Nat.le_refl _); try replace bM := bM.below hbw; try replace bb := bb.below hbw; try replace bn := bn.below hbw; try replace hY := hY.below hbw; replace hB := Below.step0 hB hbw; generalize ((w1.alloc (.cells z64.toArray 31)).setCells w1.heap.size 0 (mcC X q1)) = w2 at *; clear hbw) | (go_at_call 12; refine (keep_swept _).mono ?_; rintro e w3 ⟨rfl, hbb⟩; try replace bM := bM.below hbb; try replace bb := bb.below hbb; try replace bn := bn.below hbb; try replace hY := hY.below hbb; try replace bX := bX.below hbb; replace hB := Below.step0 hB hbb; clear hbb ))
    have z1 := bX.lt
    have zn := bn.lt
    have zq := hB.size
    go_upto_region 9 with fail
    obtain ⟨Wp, hWp⟩ : ∃ Wp, Wp = (w3.alloc (.cells #[.func (.func 13) #[] #[.pointer (some ⟨w.heap.size + 1 + 1, 0, none⟩), .pointer (some ⟨w.heap.size + 1, 0, none⟩)]] 40)) := ⟨_, rfl⟩
    have hsz : Wp.heap.size = w3.heap.size + 1 := by rw [hWp]; simp
    have bh : Box Wp w3.heap.size #[.func (.func 13) #[] #[.pointer (some ⟨w.heap.size + 1 + 1, 0, none⟩), .pointer (some ⟨w.heap.size + 1, 0, none⟩)]] := by rw [hWp]; exact Box.new _ _ _
    replace bM : Box Wp w.heap.size (mcC x0 q0).toArray := by rw [hWp]; exact bM.alloc _
    replace bX : Box Wp w1.heap.size (mcC X q1).toArray := by rw [hWp]; exact bX.alloc _
    replace bb : Box Wp (w.heap.size + 1) #[.int .i64 a1] := by rw [hWp]; exact bb.alloc _
    replace bn : Box Wp (w.heap.size + 1 + 1) #[.int .i64 a2] := by rw [hWp]; exact bn.alloc _
    replace hY : McAt Wp X q1 := by rw [hWp]; exact hY.below ((Below.refl _ _).alloc (Nat.le_refl _) _)
    replace hB : Below w.heap.size w Wp := by rw [hWp]; exact hB.alloc zq _
    have hM : McAt Wp x0 q0 := HA.out _ hB
    rw [← hWp]
    obtain ⟨w5, hw5⟩ : ∃ w5, w5 = Wp.alloc (.cells #[.int .i64 0] 3) := ⟨_, rfl⟩
    rw [← hw5]
    have hO : Off (w3.heap.size + 1) Wp w5 := by rw [hw5]; exact (Off.refl _ _).alloc _
    have hR : Oth w5 (w.heap.size + 1) (w.heap.size + 1 + 1) w3.heap.size (w3.heap.size + 1) a1 a2 0 := by
      rw [hw5]
      refine ⟨bb.alloc _, bn.alloc _, bh.alloc _, ?_, HE.out.2.2, by omega, by omega, by omega⟩
      rw [← hsz]
      exact Box.new _ _ _
    clear hWp hw5
    have dM : w.heap.size < (w3.heap.size + 1) := by omega
    have dX : w1.heap.size < (w3.heap.size + 1) := by omega
    have hWL : Wp.heap.size ≤ (w3.heap.size + 1) := by omega
    have xk : X.k = swK a1 a2 x0.k := by rw [HE.out.1]; rfl
    obtain ⟨k0, k1, k2, k3, k4, lm, ls, lo'⟩ := off_tail hO bM dM h8
    obtain ⟨j0, j1, j2, j3, j4, jm, js, jo⟩ := off_tail hO bX dX x8
    rw [xm] at jm
    rw [xs] at js
    rw [xo] at jo
    rw [xk] at j0 j1 j2 j3 j4
    have hN1 : NumsAt w5 q1.o x0.o := by have := RowAt.offS hY.o hWL hO; rw [xo] at this; exact this
    have hN2 : NumsAt w5 q0.o x0.o := RowAt.offS hM.o hWL hO
    have cKo := fun W hR => oth_code x0.k a1 a2 (w.heap.size + 1) (w.heap.size + 1 + 1) w3.heap.size (w3.heap.size + 1) 0 W HE.out.2.1.k hR (by omega)
    go_upto_region 12 with ((go_at_call 15; refine (cE _ _ _ hN1 hN2).mono ?_; rintro e w6 ⟨rfl, hw6⟩; obtain rfl := hw6.symm))
    go_upto_region 14 with (first | (go_at_call 16; refine (cKo _ hR).mono ?_; rintro e w7 ⟨rfl, hOv, hRv⟩; replace hO := hO.trans hOv; clear hR cKo))
    clear k0 k1 k2 k3 k4 lm ls lo' j0 j1 j2 j3 j4 jm js jo hN1 hN2 hOv cE
    rw [Nat.zero_add] at hRv
    have lk := cK_le a1 a2 x0.k
    have lr := cVs_le a1 a2 x0.r
    have lv := cVs_le a1 a2 x0.m
    have lf := cFs_le a1 a2 x0.s
    have hm4 := HE.out.2.1.lm
    have hs4 := HE.out.2.1.ls
    go_loopw [14, 63] (fun g i wr => ∃ k : Nat, k ≤ 8 ∧ g = .bool true ∧ i = .int .i64 (k : Int) ∧ Off (w3.heap.size + 1) Wp wr ∧ Oth wr (w.heap.size + 1) (w.heap.size + 1 + 1) w3.heap.size (w3.heap.size + 1) a1 a2 (cK a1 a2 x0.k + cVs a1 a2 (x0.r.take k))) (fun _ i _ => 8 - (intOf i).toNat)
    case atStart => exact ⟨0, Nat.zero_le _, rfl, rfl, hO, hRv⟩
    case round =>
      clear hO hRv
      obtain ⟨k, hk, rfl, rfl, hO, hRv⟩ := hrel
      by_cases hlt : k < 8
      · have gk : (k : Int) < 8 := by omega
        obtain ⟨v, hv⟩ : ∃ v, x0.r[k]? = some v := ⟨_, List.getElem?_eq_getElem (by omega)⟩
        have hv2 : X.r[k]? = some (swV a1 a2 v) := by rw [HE.out.1]; show (x0.r.map _)[k]? = _; rw [List.getElem?_map, hv]; rfl
        have hok := HE.out.2.1.r v (List.mem_of_getElem? hv)
        obtain ⟨e1, e2⟩ := cVs_take (b := a1) (n := a2) hv
        have cS := fun W hR => oth_val v a1 a2 (w.heap.size + 1) (w.heap.size + 1 + 1) w3.heap.size (w3.heap.size + 1) (cK a1 a2 x0.k + cVs a1 a2 (x0.r.take k)) W hok hR (by omega)
        go_upto_region 16 with fail
        refine wp_region_held_drew (S := fun w' => Off (w3.heap.size + 1) Wp w') (by kernel_rfl) hO.drew (fun hHeld => ?_)
        replace hO := hO.drew
        replace hRv := hRv.below (below_drew _)
        refine wpAnyH_take (i := 0) (v := ?_) rfl (by kernel_rfl) (by kernel_rfl) (by kernel_rfl) (fun _ _ _ h => h) (Or.inl ⟨by rfl, ?_⟩) (by assumption) ?_
        rotate_left 1
        · intro wz hSw;  go_simp; try with_reducible rfl
        try simp only [Act.put, List.getElem_toArray, List.getElem_cons_zero, List.getElem_cons_succ, List.setIfInBounds_toArray, List.set_cons_zero, List.set_cons_succ]
        refine wpAnyH_take (i := 1) (v := ?_) rfl (by kernel_rfl) (by kernel_rfl) (by kernel_rfl) (fun _ _ _ h => h) (Or.inl ⟨by rfl, ?_⟩) (by assumption) ?_
        rotate_left 1
        · intro wz hSw;  go_simp; try with_reducible rfl
        try simp only [Act.put, List.getElem_toArray, List.getElem_cons_zero, List.getElem_cons_succ, List.setIfInBounds_toArray, List.set_cons_zero, List.set_cons_succ]
        refine wpAnyH_take (i := 2) (v := ?_) rfl (by kernel_rfl) (by kernel_rfl) (by kernel_rfl) (fun _ _ _ h => h) (Or.inl ⟨by rfl, ?_⟩) (by assumption) ?_
        rotate_left 1
        · intro wz hSw;  go_simp; try with_reducible rfl
        try simp only [Act.put, List.getElem_toArray, List.getElem_cons_zero, List.getElem_cons_succ, List.setIfInBounds_toArray, List.set_cons_zero, List.set_cons_succ]
        refine wpAnyH_take (i := 3) (v := ?_) rfl (by kernel_rfl) (by kernel_rfl) (by kernel_rfl) (fun _ _ _ h => h) (Or.inl ⟨by rfl, ?_⟩) (by assumption) ?_
        rotate_left 1
        · intro wz hSw;  go_simp; try with_reducible rfl
        try simp only [Act.put, List.getElem_toArray, List.getElem_cons_zero, List.getElem_cons_succ, List.setIfInBounds_toArray, List.set_cons_zero, List.set_cons_succ]
        refine wpAnyH_take (i := 4) (v := .agg #[.bool v.i, .int .i64 v.n, .int .i64 v.p, .int .i64 v.b, .int .i64 v.l, .int .i64 v.a, .int .i64 v.s]) rfl (by kernel_rfl) (by kernel_rfl) (by kernel_rfl) (fun _ _ _ h => h) (Or.inl ⟨by rfl, ?_⟩) (by assumption) ?_
        · intro wz hSw;  obtain ⟨u0, u1, u2, u3, u4, u5, u6⟩ := off_reg hSw bM dM h8 hv; go_simp
        try simp only [Act.put, List.getElem_toArray, List.getElem_cons_zero, List.getElem_cons_succ, List.setIfInBounds_toArray, List.set_cons_zero, List.set_cons_succ]
        refine wpAnyH_take (i := 5) (v := ?_) rfl (by kernel_rfl) (by kernel_rfl) (by kernel_rfl) (fun _ _ _ h => h) (Or.inl ⟨by rfl, ?_⟩) (by assumption) ?_
        rotate_left 1
        · intro wz hSw;  go_simp; try with_reducible rfl
        try simp only [Act.put, List.getElem_toArray, List.getElem_cons_zero, List.getElem_cons_succ, List.setIfInBounds_toArray, List.set_cons_zero, List.set_cons_succ]
        refine wpAnyH_take (i := 6) (v := ?_) rfl (by kernel_rfl) (by kernel_rfl) (by kernel_rfl) (fun _ _ _ h => h) (Or.inl ⟨by rfl, ?_⟩) (by assumption) ?_
        rotate_left 1
        · intro wz hSw;  go_simp; try with_reducible rfl
        try simp only [Act.put, List.getElem_toArray, List.getElem_cons_zero, List.getElem_cons_succ, List.setIfInBounds_toArray, List.set_cons_zero, List.set_cons_succ]
        refine wpAnyH_take (i := 7) (v := ?_) rfl (by kernel_rfl) (by kernel_rfl) (by kernel_rfl) (fun _ _ _ h => h) (Or.inl ⟨by rfl, ?_⟩) (by assumption) ?_
        rotate_left 1
        · intro wz hSw;  go_simp; try with_reducible rfl
        try simp only [Act.put, List.getElem_toArray, List.getElem_cons_zero, List.getElem_cons_succ, List.setIfInBounds_toArray, List.set_cons_zero, List.set_cons_succ]
        refine wpAnyH_take (i := 8) (v := .agg #[.bool (swV a1 a2 v).i, .int .i64 (swV a1 a2 v).n, .int .i64 (swV a1 a2 v).p, .int .i64 (swV a1 a2 v).b, .int .i64 (swV a1 a2 v).l, .int .i64 (swV a1 a2 v).a, .int .i64 (swV a1 a2 v).s]) rfl (by kernel_rfl) (by kernel_rfl) (by kernel_rfl) (fun _ _ _ h => h) (Or.inl ⟨by rfl, ?_⟩) (by assumption) ?_
        · intro wz hSw;  obtain ⟨u0, u1, u2, u3, u4, u5, u6⟩ := off_reg hSw bX dX x8 hv2; go_simp
        try simp only [Act.put, List.getElem_toArray, List.getElem_cons_zero, List.getElem_cons_succ, List.setIfInBounds_toArray, List.set_cons_zero, List.set_cons_succ]
        refine wpAnyH_ready (rs := [9]) (by kernel_rfl) (by simp) (AllReadyH.cons rfl (fun K hK => ?_) AllReadyH.nil)
        go_simp
        go_at_call 14
        refine (cS _ hRv).mono ?_
        rintro e w8 ⟨rfl, hOv, hRw⟩
        clear hRv
        have hRv := hRw
        clear hRw
        replace hO := hO.trans hOv
        refine hK.out _ _ hO (fun hHeld => ?_)
        clear hK K hOv
        try simp only [Act.put, List.getElem_toArray, List.getElem_cons_zero, List.getElem_cons_succ, List.setIfInBounds_toArray, List.set_cons_zero, List.set_cons_succ]
        refine wpAnyH_take (i := 10) (v := ?_) rfl (by kernel_rfl) (by kernel_rfl) (by kernel_rfl) (fun _ _ _ h => h) (Or.inl ⟨by rfl, ?_⟩) (by assumption) ?_
        rotate_left 1
        · intro wz hSw;  go_simp; try with_reducible rfl
        try simp only [Act.put, List.getElem_toArray, List.getElem_cons_zero, List.getElem_cons_succ, List.setIfInBounds_toArray, List.set_cons_zero, List.set_cons_succ]
        refine wpAnyH_take (i := 11) (v := ?_) rfl (by kernel_rfl) (by kernel_rfl) (by kernel_rfl) (fun _ _ _ h => h) (Or.inl ⟨by rfl, ?_⟩) (by assumption) ?_
        rotate_left 1
        · intro wz hSw;  go_simp; try with_reducible rfl
        try simp only [Act.put, List.getElem_toArray, List.getElem_cons_zero, List.getElem_cons_succ, List.setIfInBounds_toArray, List.set_cons_zero, List.set_cons_succ]
        refine wpAnyH_take (i := 12) (v := ?_) rfl (by kernel_rfl) (by kernel_rfl) (by kernel_rfl) (fun _ _ _ h => h) (Or.inl ⟨by rfl, ?_⟩) (by assumption) ?_
        rotate_left 1
        · intro wz hSw;  go_simp; try with_reducible rfl
        try simp only [Act.put, List.getElem_toArray, List.getElem_cons_zero, List.getElem_cons_succ, List.setIfInBounds_toArray, List.set_cons_zero, List.set_cons_succ]
        refine wpAnyH_take (i := 13) (v := ?_) rfl (by kernel_rfl) (by kernel_rfl) (by kernel_rfl) (fun _ _ _ h => h) (Or.inl ⟨by rfl, ?_⟩) (by assumption) ?_
        rotate_left 1
        · intro wz hSw;  go_simp; try with_reducible rfl
        try simp only [Act.put, List.getElem_toArray, List.getElem_cons_zero, List.getElem_cons_succ, List.setIfInBounds_toArray, List.set_cons_zero, List.set_cons_succ]
        refine wpAnyH_done (by kernel_rfl) ?_ _
        go_wp2

        skip
        go_roundw
        case rel => exact ⟨k + 1, by omega, rfl, rfl, hHeld, by rw [e1, ← Nat.add_assoc]; exact hRv⟩
        case measure => simp [intOf]; omega
      · obtain rfl : k = 8 := by omega
        have gk : ¬ ((8 : Nat) : Int) < 8 := by omega
        rw [List.take_of_length_le (by omega)] at hRv
        obtain ⟨-, -, -, -, -, lm, -, -⟩ := off_tail hO bM dM h8
        go_upto_region 19 with fail
        clear lm
        go_loopw [14, 83] (fun g i wr => ∃ k : Nat, k ≤ x0.m.length ∧ g = .bool true ∧ i = .int .i64 (k : Int) ∧ Off (w3.heap.size + 1) Wp wr ∧ Oth wr (w.heap.size + 1) (w.heap.size + 1 + 1) w3.heap.size (w3.heap.size + 1) a1 a2 (cK a1 a2 x0.k + cVs a1 a2 x0.r + cVs a1 a2 (x0.m.take k))) (fun _ i _ => x0.m.length - (intOf i).toNat)
        case atStart => exact ⟨0, Nat.zero_le _, rfl, rfl, hO, hRv⟩
        case round =>
          clear hO hRv
          obtain ⟨k, hk, rfl, rfl, hO, hRv⟩ := hrel
          by_cases hlt : k < x0.m.length
          · have gk : (k : Int) < (x0.m.length : Int) := by omega
            obtain ⟨v, hv⟩ : ∃ v, x0.m[k]? = some v := ⟨_, List.getElem?_eq_getElem (by omega)⟩
            have hv2 : X.m[k]? = some (swV a1 a2 v) := by rw [HE.out.1]; show (x0.m.map _)[k]? = _; rw [List.getElem?_map, hv]; rfl
            have hok := HE.out.2.1.m v (List.mem_of_getElem? hv)
            obtain ⟨e1, e2⟩ := cVs_take (b := a1) (n := a2) hv
            have cS := fun W hR => oth_val v a1 a2 (w.heap.size + 1) (w.heap.size + 1 + 1) w3.heap.size (w3.heap.size + 1) (cK a1 a2 x0.k + cVs a1 a2 x0.r + cVs a1 a2 (x0.m.take k)) W hok hR (by omega)
            obtain ⟨B1, o1, hq1, hl1, hA7⟩ := hM.m.at hv
            obtain ⟨B2, o2, hq2, hl2, hD7⟩ := hY.m.at hv2
            have HQ1 : Hid (q0.m = some ⟨B1, o1, none⟩) := hq1
            have HQ2 : Hid (q1.m = some ⟨B2, o2, none⟩) := hq2
            clear hq1 hq2
            go_upto_region 21 with fail
            refine wp_region_held_drew (S := fun w' => Off (w3.heap.size + 1) Wp w') (by kernel_rfl) hO.drew (fun hHeld => ?_)
            replace hO := hO.drew
            replace hRv := hRv.below (below_drew _)
            refine wpAnyH_take (i := 0) (v := ?_) rfl (by kernel_rfl) (by kernel_rfl) (by kernel_rfl) (fun _ _ _ h => h) (Or.inl ⟨by rfl, ?_⟩) (by assumption) ?_
            rotate_left 1
            · intro wz hSw;  go_simp; try with_reducible rfl
            try simp only [Act.put, List.getElem_toArray, List.getElem_cons_zero, List.getElem_cons_succ, List.setIfInBounds_toArray, List.set_cons_zero, List.set_cons_succ]
            refine wpAnyH_take (i := 1) (v := ?_) rfl (by kernel_rfl) (by kernel_rfl) (by kernel_rfl) (fun _ _ _ h => h) (Or.inl ⟨by rfl, ?_⟩) (by assumption) ?_
            rotate_left 1
            · intro wz hSw;  go_simp; try with_reducible rfl
            try simp only [Act.put, List.getElem_toArray, List.getElem_cons_zero, List.getElem_cons_succ, List.setIfInBounds_toArray, List.set_cons_zero, List.set_cons_succ]
            refine wpAnyH_take (i := 2) (v := .slice (some ⟨B1, o1, none⟩) x0.m.length q0.cm) rfl (by kernel_rfl) (by kernel_rfl) (by kernel_rfl) (fun _ _ _ h => h) (Or.inl ⟨by rfl, ?_⟩) (by assumption) ?_
            · intro wz hSw;  have q := (off_tail hSw bM dM h8).lm; rw [HQ1.out] at q; go_simp
            try simp only [Act.put, List.getElem_toArray, List.getElem_cons_zero, List.getElem_cons_succ, List.setIfInBounds_toArray, List.set_cons_zero, List.set_cons_succ]
            refine wpAnyH_take (i := 3) (v := ?_) rfl (by kernel_rfl) (by kernel_rfl) (by kernel_rfl) (fun _ _ _ h => h) (Or.inl ⟨by rfl, ?_⟩) (by assumption) ?_
            rotate_left 1
            · intro wz hSw;  go_simp; try with_reducible rfl
            try simp only [Act.put, List.getElem_toArray, List.getElem_cons_zero, List.getElem_cons_succ, List.setIfInBounds_toArray, List.set_cons_zero, List.set_cons_succ]
            refine wpAnyH_take (i := 4) (v := ?_) rfl (by kernel_rfl) (by kernel_rfl) (by kernel_rfl) (fun _ _ _ h => h) (Or.inl ⟨by rfl, ?_⟩) (by assumption) ?_
            rotate_left 1
            · intro wz hSw;  go_simp; try with_reducible rfl
            try simp only [Act.put, List.getElem_toArray, List.getElem_cons_zero, List.getElem_cons_succ, List.setIfInBounds_toArray, List.set_cons_zero, List.set_cons_succ]
            refine wpAnyH_take (i := 5) (v := .agg #[.bool v.i, .int .i64 v.n, .int .i64 v.p, .int .i64 v.b, .int .i64 v.l, .int .i64 v.a, .int .i64 v.s]) rfl (by kernel_rfl) (by kernel_rfl) (by kernel_rfl) (fun _ _ _ h => h) (Or.inl ⟨by rfl, ?_⟩) (by assumption) ?_
            · intro wz hSw;  obtain ⟨u0, u1, u2, u3, u4, u5, u6⟩ := off_at7 hSw hl1 hWL hA7; go_simp
            try simp only [Act.put, List.getElem_toArray, List.getElem_cons_zero, List.getElem_cons_succ, List.setIfInBounds_toArray, List.set_cons_zero, List.set_cons_succ]
            refine wpAnyH_take (i := 6) (v := ?_) rfl (by kernel_rfl) (by kernel_rfl) (by kernel_rfl) (fun _ _ _ h => h) (Or.inl ⟨by rfl, ?_⟩) (by assumption) ?_
            rotate_left 1
            · intro wz hSw;  go_simp; try with_reducible rfl
            try simp only [Act.put, List.getElem_toArray, List.getElem_cons_zero, List.getElem_cons_succ, List.setIfInBounds_toArray, List.set_cons_zero, List.set_cons_succ]
            refine wpAnyH_take (i := 7) (v := .slice (some ⟨B2, o2, none⟩) x0.m.length q1.cm) rfl (by kernel_rfl) (by kernel_rfl) (by kernel_rfl) (fun _ _ _ h => h) (Or.inl ⟨by rfl, ?_⟩) (by assumption) ?_
            · intro wz hSw;  have q := (off_tail hSw bX dX x8).lm; rw [HQ2.out, xm] at q; go_simp
            try simp only [Act.put, List.getElem_toArray, List.getElem_cons_zero, List.getElem_cons_succ, List.setIfInBounds_toArray, List.set_cons_zero, List.set_cons_succ]
            refine wpAnyH_take (i := 8) (v := ?_) rfl (by kernel_rfl) (by kernel_rfl) (by kernel_rfl) (fun _ _ _ h => h) (Or.inl ⟨by rfl, ?_⟩) (by assumption) ?_
            rotate_left 1
            · intro wz hSw;  go_simp; try with_reducible rfl
            try simp only [Act.put, List.getElem_toArray, List.getElem_cons_zero, List.getElem_cons_succ, List.setIfInBounds_toArray, List.set_cons_zero, List.set_cons_succ]
            refine wpAnyH_take (i := 9) (v := ?_) rfl (by kernel_rfl) (by kernel_rfl) (by kernel_rfl) (fun _ _ _ h => h) (Or.inl ⟨by rfl, ?_⟩) (by assumption) ?_
            rotate_left 1
            · intro wz hSw;  go_simp; try with_reducible rfl
            try simp only [Act.put, List.getElem_toArray, List.getElem_cons_zero, List.getElem_cons_succ, List.setIfInBounds_toArray, List.set_cons_zero, List.set_cons_succ]
            refine wpAnyH_take (i := 10) (v := .agg #[.bool (swV a1 a2 v).i, .int .i64 (swV a1 a2 v).n, .int .i64 (swV a1 a2 v).p, .int .i64 (swV a1 a2 v).b, .int .i64 (swV a1 a2 v).l, .int .i64 (swV a1 a2 v).a, .int .i64 (swV a1 a2 v).s]) rfl (by kernel_rfl) (by kernel_rfl) (by kernel_rfl) (fun _ _ _ h => h) (Or.inl ⟨by rfl, ?_⟩) (by assumption) ?_
            · intro wz hSw;  obtain ⟨u0, u1, u2, u3, u4, u5, u6⟩ := off_at7 hSw hl2 hWL hD7; go_simp
            try simp only [Act.put, List.getElem_toArray, List.getElem_cons_zero, List.getElem_cons_succ, List.setIfInBounds_toArray, List.set_cons_zero, List.set_cons_succ]
            refine wpAnyH_ready (rs := [11]) (by kernel_rfl) (by simp) (AllReadyH.cons rfl (fun K hK => ?_) AllReadyH.nil)
            go_simp
            go_at_call 14
            refine (cS _ hRv).mono ?_
            rintro e w9 ⟨rfl, hOv, hRw⟩
            clear hRv
            have hRv := hRw
            clear hRw
            replace hO := hO.trans hOv
            refine hK.out _ _ hO (fun hHeld => ?_)
            clear hK K hOv
            try simp only [Act.put, List.getElem_toArray, List.getElem_cons_zero, List.getElem_cons_succ, List.setIfInBounds_toArray, List.set_cons_zero, List.set_cons_succ]
            refine wpAnyH_take (i := 12) (v := ?_) rfl (by kernel_rfl) (by kernel_rfl) (by kernel_rfl) (fun _ _ _ h => h) (Or.inl ⟨by rfl, ?_⟩) (by assumption) ?_
            rotate_left 1
            · intro wz hSw;  go_simp; try with_reducible rfl
            try simp only [Act.put, List.getElem_toArray, List.getElem_cons_zero, List.getElem_cons_succ, List.setIfInBounds_toArray, List.set_cons_zero, List.set_cons_succ]
            refine wpAnyH_take (i := 13) (v := ?_) rfl (by kernel_rfl) (by kernel_rfl) (by kernel_rfl) (fun _ _ _ h => h) (Or.inl ⟨by rfl, ?_⟩) (by assumption) ?_
            rotate_left 1
            · intro wz hSw;  go_simp; try with_reducible rfl
            try simp only [Act.put, List.getElem_toArray, List.getElem_cons_zero, List.getElem_cons_succ, List.setIfInBounds_toArray, List.set_cons_zero, List.set_cons_succ]
            refine wpAnyH_take (i := 14) (v := ?_) rfl (by kernel_rfl) (by kernel_rfl) (by kernel_rfl) (fun _ _ _ h => h) (Or.inl ⟨by rfl, ?_⟩) (by assumption) ?_
            rotate_left 1
            · intro wz hSw;  go_simp; try with_reducible rfl
            try simp only [Act.put, List.getElem_toArray, List.getElem_cons_zero, List.getElem_cons_succ, List.setIfInBounds_toArray, List.set_cons_zero, List.set_cons_succ]
            refine wpAnyH_take (i := 15) (v := ?_) rfl (by kernel_rfl) (by kernel_rfl) (by kernel_rfl) (fun _ _ _ h => h) (Or.inl ⟨by rfl, ?_⟩) (by assumption) ?_
            rotate_left 1
            · intro wz hSw;  go_simp; try with_reducible rfl
            try simp only [Act.put, List.getElem_toArray, List.getElem_cons_zero, List.getElem_cons_succ, List.setIfInBounds_toArray, List.set_cons_zero, List.set_cons_succ]
            refine wpAnyH_done (by kernel_rfl) ?_ _
            go_wp2

            skip
            go_roundw
            case rel => exact ⟨k + 1, by omega, rfl, rfl, hHeld, by rw [e1, ← Nat.add_assoc]; exact hRv⟩
            case measure => simp [intOf]; omega
          · obtain rfl : k = x0.m.length := by omega
            have gk : ¬ (x0.m.length : Int) < (x0.m.length : Int) := by omega
            rw [List.take_of_length_le (by omega)] at hRv
            obtain ⟨-, -, -, -, -, -, ls, -⟩ := off_tail hO bM dM h8
            go_upto_region 24 with fail
            clear ls
            go_loopw [14, 105] (fun g i wr => ∃ k : Nat, k ≤ x0.s.length ∧ g = .bool true ∧ i = .int .i64 (k : Int) ∧ Off (w3.heap.size + 1) Wp wr ∧ Oth wr (w.heap.size + 1) (w.heap.size + 1 + 1) w3.heap.size (w3.heap.size + 1) a1 a2 (cK a1 a2 x0.k + cVs a1 a2 x0.r + cVs a1 a2 x0.m + cFs a1 a2 (x0.s.take k))) (fun _ i _ => x0.s.length - (intOf i).toNat)
            case atStart => exact ⟨0, Nat.zero_le _, rfl, rfl, hO, hRv⟩
            case round =>
              clear hO hRv
              obtain ⟨k, hk, rfl, rfl, hO, hRv⟩ := hrel
              by_cases hlt : k < x0.s.length
              · have gk : (k : Int) < (x0.s.length : Int) := by omega
                obtain ⟨v, hv⟩ : ∃ v, x0.s[k]? = some v := ⟨_, List.getElem?_eq_getElem (by omega)⟩
                have hv2 : X.s[k]? = some (swF a1 a2 v) := by rw [HE.out.1]; show (x0.s.map _)[k]? = _; rw [List.getElem?_map, hv]; rfl
                have hok := HE.out.2.1.s v (List.mem_of_getElem? hv)
                obtain ⟨e1, e2⟩ := cFs_take (b := a1) (n := a2) hv
                have cS := fun W hR => oth_code v.c a1 a2 (w.heap.size + 1) (w.heap.size + 1 + 1) w3.heap.size (w3.heap.size + 1) (cK a1 a2 x0.k + cVs a1 a2 x0.r + cVs a1 a2 x0.m + cFs a1 a2 (x0.s.take k)) W hok.1 hR (by omega)
                have e3 : cF a1 a2 v = cK a1 a2 v.c + cV a1 a2 v.d := rfl
                have cT := fun W hR => oth_val v.d a1 a2 (w.heap.size + 1) (w.heap.size + 1 + 1) w3.heap.size (w3.heap.size + 1) (cK a1 a2 x0.k + cVs a1 a2 x0.r + cVs a1 a2 x0.m + cFs a1 a2 (x0.s.take k) + cK a1 a2 v.c) W hok.2 hR (by omega)
                obtain ⟨B1, o1, hq1, hl1, hA12⟩ := hM.s.at hv
                obtain ⟨B2, o2, hq2, hl2, hD12⟩ := hY.s.at (f := ⟨swK a1 a2 v.c, swV a1 a2 v.d⟩) hv2
                have HQ1 : Hid (q0.s = some ⟨B1, o1, none⟩) := hq1
                have HQ2 : Hid (q1.s = some ⟨B2, o2, none⟩) := hq2
                clear hq1 hq2
                go_upto_region 26 with fail
                refine wp_region_held_drew (S := fun w' => Off (w3.heap.size + 1) Wp w') (by kernel_rfl) hO.drew (fun hHeld => ?_)
                replace hO := hO.drew
                replace hRv := hRv.below (below_drew _)
                refine wpAnyH_take (i := 0) (v := ?_) rfl (by kernel_rfl) (by kernel_rfl) (by kernel_rfl) (fun _ _ _ h => h) (Or.inl ⟨by rfl, ?_⟩) (by assumption) ?_
                rotate_left 1
                · intro wz hSw;  go_simp; try with_reducible rfl
                try simp only [Act.put, List.getElem_toArray, List.getElem_cons_zero, List.getElem_cons_succ, List.setIfInBounds_toArray, List.set_cons_zero, List.set_cons_succ]
                refine wpAnyH_take (i := 1) (v := ?_) rfl (by kernel_rfl) (by kernel_rfl) (by kernel_rfl) (fun _ _ _ h => h) (Or.inl ⟨by rfl, ?_⟩) (by assumption) ?_
                rotate_left 1
                · intro wz hSw;  go_simp; try with_reducible rfl
                try simp only [Act.put, List.getElem_toArray, List.getElem_cons_zero, List.getElem_cons_succ, List.setIfInBounds_toArray, List.set_cons_zero, List.set_cons_succ]
                refine wpAnyH_take (i := 2) (v := .slice (some ⟨B1, o1, none⟩) x0.s.length q0.cs) rfl (by kernel_rfl) (by kernel_rfl) (by kernel_rfl) (fun _ _ _ h => h) (Or.inl ⟨by rfl, ?_⟩) (by assumption) ?_
                · intro wz hSw;  have q := (off_tail hSw bM dM h8).ls; rw [HQ1.out] at q; go_simp
                try simp only [Act.put, List.getElem_toArray, List.getElem_cons_zero, List.getElem_cons_succ, List.setIfInBounds_toArray, List.set_cons_zero, List.set_cons_succ]
                refine wpAnyH_take (i := 3) (v := ?_) rfl (by kernel_rfl) (by kernel_rfl) (by kernel_rfl) (fun _ _ _ h => h) (Or.inl ⟨by rfl, ?_⟩) (by assumption) ?_
                rotate_left 1
                · intro wz hSw;  go_simp; try with_reducible rfl
                try simp only [Act.put, List.getElem_toArray, List.getElem_cons_zero, List.getElem_cons_succ, List.setIfInBounds_toArray, List.set_cons_zero, List.set_cons_succ]
                refine wpAnyH_take (i := 4) (v := ?_) rfl (by kernel_rfl) (by kernel_rfl) (by kernel_rfl) (fun _ _ _ h => h) (Or.inl ⟨by rfl, ?_⟩) (by assumption) ?_
                rotate_left 1
                · intro wz hSw;  go_simp; try with_reducible rfl
                try simp only [Act.put, List.getElem_toArray, List.getElem_cons_zero, List.getElem_cons_succ, List.setIfInBounds_toArray, List.set_cons_zero, List.set_cons_succ]
                refine wpAnyH_take (i := 5) (v := ?_) rfl (by kernel_rfl) (by kernel_rfl) (by kernel_rfl) (fun _ _ _ h => h) (Or.inl ⟨by rfl, ?_⟩) (by assumption) ?_
                rotate_left 1
                · intro wz hSw;  go_simp; try with_reducible rfl
                try simp only [Act.put, List.getElem_toArray, List.getElem_cons_zero, List.getElem_cons_succ, List.setIfInBounds_toArray, List.set_cons_zero, List.set_cons_succ]
                refine wpAnyH_take (i := 6) (v := .agg #[.int .i64 v.c.p, .int .i64 v.c.b, .int .i64 v.c.l, .int .i64 v.c.a, .int .i64 v.c.s]) rfl (by kernel_rfl) (by kernel_rfl) (by kernel_rfl) (fun _ _ _ h => h) (Or.inl ⟨by rfl, ?_⟩) (by assumption) ?_
                · intro wz hSw;  obtain ⟨u0, u1, u2, u3, u4, u5, u6, u7, u8, u9, u10, u11⟩ := off_at12 hSw hl1 hWL hA12; go_simp
                try simp only [Act.put, List.getElem_toArray, List.getElem_cons_zero, List.getElem_cons_succ, List.setIfInBounds_toArray, List.set_cons_zero, List.set_cons_succ]
                refine wpAnyH_take (i := 7) (v := ?_) rfl (by kernel_rfl) (by kernel_rfl) (by kernel_rfl) (fun _ _ _ h => h) (Or.inl ⟨by rfl, ?_⟩) (by assumption) ?_
                rotate_left 1
                · intro wz hSw;  go_simp; try with_reducible rfl
                try simp only [Act.put, List.getElem_toArray, List.getElem_cons_zero, List.getElem_cons_succ, List.setIfInBounds_toArray, List.set_cons_zero, List.set_cons_succ]
                refine wpAnyH_take (i := 8) (v := .slice (some ⟨B2, o2, none⟩) x0.s.length q1.cs) rfl (by kernel_rfl) (by kernel_rfl) (by kernel_rfl) (fun _ _ _ h => h) (Or.inl ⟨by rfl, ?_⟩) (by assumption) ?_
                · intro wz hSw;  have q := (off_tail hSw bX dX x8).ls; rw [HQ2.out, xs] at q; go_simp
                try simp only [Act.put, List.getElem_toArray, List.getElem_cons_zero, List.getElem_cons_succ, List.setIfInBounds_toArray, List.set_cons_zero, List.set_cons_succ]
                refine wpAnyH_take (i := 9) (v := ?_) rfl (by kernel_rfl) (by kernel_rfl) (by kernel_rfl) (fun _ _ _ h => h) (Or.inl ⟨by rfl, ?_⟩) (by assumption) ?_
                rotate_left 1
                · intro wz hSw;  go_simp; try with_reducible rfl
                try simp only [Act.put, List.getElem_toArray, List.getElem_cons_zero, List.getElem_cons_succ, List.setIfInBounds_toArray, List.set_cons_zero, List.set_cons_succ]
                refine wpAnyH_take (i := 10) (v := ?_) rfl (by kernel_rfl) (by kernel_rfl) (by kernel_rfl) (fun _ _ _ h => h) (Or.inl ⟨by rfl, ?_⟩) (by assumption) ?_
                rotate_left 1
                · intro wz hSw;  go_simp; try with_reducible rfl
                try simp only [Act.put, List.getElem_toArray, List.getElem_cons_zero, List.getElem_cons_succ, List.setIfInBounds_toArray, List.set_cons_zero, List.set_cons_succ]
                refine wpAnyH_take (i := 11) (v := ?_) rfl (by kernel_rfl) (by kernel_rfl) (by kernel_rfl) (fun _ _ _ h => h) (Or.inl ⟨by rfl, ?_⟩) (by assumption) ?_
                rotate_left 1
                · intro wz hSw;  go_simp; try with_reducible rfl
                try simp only [Act.put, List.getElem_toArray, List.getElem_cons_zero, List.getElem_cons_succ, List.setIfInBounds_toArray, List.set_cons_zero, List.set_cons_succ]
                refine wpAnyH_take (i := 12) (v := .agg #[.int .i64 (swK a1 a2 v.c).p, .int .i64 (swK a1 a2 v.c).b, .int .i64 (swK a1 a2 v.c).l, .int .i64 (swK a1 a2 v.c).a, .int .i64 (swK a1 a2 v.c).s]) rfl (by kernel_rfl) (by kernel_rfl) (by kernel_rfl) (fun _ _ _ h => h) (Or.inl ⟨by rfl, ?_⟩) (by assumption) ?_
                · intro wz hSw;  obtain ⟨u0, u1, u2, u3, u4, u5, u6, u7, u8, u9, u10, u11⟩ := off_at12 hSw hl2 hWL hD12; dsimp only at u0 u1 u2 u3 u4 u5 u6 u7 u8 u9 u10 u11; go_simp
                try simp only [Act.put, List.getElem_toArray, List.getElem_cons_zero, List.getElem_cons_succ, List.setIfInBounds_toArray, List.set_cons_zero, List.set_cons_succ]
                refine wpAnyH_ready (rs := [13]) (by kernel_rfl) (by simp) (AllReadyH.cons rfl (fun K hK => ?_) AllReadyH.nil)
                go_simp
                go_at_call 16
                refine (cS _ hRv).mono ?_
                rintro e w9 ⟨rfl, hOv, hRw⟩
                clear hRv
                have hRv := hRw
                clear hRw
                replace hO := hO.trans hOv
                refine hK.out _ _ hO (fun hHeld => ?_)
                clear hK K hOv
                try simp only [Act.put, List.getElem_toArray, List.getElem_cons_zero, List.getElem_cons_succ, List.setIfInBounds_toArray, List.set_cons_zero, List.set_cons_succ]
                refine wpAnyH_take (i := 14) (v := ?_) rfl (by kernel_rfl) (by kernel_rfl) (by kernel_rfl) (fun _ _ _ h => h) (Or.inl ⟨by rfl, ?_⟩) (by assumption) ?_
                rotate_left 1
                · intro wz hSw;  go_simp; try with_reducible rfl
                try simp only [Act.put, List.getElem_toArray, List.getElem_cons_zero, List.getElem_cons_succ, List.setIfInBounds_toArray, List.set_cons_zero, List.set_cons_succ]
                refine wpAnyH_take (i := 15) (v := ?_) rfl (by kernel_rfl) (by kernel_rfl) (by kernel_rfl) (fun _ _ _ h => h) (Or.inl ⟨by rfl, ?_⟩) (by assumption) ?_
                rotate_left 1
                · intro wz hSw;  go_simp; try with_reducible rfl
                try simp only [Act.put, List.getElem_toArray, List.getElem_cons_zero, List.getElem_cons_succ, List.setIfInBounds_toArray, List.set_cons_zero, List.set_cons_succ]
                refine wpAnyH_take (i := 16) (v := ?_) rfl (by kernel_rfl) (by kernel_rfl) (by kernel_rfl) (fun _ _ _ h => h) (Or.inl ⟨by rfl, ?_⟩) (by assumption) ?_
                rotate_left 1
                · intro wz hSw;  go_simp; try with_reducible rfl
                try simp only [Act.put, List.getElem_toArray, List.getElem_cons_zero, List.getElem_cons_succ, List.setIfInBounds_toArray, List.set_cons_zero, List.set_cons_succ]
                refine wpAnyH_take (i := 17) (v := .slice (some ⟨B1, o1, none⟩) x0.s.length q0.cs) rfl (by kernel_rfl) (by kernel_rfl) (by kernel_rfl) (fun _ _ _ h => h) (Or.inl ⟨by rfl, ?_⟩) (by assumption) ?_
                · intro wz hSw;  have q := (off_tail hSw bM dM h8).ls; rw [HQ1.out] at q; go_simp
                try simp only [Act.put, List.getElem_toArray, List.getElem_cons_zero, List.getElem_cons_succ, List.setIfInBounds_toArray, List.set_cons_zero, List.set_cons_succ]
                refine wpAnyH_take (i := 18) (v := ?_) rfl (by kernel_rfl) (by kernel_rfl) (by kernel_rfl) (fun _ _ _ h => h) (Or.inl ⟨by rfl, ?_⟩) (by assumption) ?_
                rotate_left 1
                · intro wz hSw;  go_simp; try with_reducible rfl
                try simp only [Act.put, List.getElem_toArray, List.getElem_cons_zero, List.getElem_cons_succ, List.setIfInBounds_toArray, List.set_cons_zero, List.set_cons_succ]
                refine wpAnyH_take (i := 19) (v := ?_) rfl (by kernel_rfl) (by kernel_rfl) (by kernel_rfl) (fun _ _ _ h => h) (Or.inl ⟨by rfl, ?_⟩) (by assumption) ?_
                rotate_left 1
                · intro wz hSw;  go_simp; try with_reducible rfl
                try simp only [Act.put, List.getElem_toArray, List.getElem_cons_zero, List.getElem_cons_succ, List.setIfInBounds_toArray, List.set_cons_zero, List.set_cons_succ]
                refine wpAnyH_take (i := 20) (v := ?_) rfl (by kernel_rfl) (by kernel_rfl) (by kernel_rfl) (fun _ _ _ h => h) (Or.inl ⟨by rfl, ?_⟩) (by assumption) ?_
                rotate_left 1
                · intro wz hSw;  go_simp; try with_reducible rfl
                try simp only [Act.put, List.getElem_toArray, List.getElem_cons_zero, List.getElem_cons_succ, List.setIfInBounds_toArray, List.set_cons_zero, List.set_cons_succ]
                refine wpAnyH_take (i := 21) (v := .agg #[.bool v.d.i, .int .i64 v.d.n, .int .i64 v.d.p, .int .i64 v.d.b, .int .i64 v.d.l, .int .i64 v.d.a, .int .i64 v.d.s]) rfl (by kernel_rfl) (by kernel_rfl) (by kernel_rfl) (fun _ _ _ h => h) (Or.inl ⟨by rfl, ?_⟩) (by assumption) ?_
                · intro wz hSw;  obtain ⟨u0, u1, u2, u3, u4, u5, u6, u7, u8, u9, u10, u11⟩ := off_at12 hSw hl1 hWL hA12; go_simp
                try simp only [Act.put, List.getElem_toArray, List.getElem_cons_zero, List.getElem_cons_succ, List.setIfInBounds_toArray, List.set_cons_zero, List.set_cons_succ]
                refine wpAnyH_take (i := 22) (v := ?_) rfl (by kernel_rfl) (by kernel_rfl) (by kernel_rfl) (fun _ _ _ h => h) (Or.inl ⟨by rfl, ?_⟩) (by assumption) ?_
                rotate_left 1
                · intro wz hSw;  go_simp; try with_reducible rfl
                try simp only [Act.put, List.getElem_toArray, List.getElem_cons_zero, List.getElem_cons_succ, List.setIfInBounds_toArray, List.set_cons_zero, List.set_cons_succ]
                refine wpAnyH_take (i := 23) (v := .slice (some ⟨B2, o2, none⟩) x0.s.length q1.cs) rfl (by kernel_rfl) (by kernel_rfl) (by kernel_rfl) (fun _ _ _ h => h) (Or.inl ⟨by rfl, ?_⟩) (by assumption) ?_
                · intro wz hSw;  have q := (off_tail hSw bX dX x8).ls; rw [HQ2.out, xs] at q; go_simp
                try simp only [Act.put, List.getElem_toArray, List.getElem_cons_zero, List.getElem_cons_succ, List.setIfInBounds_toArray, List.set_cons_zero, List.set_cons_succ]
                refine wpAnyH_take (i := 24) (v := ?_) rfl (by kernel_rfl) (by kernel_rfl) (by kernel_rfl) (fun _ _ _ h => h) (Or.inl ⟨by rfl, ?_⟩) (by assumption) ?_
                rotate_left 1
                · intro wz hSw;  go_simp; try with_reducible rfl
                try simp only [Act.put, List.getElem_toArray, List.getElem_cons_zero, List.getElem_cons_succ, List.setIfInBounds_toArray, List.set_cons_zero, List.set_cons_succ]
                refine wpAnyH_take (i := 25) (v := ?_) rfl (by kernel_rfl) (by kernel_rfl) (by kernel_rfl) (fun _ _ _ h => h) (Or.inl ⟨by rfl, ?_⟩) (by assumption) ?_
                rotate_left 1
                · intro wz hSw;  go_simp; try with_reducible rfl
                try simp only [Act.put, List.getElem_toArray, List.getElem_cons_zero, List.getElem_cons_succ, List.setIfInBounds_toArray, List.set_cons_zero, List.set_cons_succ]
                refine wpAnyH_take (i := 26) (v := ?_) rfl (by kernel_rfl) (by kernel_rfl) (by kernel_rfl) (fun _ _ _ h => h) (Or.inl ⟨by rfl, ?_⟩) (by assumption) ?_
                rotate_left 1
                · intro wz hSw;  go_simp; try with_reducible rfl
                try simp only [Act.put, List.getElem_toArray, List.getElem_cons_zero, List.getElem_cons_succ, List.setIfInBounds_toArray, List.set_cons_zero, List.set_cons_succ]
                refine wpAnyH_take (i := 27) (v := .agg #[.bool (swV a1 a2 v.d).i, .int .i64 (swV a1 a2 v.d).n, .int .i64 (swV a1 a2 v.d).p, .int .i64 (swV a1 a2 v.d).b, .int .i64 (swV a1 a2 v.d).l, .int .i64 (swV a1 a2 v.d).a, .int .i64 (swV a1 a2 v.d).s]) rfl (by kernel_rfl) (by kernel_rfl) (by kernel_rfl) (fun _ _ _ h => h) (Or.inl ⟨by rfl, ?_⟩) (by assumption) ?_
                · intro wz hSw;  obtain ⟨u0, u1, u2, u3, u4, u5, u6, u7, u8, u9, u10, u11⟩ := off_at12 hSw hl2 hWL hD12; dsimp only at u0 u1 u2 u3 u4 u5 u6 u7 u8 u9 u10 u11; go_simp
                try simp only [Act.put, List.getElem_toArray, List.getElem_cons_zero, List.getElem_cons_succ, List.setIfInBounds_toArray, List.set_cons_zero, List.set_cons_succ]
                refine wpAnyH_ready (rs := [28]) (by kernel_rfl) (by simp) (AllReadyH.cons rfl (fun K hK => ?_) AllReadyH.nil)
                go_simp
                go_at_call 14
                refine (cT _ hRv).mono ?_
                rintro e wA ⟨rfl, hOv, hRw⟩
                clear hRv
                have hRv := hRw
                clear hRw
                replace hO := hO.trans hOv
                refine hK.out _ _ hO (fun hHeld => ?_)
                clear hK K hOv
                try simp only [Act.put, List.getElem_toArray, List.getElem_cons_zero, List.getElem_cons_succ, List.setIfInBounds_toArray, List.set_cons_zero, List.set_cons_succ]
                refine wpAnyH_take (i := 29) (v := ?_) rfl (by kernel_rfl) (by kernel_rfl) (by kernel_rfl) (fun _ _ _ h => h) (Or.inl ⟨by rfl, ?_⟩) (by assumption) ?_
                rotate_left 1
                · intro wz hSw;  go_simp; try with_reducible rfl
                try simp only [Act.put, List.getElem_toArray, List.getElem_cons_zero, List.getElem_cons_succ, List.setIfInBounds_toArray, List.set_cons_zero, List.set_cons_succ]
                refine wpAnyH_take (i := 30) (v := ?_) rfl (by kernel_rfl) (by kernel_rfl) (by kernel_rfl) (fun _ _ _ h => h) (Or.inl ⟨by rfl, ?_⟩) (by assumption) ?_
                rotate_left 1
                · intro wz hSw;  go_simp; try with_reducible rfl
                try simp only [Act.put, List.getElem_toArray, List.getElem_cons_zero, List.getElem_cons_succ, List.setIfInBounds_toArray, List.set_cons_zero, List.set_cons_succ]
                refine wpAnyH_take (i := 31) (v := ?_) rfl (by kernel_rfl) (by kernel_rfl) (by kernel_rfl) (fun _ _ _ h => h) (Or.inl ⟨by rfl, ?_⟩) (by assumption) ?_
                rotate_left 1
                · intro wz hSw;  go_simp; try with_reducible rfl
                try simp only [Act.put, List.getElem_toArray, List.getElem_cons_zero, List.getElem_cons_succ, List.setIfInBounds_toArray, List.set_cons_zero, List.set_cons_succ]
                refine wpAnyH_take (i := 32) (v := ?_) rfl (by kernel_rfl) (by kernel_rfl) (by kernel_rfl) (fun _ _ _ h => h) (Or.inl ⟨by rfl, ?_⟩) (by assumption) ?_
                rotate_left 1
                · intro wz hSw;  go_simp; try with_reducible rfl
                try simp only [Act.put, List.getElem_toArray, List.getElem_cons_zero, List.getElem_cons_succ, List.setIfInBounds_toArray, List.set_cons_zero, List.set_cons_succ]
                refine wpAnyH_take (i := 33) (v := ?_) rfl (by kernel_rfl) (by kernel_rfl) (by kernel_rfl) (fun _ _ _ h => h) (Or.inl ⟨by rfl, ?_⟩) (by assumption) ?_
                rotate_left 1
                · intro wz hSw;  go_simp; try with_reducible rfl
                try simp only [Act.put, List.getElem_toArray, List.getElem_cons_zero, List.getElem_cons_succ, List.setIfInBounds_toArray, List.set_cons_zero, List.set_cons_succ]
                refine wpAnyH_done (by kernel_rfl) ?_ _
                go_wp2

                skip
                go_roundw
                case rel => exact ⟨k + 1, by omega, rfl, rfl, hHeld, by rw [e1, e3, ← Nat.add_assoc, ← Nat.add_assoc]; exact hRv⟩
                case measure => simp [intOf]; omega
              · obtain rfl : k = x0.s.length := by omega
                have gk : ¬ (x0.s.length : Int) < (x0.s.length : Int) := by omega
                rw [List.take_of_length_le (by omega)] at hRv
                have e9 : cK a1 a2 x0.k + cVs a1 a2 x0.r + cVs a1 a2 x0.m + cFs a1 a2 x0.s = cc := by rw [← HC.out]; unfold cM; omega
                have qc : wr.cell? ⟨(w3.heap.size + 1), 0, none⟩ = some (.int .i64 (cc : Int)) := by rw [hRv.cc.cell, ← e9]; rfl
                have HO := hO
                have hfin : Below w.heap.size w wr := hB.trans (hO.to (by omega) (by omega)) 
                clear hRv hO
                go_wp2
                go_ret
                exact ⟨rfl, hfin⟩

set_option maxRecDepth 100000 in
theorem lifted (os : Os) (started : os.Started) (H : Type) (enc : TypeId × Value → H) :
    ReturnsInHanded {} Try.checked os 6 .any (Rows.sweepOthersSpec.pre6 enc Try.prog Try.f6 Rows.sweepOthersRow.domain false) (Rows.sweepOthersSpec.post enc Try.prog Try.f6 false true false false) := by
  refine returnsInHanded_of_change (C := Try.checked) own started (by kernel_rfl) Try.func6
    (ChangeSpec.witness6 (enc := enc) (C := Try.checked) false ⟨#[], #[.agg #[.bool false, .int .i64 0, .int .i64 0, .int .i64 0, .int .i64 0, .int .i64 0, .int .i64 0, .bool false, .int .i64 0, .int .i64 0, .int .i64 0, .int .i64 0, .int .i64 0, .int .i64 0, .bool false, .int .i64 0, .int .i64 0, .int .i64 0, .int .i64 0, .int .i64 0, .int .i64 0, .bool false, .int .i64 0, .int .i64 0, .int .i64 0, .int .i64 0, .int .i64 0, .int .i64 0, .bool false, .int .i64 0, .int .i64 0, .int .i64 0, .int .i64 0, .int .i64 0, .int .i64 0, .bool false, .int .i64 0, .int .i64 0, .int .i64 0, .int .i64 0, .int .i64 0, .int .i64 0, .bool false, .int .i64 0, .int .i64 0, .int .i64 0, .int .i64 0, .int .i64 0, .int .i64 0, .bool false, .int .i64 0, .int .i64 0, .int .i64 0, .int .i64 0, .int .i64 0, .int .i64 0, .int .i64 0, .int .i64 0, .int .i64 0, .int .i64 0, .int .i64 0, .slice none 0 0, .slice none 0 0, .slice none 0 0], .int .i64 0, .int .i64 0], []⟩ 8 (by kernel_rfl) (by kernel_rfl) (by kernel_rfl) (by kernel_rfl)) ?_
  intro W base args ds gs before hval0 hW hcnd _
  have hval : ∀ (j : Nat) t v, Try.f6.params[j]? = some t → args[j]? = some v → Value.okWide Try.prog W .any base t v := hval0
  have hW' := hW
  obtain ⟨p, q, hA0, hV, rfl, hfz, hnd⟩ := hW
  have hA : DataW.TrodAll enc Try.prog W 0 (fun _ => true) true Try.f6.params.toList args.toList ds p := hA0
  rw [Try.params6] at hA hval
  obtain ⟨v0, vs0, d0, ds0, p0, q0, hargs, rfl, rfl, h0, r0⟩ := trodAll_cons hA
  obtain ⟨v1, vs1, d1, ds1, p1, q1, rfl, rfl, rfl, h1, r1⟩ := trodAll_cons r0
  obtain ⟨v2, vs2, d2, ds2, p2, q2, rfl, rfl, rfl, h2, r2⟩ := trodAll_cons r1
  obtain ⟨rfl, rfl, rfl⟩ := trodAll_nil r2
  obtain rfl : args = #[v0, v1, v2] := by cases args; simp_all
  obtain ⟨rfl, rfl⟩ := trodVars_none hV
  have k0 := h0
  have lt0 : ∀ x ∈ p0, x.block < W.heap.size := by obtain ⟨m, hm⟩ := k0; exact DataW.trod_lt m _ _ _ hm
  obtain ⟨x0, q0, rfl, O0, A0⟩ := open_mach (hval 0 31 v0 rfl rfl) k0
  obtain ⟨a1, rfl, rfl, rfl, w1⟩ := open_int Try.underlying3 (hval 1 3 v1 rfl rfl) h1
  obtain ⟨a2, rfl, rfl, rfl, w2⟩ := open_int Try.underlying3 (hval 2 3 v2 rfl rfl) h2
  clear hA0 hval0
  refine (walk x0 q0 a1 a2 O0 (bounds_i64 w1) (bounds_i64 w2) W A0).mono fun e W' ⟨he, bel⟩ => ?_
  subst he
  exact ⟨_, rfl, _, _, _, [], _, [], hW', trodAll_mk1 (shut_bool Try.underlying4 _), (trodAll_cons_mk (Below.trod laidOut (by kernel_rfl) (of_decide_eq_true (by kernel_rfl)) k0 bel lt0) (trodAll_cons_mk (shut_int Try.underlying3 w1) (trodAll_cons_mk (shut_int Try.underlying3 w2) trodAll_mk0))), rfl, bel.frame _, fun h => by cases h⟩

theorem over : Rows.sweepOthersRow.holds Try.pinned (OpenSpec.ofChange Rows.sweepOthersSpec) :=
  OpenClaim.holds_of_wide 6 Try.f6 rfl rfl rfl rfl rfl rfl rfl ⟨rfl, rfl, rfl, rfl, rfl⟩ rfl rfl rfl rfl rfl (by kernel_rfl) Try.func6 (by kernel_rfl)
    (of_decide_eq_true (by kernel_rfl)) (by unfold Func.isWrapper; first | (rw [if_pos (by decide +kernel)]; kernel_rfl) | (rw [if_neg (by decide +kernel)]; exact ⟨rfl, rfl⟩))
    (fun os started H enc _ => lifted os started H enc)

theorem proved : Rows.SweepOthersSaid :=
  over
#print axioms proved
end Go.Proofs.Ythijebhhbflclaa.sweepOthers
