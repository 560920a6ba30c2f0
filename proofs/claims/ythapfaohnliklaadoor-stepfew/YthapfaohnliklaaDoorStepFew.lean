/- Chapter 9, P19 to P22: a step changes one cell at most, by a key that allows it, and one register, but by Clear, and tells one number at most; for every machine. -/
import Derived.Test.YthapfaohnliklaaDoorRows
import Derived.Test.YthapfaohnliklaaDoorCards
import Derived.Test.YthapfaohnliklaaDoorTie
import Derived.Test.YthapfaohnliklaaDoorCardBase
import Derived.Test.YthapfaohnliklaaDoorInstShape
import Derived.Test.YthapfaohnliklaaDoorInstLaid
import Derived.Test.YthapfaohnliklaaDoorMachArg
import Derived.Carry
import Derived.Test.YthapfaohnliklaaDoorKeyPure
import Derived.Test.YthapfaohnliklaaDoorMachArg
import Derived.Test.YthapfaohnliklaaDoorStepOff
import Derived.Test.YthapfaohnliklaaDoorStepOwn
import Derived.Test.YthapfaohnliklaaDoorStepTop
import Derived.Test.YthapfaohnliklaaDoorStepKeep
import Derived.Test.YthapfaohnliklaaDoorRangeW
import Derived.Test.YthapfaohnliklaaDoorInMid
import Derived.Test.YthapfaohnliklaaDoorKeepSmall
import Derived.Test.YthapfaohnliklaaDoorKeepOp
import Derived.Test.YthapfaohnliklaaDoorNum
import Derived.Test.YthapfaohnliklaaDoorKeyCov
import Derived.Test.YthapfaohnliklaaDoorRunPlain
import Derived.Test.YthapfaohnliklaaDoorRunBase
import Derived.Test.YthapfaohnliklaaDoorStepChk2
import Derived.Test.YthapfaohnliklaaDoorStepMid
import Derived.Test.YthapfaohnliklaaDoorMachPut
import Derived.Test.YthapfaohnliklaaDoorStepFewP
import Derived.Test.YthapfaohnliklaaDoorValArg
import Derived.Deep.RegionHeld3
import Derived.WalkKit
import Derived.ProofKit
import Derived.OpenShut
import Derived.Deep.DeepHandedRow
import Derived.Deep.DeepWitnessRowRef
import Derived.Lay
import Derived.MakeChecks
import Derived.SizedLaws
import Derived.Lib.LaidTab
namespace Go.Proofs.YthapfaohnliklaaDoor.stepFew
open Go.ChangeShapes Go.WideShapes Go.ChangeAt Go.RowKit
set_option linter.unusedVariables false
set_option linter.unusedSimpArgs false

theorem own : ownKnob Tryd.prog.godebug = none := by kernel_rfl
theorem laidOut : laidOutB Tryd.prog = true := by kernel_rfl
def witM : Value := .agg #[.bool false, .int .i64 0, .int .i64 0, .int .i64 0, .int .i64 0, .int .i64 0, .int .i64 0, .bool false, .int .i64 0, .int .i64 0, .int .i64 0, .int .i64 0, .int .i64 0, .int .i64 0, .bool false, .int .i64 0, .int .i64 0, .int .i64 0, .int .i64 0, .int .i64 0, .int .i64 0, .bool false, .int .i64 0, .int .i64 0, .int .i64 0, .int .i64 0, .int .i64 0, .int .i64 0, .bool false, .int .i64 0, .int .i64 0, .int .i64 0, .int .i64 0, .int .i64 0, .int .i64 0, .bool false, .int .i64 0, .int .i64 0, .int .i64 0, .int .i64 0, .int .i64 0, .int .i64 0, .bool false, .int .i64 0, .int .i64 0, .int .i64 0, .int .i64 0, .int .i64 0, .int .i64 0, .bool false, .int .i64 0, .int .i64 0, .int .i64 0, .int .i64 0, .int .i64 0, .int .i64 0, .int .i64 0, .int .i64 0, .int .i64 0, .int .i64 0, .int .i64 0, .slice none 0 0, .slice none 0 0, .slice none 0 0]

theorem row_pre {w : World} {a : Option Addr} {xs ys : List Value} (h : RowAt w a (xs ++ ys)) : RowAt w a xs := by
  rcases h with h | ⟨B, off, e, hB, hc⟩
  · exact .inl (List.append_eq_nil_iff.1 h).1
  · exact .inr ⟨B, off, e, hB, fun j u hj => hc j u (by rw [List.getElem?_append_left (List.getElem?_eq_some_iff.1 hj).1]; exact hj)⟩
theorem at_of {w : World} {a : Option Addr} {B off k : Nat} {vs : List MV} {v : MV} (h : ValsAt w a vs) (hk : vs[k]? = some v) (e : a = some ⟨B, off, none⟩) : At7 w B (off + k * 7) v := by
  obtain ⟨B', off', e', -, h7⟩ := h.at hk
  rw [e] at e'
  cases e'
  exact h7
theorem cnt_le (x y : MC) : ∀ k : Nat, cntD x y k ≤ k
  | 0 => Nat.le_refl _
  | k + 1 => by
    have ih := cnt_le x y k
    unfold cntD
    split <;> omega
set_option maxHeartbeats 16000000 in
set_option maxRecDepth 1000000 in
theorem walk (x0 : MC) (q0 : MA) (O0 : McOk x0 q0) (w : World) (A0 : McAt w x0 q0) (hS : Shp w) :
    Calls Tryd.prog 3 #[.agg (mcC x0 q0).toArray] w fun e w' => e = .returned (.bool true) ∧ Below w.heap.size w w' := by
  have hi0 : (Tryd.prog.info? 31).map (·.size) = some (mcC x0 q0).length := mach_info O0.r8
  have HA : Hid (∀ w', Below w.heap.size w w' → McAt w' x0 q0) := fun w' hb => A0.below hb
  have HS : Hid (∀ w', Below w.heap.size w w' → Shp w') := fun w' hb => hS.below hb
  have bM := Box.new w (mcC x0 q0).toArray 31
  have hB : Below w.heap.size w (w.alloc (.cells (mcC x0 q0).toArray 31)) := (Below.refl _ _).alloc (Nat.le_refl _) _
  have lm : x0.m.length ≤ maxLen := Nat.le_trans O0.zm O0.ym
  have lo : x0.o.length ≤ maxLen := Nat.le_trans O0.zo O0.yo
  have cS := fun w hA hS => step_top x0 q0 w hA O0.toMcB hS
  have cO := fun w hA hS => keep_op x0 q0 w hA O0.toMcB hS lm
  have r0 := O0.r8
  have rY : (stpM x0).r.length = 8 := stp_r8 O0.r8
  by_cases hE : stpE x0 = 0
  · obtain ⟨hF, hoi⟩ := step_few O0.r8 hE
    have hC := few_cnt hF
    obtain ⟨hml, hmm, ⟨l, hol, hll⟩, -⟩ := hF
    have gG := (step_eff O0.r8 hE).1
    obtain ⟨gm, -⟩ := mem_small gG.m
    have gX := step_good O0.r8 hE
    have gol := (out_iff.1 gX.o).1
    rw [hE] at cS
    obtain ⟨⟨o1, o2⟩, a1, a2, b1, b2, c1, c2⟩ := chkD_ok hoi
    obtain ⟨⟨uo, ua, ub, uc, ue⟩, hU⟩ : ∃ U, opI x0 = U := ⟨_, rfl⟩
    rw [hU] at cO hC hmm a1 a2 b1 b2 c1 c2
    dsimp only at cO hC hmm a1 a2 b1 b2 c1 c2
    clear hU hE hS gG gX hoi o1 o2
    generalize stpM x0 = Y at *
    obtain ⟨na, rfl⟩ := Int.eq_ofNat_of_zero_le a1
    obtain ⟨nb, rfl⟩ := Int.eq_ofNat_of_zero_le b1
    have ga : (na : Int) < 8 := by omega
    have gb : (nb : Int) < 8 := by omega
    obtain ⟨ra, hra⟩ : ∃ v, x0.r[na]? = some v := ⟨_, List.getElem?_eq_getElem (by omega)⟩
    obtain ⟨rb, hrb⟩ : ∃ v, x0.r[nb]? = some v := ⟨_, List.getElem?_eq_getElem (by omega)⟩
    have era : reg x0 (na : Int) = ra := by have := reg_at O0.r8 (k := na) (by omega); rw [hra] at this; exact (Option.some.inj this).symm
    have erb : reg x0 (nb : Int) = rb := by have := reg_at O0.r8 (k := nb) (by omega); rw [hrb] at this; exact (Option.some.inj this).symm
    rw [era, erb] at hmm
    have orb : mvOk rb := O0.r _ (List.mem_of_getElem? hrb)
    have hlen : Y.o.length = x0.o.length + l.length := by rw [hol, List.length_append]
    have g1 : (x0.o.length : Int) ≤ (Y.o.length : Int) := by omega
    have g2 : (Y.o.length : Int) ≤ (x0.o.length : Int) + 1 := by omega
    have g7 : (x0.o.length : Int) ≤ 100 := by omega
    have g8 : (0 : Int) ≤ (x0.o.length : Int) := by omega
    have gw : IntKind.i64.wrap ((x0.o.length : Int) + 1) = (x0.o.length : Int) + 1 := by rw [IntKind.wrap_i64]; omega
    have d1 : decide (Y.o.length < x0.o.length) = false := decide_eq_false (by omega)
    have d3 : decide (x0.o.length + 1 < Y.o.length) = false := decide_eq_false (by omega)
    have d2 : decide ((x0.o.length : Int) + 1 < (Y.o.length : Int)) = false := decide_eq_false (by omega)
    clear era erb a1 a2 b1 b2
    have iY : ∀ q', (Tryd.prog.info? 31).map (·.size) = some (mcC Y q').length := fun q' => mach_info rY
    have zY : ∀ q', z64.toArray.size = (mcC Y q').length := fun q' => by rw [mc_length rY]; rfl
    go_enter Tryd.func3, Tryd.ntmps3
    go_upto_region 7 with (first | ((with_reducible refine at_load ?_); refine pl_load_box (by rfl) 31 (.tmp 1) rfl w.heap.size (by rfl) (mcC x0 q0) bM _ Tryd.underlying31 rfl hi0 ?_) | (go_at_call 7; refine (cS _ (HA.out _ hB) (HS.out _ hB)).mono ?_; rintro e w1 ⟨q1, rfl, hbb, hY, -⟩; clear cS; replace bM := bM.below hbb; replace hB := Below.step0 hB hbb;  clear hbb) | ((with_reducible refine at_alloc ?_); refine wpList_alloc1 rfl 31 rfl _ (alloc_mach _) ?_) | ((with_reducible refine at_store ?_); refine pl_store_box rfl 31 (.tmp 3) (.tmp 13) rfl w1.heap.size (mcC Y q1) (by rfl) (by rfl) z64.toArray (Box.new _ _ _) (zY q1) (iY q1) (mc_one _ _) ?_; intro bN; have nMN := bM.lt; have hbw : Below w1.heap.size w1 ((w1.alloc (.cells z64.toArray 31)).setCells w1.heap.size 0 (mcC Y q1)) := below_cells _ _ _ _ ((Below.refl _ _).alloc (Nat.le_refl _) _) (Nat.le_refl _); replace bM := bM.below hbw; replace hY := hY.below hbw; replace hB := Below.step0 hB hbw; generalize ((w1.alloc (.cells z64.toArray 31)).setCells w1.heap.size 0 (mcC Y q1)) = w2 at *; clear hbw) | (go_at_call 8; refine (keep_stepped _ (HS.out _ hB)).mono ?_; rintro e w3 ⟨rfl, hbb⟩;  replace bM := bM.below hbb; replace bN := bN.below hbb; replace hY := hY.below hbb; replace hB := Below.step0 hB hbb;  clear hbb) | (go_at_call 9; refine (cO _ (HA.out _ hB) (HS.out _ hB)).mono ?_; rintro e w4 ⟨rfl, hbb⟩; clear cO; replace bM := bM.below hbb; replace bN := bN.below hbb; replace hY := hY.below hbb; replace hB := Below.step0 hB hbb; have nMI := bM.lt; have nNI := bN.lt; clear hbb))
    have bI := Box.new w4 #[.int .i64 uo, .int .i64 (na : Int), .int .i64 (nb : Int), .int .i64 uc] 37
    replace bM := (bM.alloc (.cells #[.int .i64 uo, .int .i64 (na : Int), .int .i64 (nb : Int), .int .i64 uc] 37)).drew
    replace bN := (bN.alloc (.cells #[.int .i64 uo, .int .i64 (na : Int), .int .i64 (nb : Int), .int .i64 uc] 37)).drew
    replace bI := bI.drew
    replace hY := (hY.below ((Below.refl _ _).alloc (Nat.le_refl _) (.cells #[.int .i64 uo, .int .i64 (na : Int), .int .i64 (nb : Int), .int .i64 uc] 37))).below (below_drew _)
    replace hB := (hB.alloc hB.size (.cells #[.int .i64 uo, .int .i64 (na : Int), .int .i64 (nb : Int), .int .i64 uc] 37)).drew
    have eN := (mc_cells Y q1 rY).c5
    rw [hml] at eN
    have eM := (mc_cells x0 q0 r0).c5
    have hS7 : (fun w' : World => w'.cell? ⟨w1.heap.size, 61, none⟩ = some (.slice q1.m x0.m.length q1.cm) ∧ w'.cell? ⟨w.heap.size, 61, none⟩ = some (.slice q0.m x0.m.length q0.cm) ∧ w'.cell? ⟨w1.heap.size, 63, none⟩ = some (.slice q1.o Y.o.length q1.co) ∧ w'.cell? ⟨w.heap.size, 63, none⟩ = some (.slice q0.o x0.o.length q0.co)) (w4.alloc (.cells #[.int .i64 uo, .int .i64 (na : Int), .int .i64 (nb : Int), .int .i64 uc] 37)).drew := ⟨(bN.cell 61).trans eN, (bM.cell 61).trans eM, (bN.cell 63).trans (mc_cells Y q1 rY).c7, (bM.cell 63).trans (mc_cells x0 q0 r0).c7⟩
    have hR : NumsAt (w4.alloc (.cells #[.int .i64 uo, .int .i64 (na : Int), .int .i64 (nb : Int), .int .i64 uc] 37)).drew q1.o x0.o := row_pre (ys := l.map nmC) (by rw [← List.map_append, ← hol]; exact hY.o)
    have cE := eq_nums q1.o q0.o q1.co q0.co x0.o (w4.alloc (.cells #[.int .i64 uo, .int .i64 (na : Int), .int .i64 (nb : Int), .int .i64 uc] 37)).drew hR (HA.out _ hB).o lo
    have hcap := hY.c
    have gc : (x0.o.length : Int) ≤ (q1.co : Int) := by omega
    have hcap' : x0.o.length ≤ q1.co := by omega
    have HF : Hid (Y.m.length = x0.m.length ∧ (∀ (j : Nat) (u v : MV), Y.m[j]? = some u → x0.m[j]? = some v → u = v ∨ (uo = 11 ∧ covB rb.b rb.l (j : Int) = true ∧ (bits .and .i64 rb.p 2 == 0) = false ∧ rb.a + uc = (j : Int) ∧ u = ra)) ∧ mvOk rb) := ⟨hml, hmm, orb⟩
    have HC : Hid (uo = 21 ∨ cntD x0 Y 8 ≤ 1) := hC
    have HR : Hid (x0.r[na]? = some ra ∧ x0.r[nb]? = some rb) := ⟨hra, hrb⟩
    have HN : Hid ((mcC Y q1).toArray[61]? = some (.slice q1.m x0.m.length q1.cm) ∧ (mcC x0 q0).toArray[61]? = some (.slice q0.m x0.m.length q0.cm)) := ⟨eN, eM⟩
    have HBX : Hid (Box (w4.alloc (.cells #[.int .i64 uo, .int .i64 (na : Int), .int .i64 (nb : Int), .int .i64 uc] 37)).drew w.heap.size (mcC x0 q0).toArray ∧ Box (w4.alloc (.cells #[.int .i64 uo, .int .i64 (na : Int), .int .i64 (nb : Int), .int .i64 uc] 37)).drew w1.heap.size (mcC Y q1).toArray ∧ Box (w4.alloc (.cells #[.int .i64 uo, .int .i64 (na : Int), .int .i64 (nb : Int), .int .i64 uc] 37)).drew w4.heap.size #[.int .i64 uo, .int .i64 (na : Int), .int .i64 (nb : Int), .int .i64 uc] ∧ McAt (w4.alloc (.cells #[.int .i64 uo, .int .i64 (na : Int), .int .i64 (nb : Int), .int .i64 uc] 37)).drew Y q1 ∧ Below w.heap.size w (w4.alloc (.cells #[.int .i64 uo, .int .i64 (na : Int), .int .i64 (nb : Int), .int .i64 uc] 37)).drew) := ⟨bM, bN, bI, hY, hB⟩
    have m1 : (x0.m.length : Int) ≤ 9223372036854775807 := by unfold maxLen at lm; omega
    clear hml hmm hC hra hrb eN eM hcap hR hlen hol hll gol gm orb bI hY A0 O0
    refine wp_region_held_drew (S := (fun w' : World => w'.cell? ⟨w1.heap.size, 61, none⟩ = some (.slice q1.m x0.m.length q1.cm) ∧ w'.cell? ⟨w.heap.size, 61, none⟩ = some (.slice q0.m x0.m.length q0.cm) ∧ w'.cell? ⟨w1.heap.size, 63, none⟩ = some (.slice q1.o Y.o.length q1.co) ∧ w'.cell? ⟨w.heap.size, 63, none⟩ = some (.slice q0.o x0.o.length q0.co))) (by kernel_rfl) hS7 (fun hHeld => ?_)
    refine wpAnyH_take (i := 0) (v := ?_) rfl (by kernel_rfl) (by kernel_rfl) (by kernel_rfl) (fun _ _ _ h => h) (Or.inl ⟨by rfl, ?_⟩) (by assumption) ?_
    rotate_left 1
    · intro wz hSw; obtain ⟨s1, s2, s3, s4⟩ := hSw; go_simp; try with_reducible rfl
    try simp only [Act.put, List.getElem_toArray, List.getElem_cons_zero, List.getElem_cons_succ, List.setIfInBounds_toArray, List.set_cons_zero, List.set_cons_succ]
    refine wpAnyH_take (i := 1) (v := ?_) rfl (by kernel_rfl) (by kernel_rfl) (by kernel_rfl) (fun _ _ _ h => h) (Or.inl ⟨by rfl, ?_⟩) (by assumption) ?_
    rotate_left 1
    · intro wz hSw; obtain ⟨s1, s2, s3, s4⟩ := hSw; go_simp; try with_reducible rfl
    try simp only [Act.put, List.getElem_toArray, List.getElem_cons_zero, List.getElem_cons_succ, List.setIfInBounds_toArray, List.set_cons_zero, List.set_cons_succ]
    refine wpAnyH_take (i := 2) (v := ?_) rfl (by kernel_rfl) (by kernel_rfl) (by kernel_rfl) (fun _ _ _ h => h) (Or.inl ⟨by rfl, ?_⟩) (by assumption) ?_
    rotate_left 1
    · intro wz hSw; obtain ⟨s1, s2, s3, s4⟩ := hSw; go_simp; try with_reducible rfl
    try simp only [Act.put, List.getElem_toArray, List.getElem_cons_zero, List.getElem_cons_succ, List.setIfInBounds_toArray, List.set_cons_zero, List.set_cons_succ]
    refine wpAnyH_take (i := 3) (v := ?_) rfl (by kernel_rfl) (by kernel_rfl) (by kernel_rfl) (fun _ _ _ h => h) (Or.inl ⟨by rfl, ?_⟩) (by assumption) ?_
    rotate_left 1
    · intro wz hSw; obtain ⟨s1, s2, s3, s4⟩ := hSw; go_simp; try with_reducible rfl
    try simp only [Act.put, List.getElem_toArray, List.getElem_cons_zero, List.getElem_cons_succ, List.setIfInBounds_toArray, List.set_cons_zero, List.set_cons_succ]
    refine wpAnyH_take (i := 4) (v := ?_) rfl (by kernel_rfl) (by kernel_rfl) (by kernel_rfl) (fun _ _ _ h => h) (Or.inl ⟨by rfl, ?_⟩) (by assumption) ?_
    rotate_left 1
    · intro wz hSw; obtain ⟨s1, s2, s3, s4⟩ := hSw; go_simp; try with_reducible rfl
    try simp only [Act.put, List.getElem_toArray, List.getElem_cons_zero, List.getElem_cons_succ, List.setIfInBounds_toArray, List.set_cons_zero, List.set_cons_succ]
    refine wpAnyH_take (i := 5) (v := ?_) rfl (by kernel_rfl) (by kernel_rfl) (by kernel_rfl) (fun _ _ _ h => h) (Or.inl ⟨by rfl, ?_⟩) (by assumption) ?_
    rotate_left 1
    · intro wz hSw; obtain ⟨s1, s2, s3, s4⟩ := hSw; go_simp; try with_reducible rfl
    try simp only [Act.put, List.getElem_toArray, List.getElem_cons_zero, List.getElem_cons_succ, List.setIfInBounds_toArray, List.set_cons_zero, List.set_cons_succ]
    refine wpAnyH_take (i := 6) (v := ?_) rfl (by kernel_rfl) (by kernel_rfl) (by kernel_rfl) (fun _ _ _ h => h) (Or.inl ⟨by rfl, ?_⟩) (by assumption) ?_
    rotate_left 1
    · intro wz hSw; obtain ⟨s1, s2, s3, s4⟩ := hSw; go_simp; try with_reducible rfl
    try simp only [Act.put, List.getElem_toArray, List.getElem_cons_zero, List.getElem_cons_succ, List.setIfInBounds_toArray, List.set_cons_zero, List.set_cons_succ]
    refine wpAnyH_take (i := 7) (v := ?_) rfl (by kernel_rfl) (by kernel_rfl) (by kernel_rfl) (fun _ _ _ h => h) (Or.inl ⟨by rfl, ?_⟩) (by assumption) ?_
    rotate_left 1
    · intro wz hSw; obtain ⟨s1, s2, s3, s4⟩ := hSw; go_simp; try with_reducible rfl
    try simp only [Act.put, List.getElem_toArray, List.getElem_cons_zero, List.getElem_cons_succ, List.setIfInBounds_toArray, List.set_cons_zero, List.set_cons_succ]
    refine wpAnyH_take (i := 8) (v := ?_) rfl (by kernel_rfl) (by kernel_rfl) (by kernel_rfl) (fun _ _ _ h => h) (Or.inl ⟨by rfl, ?_⟩) (by assumption) ?_
    rotate_left 1
    · intro wz hSw; obtain ⟨s1, s2, s3, s4⟩ := hSw; go_simp; try with_reducible rfl
    try simp only [Act.put, List.getElem_toArray, List.getElem_cons_zero, List.getElem_cons_succ, List.setIfInBounds_toArray, List.set_cons_zero, List.set_cons_succ]
    refine wpAnyH_take (i := 9) (v := ?_) rfl (by kernel_rfl) (by kernel_rfl) (by kernel_rfl) (fun _ _ _ h => h) (Or.inl ⟨by rfl, ?_⟩) (by assumption) ?_
    rotate_left 1
    · intro wz hSw; obtain ⟨s1, s2, s3, s4⟩ := hSw; go_simp; try with_reducible rfl
    try simp only [Act.put, List.getElem_toArray, List.getElem_cons_zero, List.getElem_cons_succ, List.setIfInBounds_toArray, List.set_cons_zero, List.set_cons_succ]
    refine wpAnyH_take (i := 10) (v := ?_) rfl (by kernel_rfl) (by kernel_rfl) (by kernel_rfl) (fun _ _ _ h => h) (Or.inl ⟨by rfl, ?_⟩) (by assumption) ?_
    rotate_left 1
    · intro wz hSw; obtain ⟨s1, s2, s3, s4⟩ := hSw; go_simp; try with_reducible rfl
    try simp only [Act.put, List.getElem_toArray, List.getElem_cons_zero, List.getElem_cons_succ, List.setIfInBounds_toArray, List.set_cons_zero, List.set_cons_succ]
    refine wpAnyH_take (i := 11) (v := ?_) rfl (by kernel_rfl) (by kernel_rfl) (by kernel_rfl) (fun _ _ _ h => h) (Or.inl ⟨by rfl, ?_⟩) (by assumption) ?_
    rotate_left 1
    · intro wz hSw; obtain ⟨s1, s2, s3, s4⟩ := hSw; go_simp; try with_reducible rfl
    try simp only [Act.put, List.getElem_toArray, List.getElem_cons_zero, List.getElem_cons_succ, List.setIfInBounds_toArray, List.set_cons_zero, List.set_cons_succ]
    refine wpAnyH_take (i := 12) (v := ?_) rfl (by kernel_rfl) (by kernel_rfl) (by kernel_rfl) (fun _ _ _ h => h) (Or.inl ⟨by rfl, ?_⟩) (by assumption) ?_
    rotate_left 1
    · intro wz hSw; obtain ⟨s1, s2, s3, s4⟩ := hSw; go_simp; try with_reducible rfl
    try simp only [Act.put, List.getElem_toArray, List.getElem_cons_zero, List.getElem_cons_succ, List.setIfInBounds_toArray, List.set_cons_zero, List.set_cons_succ]
    refine wpAnyH_take (i := 13) (v := ?_) rfl (by kernel_rfl) (by kernel_rfl) (by kernel_rfl) (fun _ _ _ h => h) (Or.inl ⟨by rfl, ?_⟩) (by assumption) ?_
    rotate_left 1
    · intro wz hSw; obtain ⟨s1, s2, s3, s4⟩ := hSw; go_simp; try with_reducible rfl
    try simp only [Act.put, List.getElem_toArray, List.getElem_cons_zero, List.getElem_cons_succ, List.setIfInBounds_toArray, List.set_cons_zero, List.set_cons_succ]
    refine wpAnyH_take (i := 14) (v := ?_) rfl (by kernel_rfl) (by kernel_rfl) (by kernel_rfl) (fun _ _ _ h => h) (Or.inl ⟨by rfl, ?_⟩) (by assumption) ?_
    rotate_left 1
    · intro wz hSw; obtain ⟨s1, s2, s3, s4⟩ := hSw; go_simp; try with_reducible rfl
    try simp only [Act.put, List.getElem_toArray, List.getElem_cons_zero, List.getElem_cons_succ, List.setIfInBounds_toArray, List.set_cons_zero, List.set_cons_succ]
    refine wpAnyH_take (i := 15) (v := ?_) rfl (by kernel_rfl) (by kernel_rfl) (by kernel_rfl) (fun _ _ _ h => h) (Or.inl ⟨by rfl, ?_⟩) (by assumption) ?_
    rotate_left 1
    · intro wz hSw; obtain ⟨s1, s2, s3, s4⟩ := hSw; go_simp; try with_reducible rfl
    try simp only [Act.put, List.getElem_toArray, List.getElem_cons_zero, List.getElem_cons_succ, List.setIfInBounds_toArray, List.set_cons_zero, List.set_cons_succ]
    refine wpAnyH_take (i := 16) (v := ?_) rfl (by kernel_rfl) (by kernel_rfl) (by kernel_rfl) (fun _ _ _ h => h) (Or.inl ⟨by rfl, ?_⟩) (by assumption) ?_
    rotate_left 1
    · intro wz hSw; obtain ⟨s1, s2, s3, s4⟩ := hSw; go_simp; try with_reducible rfl
    try simp only [Act.put, List.getElem_toArray, List.getElem_cons_zero, List.getElem_cons_succ, List.setIfInBounds_toArray, List.set_cons_zero, List.set_cons_succ]
    refine wpAnyH_take (i := 17) (v := ?_) rfl (by kernel_rfl) (by kernel_rfl) (by kernel_rfl) (fun _ _ _ h => h) (Or.inl ⟨by rfl, ?_⟩) (by assumption) ?_
    rotate_left 1
    · intro wz hSw; obtain ⟨s1, s2, s3, s4⟩ := hSw; go_simp; try with_reducible rfl
    try simp only [Act.put, List.getElem_toArray, List.getElem_cons_zero, List.getElem_cons_succ, List.setIfInBounds_toArray, List.set_cons_zero, List.set_cons_succ]
    refine wpAnyH_take (i := 18) (v := ?_) rfl (by kernel_rfl) (by kernel_rfl) (by kernel_rfl) (fun _ _ _ h => h) (Or.inl ⟨by rfl, ?_⟩) (by assumption) ?_
    rotate_left 1
    · intro wz hSw; obtain ⟨s1, s2, s3, s4⟩ := hSw; go_simp; try with_reducible rfl
    try simp only [Act.put, List.getElem_toArray, List.getElem_cons_zero, List.getElem_cons_succ, List.setIfInBounds_toArray, List.set_cons_zero, List.set_cons_succ]
    refine wpAnyH_take (i := 19) (v := ?_) rfl (by kernel_rfl) (by kernel_rfl) (by kernel_rfl) (fun _ _ _ h => h) (Or.inl ⟨by rfl, ?_⟩) (by assumption) ?_
    rotate_left 1
    · intro wz hSw; obtain ⟨s1, s2, s3, s4⟩ := hSw; go_simp; try with_reducible rfl
    try simp only [Act.put, List.getElem_toArray, List.getElem_cons_zero, List.getElem_cons_succ, List.setIfInBounds_toArray, List.set_cons_zero, List.set_cons_succ]
    refine wpAnyH_take (i := 20) (v := ?_) rfl (by kernel_rfl) (by kernel_rfl) (by kernel_rfl) (fun _ _ _ h => h) (Or.inl ⟨by rfl, ?_⟩) (by assumption) ?_
    rotate_left 1
    · intro wz hSw; obtain ⟨s1, s2, s3, s4⟩ := hSw; go_simp; try with_reducible rfl
    try simp only [Act.put, List.getElem_toArray, List.getElem_cons_zero, List.getElem_cons_succ, List.setIfInBounds_toArray, List.set_cons_zero, List.set_cons_succ]
    refine wpAnyH_take (i := 21) (v := ?_) rfl (by kernel_rfl) (by kernel_rfl) (by kernel_rfl) (fun _ _ _ h => h) (Or.inl ⟨by rfl, ?_⟩) (by assumption) ?_
    rotate_left 1
    · intro wz hSw; obtain ⟨s1, s2, s3, s4⟩ := hSw; go_simp; try with_reducible rfl
    try simp only [Act.put, List.getElem_toArray, List.getElem_cons_zero, List.getElem_cons_succ, List.setIfInBounds_toArray, List.set_cons_zero, List.set_cons_succ]
    refine wpAnyH_take (i := 22) (v := ?_) rfl (by kernel_rfl) (by kernel_rfl) (by kernel_rfl) (fun _ _ _ h => h) (Or.inl ⟨by rfl, ?_⟩) (by assumption) ?_
    rotate_left 1
    · intro wz hSw; obtain ⟨s1, s2, s3, s4⟩ := hSw; go_simp; try with_reducible rfl
    try simp only [Act.put, List.getElem_toArray, List.getElem_cons_zero, List.getElem_cons_succ, List.setIfInBounds_toArray, List.set_cons_zero, List.set_cons_succ]
    refine wpAnyH_take (i := 23) (v := ?_) rfl (by kernel_rfl) (by kernel_rfl) (by kernel_rfl) (fun _ _ _ h => h) (Or.inl ⟨by rfl, ?_⟩) (by assumption) ?_
    rotate_left 1
    · intro wz hSw; obtain ⟨s1, s2, s3, s4⟩ := hSw; go_simp; try with_reducible rfl
    try simp only [Act.put, List.getElem_toArray, List.getElem_cons_zero, List.getElem_cons_succ, List.setIfInBounds_toArray, List.set_cons_zero, List.set_cons_succ]
    refine wpAnyH_take (i := 24) (v := ?_) rfl (by kernel_rfl) (by kernel_rfl) (by kernel_rfl) (fun _ _ _ h => h) (Or.inl ⟨by rfl, ?_⟩) (by assumption) ?_
    rotate_left 1
    · intro wz hSw; obtain ⟨s1, s2, s3, s4⟩ := hSw; go_simp; try with_reducible rfl
    try simp only [Act.put, List.getElem_toArray, List.getElem_cons_zero, List.getElem_cons_succ, List.setIfInBounds_toArray, List.set_cons_zero, List.set_cons_succ]
    refine wpAnyH_take (i := 25) (v := ?_) rfl (by kernel_rfl) (by kernel_rfl) (by kernel_rfl) (fun _ _ _ h => h) (Or.inl ⟨by rfl, ?_⟩) (by assumption) ?_
    rotate_left 1
    · intro wz hSw; obtain ⟨s1, s2, s3, s4⟩ := hSw; go_simp; try with_reducible rfl
    try simp only [Act.put, List.getElem_toArray, List.getElem_cons_zero, List.getElem_cons_succ, List.setIfInBounds_toArray, List.set_cons_zero, List.set_cons_succ]
    refine wpAnyH_take (i := 26) (v := ?_) rfl (by kernel_rfl) (by kernel_rfl) (by kernel_rfl) (fun _ _ _ h => h) (Or.inl ⟨by rfl, ?_⟩) (by assumption) ?_
    rotate_left 1
    · intro wz hSw; obtain ⟨s1, s2, s3, s4⟩ := hSw; go_simp; try with_reducible rfl
    try simp only [Act.put, List.getElem_toArray, List.getElem_cons_zero, List.getElem_cons_succ, List.setIfInBounds_toArray, List.set_cons_zero, List.set_cons_succ]
    refine wpAnyH_take (i := 27) (v := ?_) rfl (by kernel_rfl) (by kernel_rfl) (by kernel_rfl) (fun _ _ _ h => h) (Or.inl ⟨by rfl, ?_⟩) (by assumption) ?_
    rotate_left 1
    · intro wz hSw; obtain ⟨s1, s2, s3, s4⟩ := hSw; go_simp; try with_reducible rfl
    try simp only [Act.put, List.getElem_toArray, List.getElem_cons_zero, List.getElem_cons_succ, List.setIfInBounds_toArray, List.set_cons_zero, List.set_cons_succ]
    refine wpAnyH_take (i := 28) (v := ?_) rfl (by kernel_rfl) (by kernel_rfl) (by kernel_rfl) (fun _ _ _ h => h) (Or.inl ⟨by rfl, ?_⟩) (by assumption) ?_
    rotate_left 1
    · intro wz hSw; obtain ⟨s1, s2, s3, s4⟩ := hSw; go_simp; try with_reducible rfl
    try simp only [Act.put, List.getElem_toArray, List.getElem_cons_zero, List.getElem_cons_succ, List.setIfInBounds_toArray, List.set_cons_zero, List.set_cons_succ]
    refine wpAnyH_take (i := 29) (v := ?_) rfl (by kernel_rfl) (by kernel_rfl) (by kernel_rfl) (fun _ _ _ h => h) (Or.inl ⟨by rfl, ?_⟩) (by assumption) ?_
    rotate_left 1
    · intro wz hSw; obtain ⟨s1, s2, s3, s4⟩ := hSw; go_simp; try with_reducible rfl
    try simp only [Act.put, List.getElem_toArray, List.getElem_cons_zero, List.getElem_cons_succ, List.setIfInBounds_toArray, List.set_cons_zero, List.set_cons_succ]
    refine wpAnyH_take (i := 30) (v := ?_) rfl (by kernel_rfl) (by kernel_rfl) (by kernel_rfl) (fun _ _ _ h => h) (Or.inl ⟨by rfl, ?_⟩) (by assumption) ?_
    rotate_left 1
    · intro wz hSw; obtain ⟨s1, s2, s3, s4⟩ := hSw; go_simp; try with_reducible rfl
    try simp only [Act.put, List.getElem_toArray, List.getElem_cons_zero, List.getElem_cons_succ, List.setIfInBounds_toArray, List.set_cons_zero, List.set_cons_succ]
    refine wpAnyH_take (i := 31) (v := ?_) rfl (by kernel_rfl) (by kernel_rfl) (by kernel_rfl) (fun _ _ _ h => h) (Or.inl ⟨by rfl, ?_⟩) (by assumption) ?_
    rotate_left 1
    · intro wz hSw; obtain ⟨s1, s2, s3, s4⟩ := hSw; go_simp; try with_reducible rfl
    try simp only [Act.put, List.getElem_toArray, List.getElem_cons_zero, List.getElem_cons_succ, List.setIfInBounds_toArray, List.set_cons_zero, List.set_cons_succ]
    refine wpAnyH_take (i := 32) (v := ?_) rfl (by kernel_rfl) (by kernel_rfl) (by kernel_rfl) (fun _ _ _ h => h) (Or.inl ⟨by rfl, ?_⟩) (by assumption) ?_
    rotate_left 1
    · intro wz hSw; obtain ⟨s1, s2, s3, s4⟩ := hSw; go_simp; try with_reducible rfl
    try simp only [Act.put, List.getElem_toArray, List.getElem_cons_zero, List.getElem_cons_succ, List.setIfInBounds_toArray, List.set_cons_zero, List.set_cons_succ]
    refine wpAnyH_take (i := 33) (v := ?_) rfl (by kernel_rfl) (by kernel_rfl) (by kernel_rfl) (fun _ _ _ h => h) (Or.inl ⟨by rfl, ?_⟩) (by assumption) ?_
    rotate_left 1
    · intro wz hSw; obtain ⟨s1, s2, s3, s4⟩ := hSw; go_simp; try with_reducible rfl
    try simp only [Act.put, List.getElem_toArray, List.getElem_cons_zero, List.getElem_cons_succ, List.setIfInBounds_toArray, List.set_cons_zero, List.set_cons_succ]
    refine wpAnyH_take (i := 34) (v := ?_) rfl (by kernel_rfl) (by kernel_rfl) (by kernel_rfl) (fun _ _ _ h => h) (Or.inl ⟨by rfl, ?_⟩) (by assumption) ?_
    rotate_left 1
    · intro wz hSw; obtain ⟨s1, s2, s3, s4⟩ := hSw; go_simp; try with_reducible rfl
    try simp only [Act.put, List.getElem_toArray, List.getElem_cons_zero, List.getElem_cons_succ, List.setIfInBounds_toArray, List.set_cons_zero, List.set_cons_succ]
    refine wpAnyH_ready (rs := [35]) (by kernel_rfl) (by simp) (AllReadyH.cons rfl (fun K hK => ?_) AllReadyH.nil)
    go_simp
    go_at_call 10
    refine cE.mono ?_
    rintro e wz ⟨rfl, hwz⟩
    obtain rfl := hwz.symm
    refine hK.out _ _ hS7 (fun hHeld => ?_)
    try simp only [Act.put, List.getElem_toArray, List.getElem_cons_zero, List.getElem_cons_succ, List.setIfInBounds_toArray, List.set_cons_zero, List.set_cons_succ]
    refine wpAnyH_take (i := 36) (v := ?_) rfl (by kernel_rfl) (by kernel_rfl) (by kernel_rfl) (fun _ _ _ h => h) (Or.inl ⟨by rfl, ?_⟩) (by assumption) ?_
    rotate_left 1
    · intro wz hSw; obtain ⟨s1, s2, s3, s4⟩ := hSw; go_simp; try with_reducible rfl
    try simp only [Act.put, List.getElem_toArray, List.getElem_cons_zero, List.getElem_cons_succ, List.setIfInBounds_toArray, List.set_cons_zero, List.set_cons_succ]
    refine wpAnyH_take (i := 37) (v := ?_) rfl (by kernel_rfl) (by kernel_rfl) (by kernel_rfl) (fun _ _ _ h => h) (Or.inl ⟨by rfl, ?_⟩) (by assumption) ?_
    rotate_left 1
    · intro wz hSw; obtain ⟨s1, s2, s3, s4⟩ := hSw; go_simp; try with_reducible rfl
    try simp only [Act.put, List.getElem_toArray, List.getElem_cons_zero, List.getElem_cons_succ, List.setIfInBounds_toArray, List.set_cons_zero, List.set_cons_succ]
    refine wpAnyH_done (by kernel_rfl) ?_ _
    have s61 := hS7.2.1
    clear hS7 hHeld cE d1 d2 d3 g1 g2 g7 g8 gw gc hcap' bM bN hB
    go_wp2
    go_loopw [62] (fun j wr => ∃ k : Nat, k ≤ x0.m.length ∧ j = .int .i64 (k : Int) ∧ Below ((w4.alloc (.cells #[.int .i64 uo, .int .i64 (na : Int), .int .i64 (nb : Int), .int .i64 uc] 37)).drew).heap.size (w4.alloc (.cells #[.int .i64 uo, .int .i64 (na : Int), .int .i64 (nb : Int), .int .i64 uc] 37)).drew wr) (fun j _ => x0.m.length - (intOf j).toNat)
    case atStart => exact ⟨0, Nat.zero_le _, rfl, Below.refl _ _⟩
    case round =>
      obtain ⟨k, hk, rfl, hW⟩ := hrel
      obtain ⟨bM, bN, bI, hY, hB⟩ := HBX.out
      replace bM := bM.below hW
      replace bN := bN.below hW
      replace bI := bI.below hW
      replace hY := hY.below hW
      replace hB := Below.step0 hB hW
      by_cases hlt : k < x0.m.length
      · obtain ⟨hml, hmm, orb⟩ := HF.out
        obtain ⟨hra, hrb⟩ := HR.out
        obtain ⟨eN, eM⟩ := HN.out
        obtain ⟨v, hv⟩ : ∃ v, x0.m[k]? = some v := ⟨_, List.getElem?_eq_getElem hlt⟩
        obtain ⟨u, hu⟩ : ∃ u, Y.m[k]? = some u := ⟨_, List.getElem?_eq_getElem (by omega)⟩
        obtain ⟨B1, o1, eq0, hB1, -⟩ := (HA.out _ hB).m.at hv
        obtain ⟨B2, o2, eq1, hB2, -⟩ := hY.m.at hu
        have gk : (k : Int) < (x0.m.length : Int) := by omega
        have gk0 : (0 : Int) ≤ (k : Int) := by omega
        have hm := hmm k u v hu hv
        rw [eq0] at eM
        rw [eq1] at eN
        replace bM := bM.drew
        replace bN := bN.drew
        replace bI := bI.drew
        replace hY := hY.below (below_drew _)
        replace hB := hB.drew
        clear hk hmm hml
        have u61 := (bN.cell 61).trans eN
        have t61 := (bM.cell 61).trans eM
        by_cases huv : u = v
        · subst huv
          obtain ⟨u0, u1, u2, u3, u4, u5, u6⟩ := at_of hY.m hu eq1
          obtain ⟨v0, v1, v2, v3, v4, v5, v6⟩ := at_of (HA.out _ hB).m hv eq0
          have HWd : Hid (Below ((w4.alloc (.cells #[.int .i64 uo, .int .i64 (na : Int), .int .i64 (nb : Int), .int .i64 uc] 37)).drew).heap.size (w4.alloc (.cells #[.int .i64 uo, .int .i64 (na : Int), .int .i64 (nb : Int), .int .i64 uc] 37)).drew wr.drew) := hW.drew
          clear hu hv hm hra hrb orb eN eM bM bN bI hY hB hW eq0 eq1
          go_wp2
          go_region
          all_goals go_wp2
          go_roundw
          case rel => exact ⟨k + 1, by omega, rfl, HWd.out⟩
          case measure => simp [intOf]; omega
        · obtain ⟨huo, hcv, hnd, had, hur⟩ := hm.resolve_left huv
          have guo : (uo != 11) = false := by simp [huo]
          clear huo
          rw [hur] at hu huv
          have hd := mvDiff huv
          have hS12 : (fun w' : World => w'.cell? ⟨w1.heap.size, 61, none⟩ = some (.slice (some ⟨B2, o2, none⟩) x0.m.length q1.cm) ∧ w'.cell? ⟨w.heap.size, 61, none⟩ = some (.slice (some ⟨B1, o1, none⟩) x0.m.length q0.cm) ∧ w'.cell? ⟨B2, o2 + k * 7, none⟩ = some (.bool ra.i) ∧ w'.cell? ⟨B2, o2 + k * 7 + 1, none⟩ = some (.int .i64 ra.n) ∧ w'.cell? ⟨B2, o2 + k * 7 + 2, none⟩ = some (.int .i64 ra.p) ∧ w'.cell? ⟨B2, o2 + k * 7 + 3, none⟩ = some (.int .i64 ra.b) ∧ w'.cell? ⟨B2, o2 + k * 7 + 4, none⟩ = some (.int .i64 ra.l) ∧ w'.cell? ⟨B2, o2 + k * 7 + 5, none⟩ = some (.int .i64 ra.a) ∧ w'.cell? ⟨B2, o2 + k * 7 + 6, none⟩ = some (.int .i64 ra.s) ∧ w'.cell? ⟨B1, o1 + k * 7, none⟩ = some (.bool v.i) ∧ w'.cell? ⟨B1, o1 + k * 7 + 1, none⟩ = some (.int .i64 v.n) ∧ w'.cell? ⟨B1, o1 + k * 7 + 2, none⟩ = some (.int .i64 v.p) ∧ w'.cell? ⟨B1, o1 + k * 7 + 3, none⟩ = some (.int .i64 v.b) ∧ w'.cell? ⟨B1, o1 + k * 7 + 4, none⟩ = some (.int .i64 v.l) ∧ w'.cell? ⟨B1, o1 + k * 7 + 5, none⟩ = some (.int .i64 v.a) ∧ w'.cell? ⟨B1, o1 + k * 7 + 6, none⟩ = some (.int .i64 v.s)) wr.drew := by
            obtain ⟨u0, u1, u2, u3, u4, u5, u6⟩ := at_of hY.m hu eq1
            obtain ⟨v0, v1, v2, v3, v4, v5, v6⟩ := at_of (HA.out _ hB).m hv eq0
            exact ⟨u61, t61, u0, u1, u2, u3, u4, u5, u6, v0, v1, v2, v3, v4, v5, v6⟩
          have hW2 : Below ((w4.alloc (.cells #[.int .i64 uo, .int .i64 (na : Int), .int .i64 (nb : Int), .int .i64 uc] 37)).drew).heap.size (w4.alloc (.cells #[.int .i64 uo, .int .i64 (na : Int), .int .i64 (nb : Int), .int .i64 uc] 37)).drew (wr.drew.alloc (.cells #[.int .i64 rb.p, .int .i64 rb.b, .int .i64 rb.l, .int .i64 rb.a, .int .i64 rb.s] 23)).drew := (hW.drew.alloc hW.drew.size _).drew
          have gw : IntKind.i64.wrap (rb.a + uc) = (k : Int) := by rw [had, IntKind.wrap_i64]; omega
          have HQ1 : Hid (q1.m = some ⟨B2, o2, none⟩) := eq1
          clear hm huv hur had hW eq0 eq1
          go_wp2
          refine wp_region_held_drew (S := (fun w' : World => w'.cell? ⟨w1.heap.size, 61, none⟩ = some (.slice (some ⟨B2, o2, none⟩) x0.m.length q1.cm) ∧ w'.cell? ⟨w.heap.size, 61, none⟩ = some (.slice (some ⟨B1, o1, none⟩) x0.m.length q0.cm) ∧ w'.cell? ⟨B2, o2 + k * 7, none⟩ = some (.bool ra.i) ∧ w'.cell? ⟨B2, o2 + k * 7 + 1, none⟩ = some (.int .i64 ra.n) ∧ w'.cell? ⟨B2, o2 + k * 7 + 2, none⟩ = some (.int .i64 ra.p) ∧ w'.cell? ⟨B2, o2 + k * 7 + 3, none⟩ = some (.int .i64 ra.b) ∧ w'.cell? ⟨B2, o2 + k * 7 + 4, none⟩ = some (.int .i64 ra.l) ∧ w'.cell? ⟨B2, o2 + k * 7 + 5, none⟩ = some (.int .i64 ra.a) ∧ w'.cell? ⟨B2, o2 + k * 7 + 6, none⟩ = some (.int .i64 ra.s) ∧ w'.cell? ⟨B1, o1 + k * 7, none⟩ = some (.bool v.i) ∧ w'.cell? ⟨B1, o1 + k * 7 + 1, none⟩ = some (.int .i64 v.n) ∧ w'.cell? ⟨B1, o1 + k * 7 + 2, none⟩ = some (.int .i64 v.p) ∧ w'.cell? ⟨B1, o1 + k * 7 + 3, none⟩ = some (.int .i64 v.b) ∧ w'.cell? ⟨B1, o1 + k * 7 + 4, none⟩ = some (.int .i64 v.l) ∧ w'.cell? ⟨B1, o1 + k * 7 + 5, none⟩ = some (.int .i64 v.a) ∧ w'.cell? ⟨B1, o1 + k * 7 + 6, none⟩ = some (.int .i64 v.s))) (by kernel_rfl) hS12 (fun hHeld => ?_)
          refine wpAnyH_take (i := 0) (v := ?_) rfl (by kernel_rfl) (by kernel_rfl) (by kernel_rfl) (fun _ _ _ h => h) (Or.inl ⟨by rfl, ?_⟩) (by assumption) ?_
          rotate_left 1
          · intro wz hSw; obtain ⟨s0, s1, s2, s3, s4, s5, s6, s7, s8, s9, s10, s11, s12, s13, s14, s15⟩ := hSw; go_simp; try with_reducible rfl
          try simp only [Act.put, List.getElem_toArray, List.getElem_cons_zero, List.getElem_cons_succ, List.setIfInBounds_toArray, List.set_cons_zero, List.set_cons_succ]
          refine wpAnyH_take (i := 1) (v := ?_) rfl (by kernel_rfl) (by kernel_rfl) (by kernel_rfl) (fun _ _ _ h => h) (Or.inl ⟨by rfl, ?_⟩) (by assumption) ?_
          rotate_left 1
          · intro wz hSw; obtain ⟨s0, s1, s2, s3, s4, s5, s6, s7, s8, s9, s10, s11, s12, s13, s14, s15⟩ := hSw; go_simp; try with_reducible rfl
          try simp only [Act.put, List.getElem_toArray, List.getElem_cons_zero, List.getElem_cons_succ, List.setIfInBounds_toArray, List.set_cons_zero, List.set_cons_succ]
          refine wpAnyH_take (i := 2) (v := ?_) rfl (by kernel_rfl) (by kernel_rfl) (by kernel_rfl) (fun _ _ _ h => h) (Or.inl ⟨by rfl, ?_⟩) (by assumption) ?_
          rotate_left 1
          · intro wz hSw; obtain ⟨s0, s1, s2, s3, s4, s5, s6, s7, s8, s9, s10, s11, s12, s13, s14, s15⟩ := hSw; go_simp; try with_reducible rfl
          try simp only [Act.put, List.getElem_toArray, List.getElem_cons_zero, List.getElem_cons_succ, List.setIfInBounds_toArray, List.set_cons_zero, List.set_cons_succ]
          refine wpAnyH_take (i := 3) (v := ?_) rfl (by kernel_rfl) (by kernel_rfl) (by kernel_rfl) (fun _ _ _ h => h) (Or.inl ⟨by rfl, ?_⟩) (by assumption) ?_
          rotate_left 1
          · intro wz hSw; obtain ⟨s0, s1, s2, s3, s4, s5, s6, s7, s8, s9, s10, s11, s12, s13, s14, s15⟩ := hSw; go_simp; try with_reducible rfl
          try simp only [Act.put, List.getElem_toArray, List.getElem_cons_zero, List.getElem_cons_succ, List.setIfInBounds_toArray, List.set_cons_zero, List.set_cons_succ]
          refine wpAnyH_take (i := 4) (v := ?_) rfl (by kernel_rfl) (by kernel_rfl) (by kernel_rfl) (fun _ _ _ h => h) (Or.inl ⟨by rfl, ?_⟩) (by assumption) ?_
          rotate_left 1
          · intro wz hSw; obtain ⟨s0, s1, s2, s3, s4, s5, s6, s7, s8, s9, s10, s11, s12, s13, s14, s15⟩ := hSw; go_simp; try with_reducible rfl
          try simp only [Act.put, List.getElem_toArray, List.getElem_cons_zero, List.getElem_cons_succ, List.setIfInBounds_toArray, List.set_cons_zero, List.set_cons_succ]
          refine wpAnyH_take (i := 5) (v := ?_) rfl (by kernel_rfl) (by kernel_rfl) (by kernel_rfl) (fun _ _ _ h => h) (Or.inl ⟨by rfl, ?_⟩) (by assumption) ?_
          rotate_left 1
          · intro wz hSw; obtain ⟨s0, s1, s2, s3, s4, s5, s6, s7, s8, s9, s10, s11, s12, s13, s14, s15⟩ := hSw; go_simp; try with_reducible rfl
          try simp only [Act.put, List.getElem_toArray, List.getElem_cons_zero, List.getElem_cons_succ, List.setIfInBounds_toArray, List.set_cons_zero, List.set_cons_succ]
          refine wpAnyH_take (i := 6) (v := ?_) rfl (by kernel_rfl) (by kernel_rfl) (by kernel_rfl) (fun _ _ _ h => h) (Or.inl ⟨by rfl, ?_⟩) (by assumption) ?_
          rotate_left 1
          · intro wz hSw; obtain ⟨s0, s1, s2, s3, s4, s5, s6, s7, s8, s9, s10, s11, s12, s13, s14, s15⟩ := hSw; go_simp; try with_reducible rfl
          try simp only [Act.put, List.getElem_toArray, List.getElem_cons_zero, List.getElem_cons_succ, List.setIfInBounds_toArray, List.set_cons_zero, List.set_cons_succ]
          refine wpAnyH_take (i := 7) (v := ?_) rfl (by kernel_rfl) (by kernel_rfl) (by kernel_rfl) (fun _ _ _ h => h) (Or.inl ⟨by rfl, ?_⟩) (by assumption) ?_
          rotate_left 1
          · intro wz hSw; obtain ⟨s0, s1, s2, s3, s4, s5, s6, s7, s8, s9, s10, s11, s12, s13, s14, s15⟩ := hSw; go_simp; try with_reducible rfl
          try simp only [Act.put, List.getElem_toArray, List.getElem_cons_zero, List.getElem_cons_succ, List.setIfInBounds_toArray, List.set_cons_zero, List.set_cons_succ]
          refine wpAnyH_take (i := 8) (v := ?_) rfl (by kernel_rfl) (by kernel_rfl) (by kernel_rfl) (fun _ _ _ h => h) (Or.inl ⟨by rfl, ?_⟩) (by assumption) ?_
          rotate_left 1
          · intro wz hSw; obtain ⟨s0, s1, s2, s3, s4, s5, s6, s7, s8, s9, s10, s11, s12, s13, s14, s15⟩ := hSw; go_simp; try with_reducible rfl
          try simp only [Act.put, List.getElem_toArray, List.getElem_cons_zero, List.getElem_cons_succ, List.setIfInBounds_toArray, List.set_cons_zero, List.set_cons_succ]
          refine wpAnyH_take (i := 9) (v := ?_) rfl (by kernel_rfl) (by kernel_rfl) (by kernel_rfl) (fun _ _ _ h => h) (Or.inl ⟨by rfl, ?_⟩) (by assumption) ?_
          rotate_left 1
          · intro wz hSw; obtain ⟨s0, s1, s2, s3, s4, s5, s6, s7, s8, s9, s10, s11, s12, s13, s14, s15⟩ := hSw; go_simp; try with_reducible rfl
          try simp only [Act.put, List.getElem_toArray, List.getElem_cons_zero, List.getElem_cons_succ, List.setIfInBounds_toArray, List.set_cons_zero, List.set_cons_succ]
          refine wpAnyH_take (i := 10) (v := .bool true) rfl (by kernel_rfl) (by kernel_rfl) (by kernel_rfl) (fun _ _ _ h => h) (Or.inl ⟨by rfl, ?_⟩) (by assumption) ?_
          · intro wz hSw; obtain ⟨s0, s1, s2, s3, s4, s5, s6, s7, s8, s9, s10, s11, s12, s13, s14, s15⟩ := hSw; rcases hd with h | ⟨h0, h⟩ | ⟨h0, h1, h⟩ | ⟨h0, h1, h2, h⟩ | ⟨h0, h1, h2, h3, h⟩ | ⟨h0, h1, h2, h3, h4, h⟩ | ⟨h0, h1, h2, h3, h4, h5, h⟩ <;> go_simp
          try simp only [Act.put, List.getElem_toArray, List.getElem_cons_zero, List.getElem_cons_succ, List.setIfInBounds_toArray, List.set_cons_zero, List.set_cons_succ]
          refine wpAnyH_done (by kernel_rfl) ?_ _
          clear hd hHeld hS12
          obtain ⟨d0, d1, d2, d3, d4, d5, d6⟩ := box_reg bM r0 hrb
          have qI := bI.cell
          go_upto_region 14 with fail
          clear d0 d1 d2 d3 d4 d5 d6 qI u61 t61
          have bK := (Box.new wr.drew #[.int .i64 rb.p, .int .i64 rb.b, .int .i64 rb.l, .int .i64 rb.a, .int .i64 rb.s] 23).drew
          replace bM := (bM.alloc (.cells #[.int .i64 rb.p, .int .i64 rb.b, .int .i64 rb.l, .int .i64 rb.a, .int .i64 rb.s] 23)).drew
          replace bN := (bN.alloc (.cells #[.int .i64 rb.p, .int .i64 rb.b, .int .i64 rb.l, .int .i64 rb.a, .int .i64 rb.s] 23)).drew
          replace bI := (bI.alloc (.cells #[.int .i64 rb.p, .int .i64 rb.b, .int .i64 rb.l, .int .i64 rb.a, .int .i64 rb.s] 23)).drew
          replace hY := (hY.below ((Below.refl _ _).alloc (Nat.le_refl _) (.cells #[.int .i64 rb.p, .int .i64 rb.b, .int .i64 rb.l, .int .i64 rb.a, .int .i64 rb.s] 23))).below (below_drew _)
          replace hB := (hB.alloc hB.size (.cells #[.int .i64 rb.p, .int .i64 rb.b, .int .i64 rb.l, .int .i64 rb.a, .int .i64 rb.s] 23)).drew
          have cV := fun w => keys_covers rb.p rb.b rb.l rb.a rb.s (k : Int) w orb.2 (by omega)
          rw [hcv] at cV
          have hS14 : (fun w' : World => w'.cell? ⟨w1.heap.size, 61, none⟩ = some (.slice (some ⟨B2, o2, none⟩) x0.m.length q1.cm) ∧ w'.cell? ⟨w4.heap.size, 0, none⟩ = some (.int .i64 uo) ∧ w'.cell? ⟨w4.heap.size, 1, none⟩ = some (.int .i64 (na : Int)) ∧ w'.cell? ⟨w4.heap.size, 3, none⟩ = some (.int .i64 uc) ∧ w'.cell? ⟨wr.heap.size, 0, none⟩ = some (.int .i64 rb.p) ∧ w'.cell? ⟨wr.heap.size, 1, none⟩ = some (.int .i64 rb.b) ∧ w'.cell? ⟨wr.heap.size, 2, none⟩ = some (.int .i64 rb.l) ∧ w'.cell? ⟨wr.heap.size, 3, none⟩ = some (.int .i64 rb.a) ∧ w'.cell? ⟨wr.heap.size, 4, none⟩ = some (.int .i64 rb.s) ∧ w'.cell? ⟨B2, o2 + k * 7, none⟩ = some (.bool ra.i) ∧ w'.cell? ⟨B2, o2 + k * 7 + 1, none⟩ = some (.int .i64 ra.n) ∧ w'.cell? ⟨B2, o2 + k * 7 + 2, none⟩ = some (.int .i64 ra.p) ∧ w'.cell? ⟨B2, o2 + k * 7 + 3, none⟩ = some (.int .i64 ra.b) ∧ w'.cell? ⟨B2, o2 + k * 7 + 4, none⟩ = some (.int .i64 ra.l) ∧ w'.cell? ⟨B2, o2 + k * 7 + 5, none⟩ = some (.int .i64 ra.a) ∧ w'.cell? ⟨B2, o2 + k * 7 + 6, none⟩ = some (.int .i64 ra.s) ∧ w'.cell? ⟨w.heap.size, na * 7, none⟩ = some (.bool ra.i) ∧ w'.cell? ⟨w.heap.size, na * 7 + 1, none⟩ = some (.int .i64 ra.n) ∧ w'.cell? ⟨w.heap.size, na * 7 + 2, none⟩ = some (.int .i64 ra.p) ∧ w'.cell? ⟨w.heap.size, na * 7 + 3, none⟩ = some (.int .i64 ra.b) ∧ w'.cell? ⟨w.heap.size, na * 7 + 4, none⟩ = some (.int .i64 ra.l) ∧ w'.cell? ⟨w.heap.size, na * 7 + 5, none⟩ = some (.int .i64 ra.a) ∧ w'.cell? ⟨w.heap.size, na * 7 + 6, none⟩ = some (.int .i64 ra.s)) (wr.drew.alloc (.cells #[.int .i64 rb.p, .int .i64 rb.b, .int .i64 rb.l, .int .i64 rb.a, .int .i64 rb.s] 23)).drew := by
            obtain ⟨u0, u1, u2, u3, u4, u5, u6⟩ := at_of hY.m hu HQ1.out
            obtain ⟨v0, v1, v2, v3, v4, v5, v6⟩ := box_reg bM r0 hra
            exact ⟨(bN.cell 61).trans eN, bI.cell 0, bI.cell 1, bI.cell 3, bK.cell 0, bK.cell 1, bK.cell 2, bK.cell 3, bK.cell 4, u0, u1, u2, u3, u4, u5, u6, v0, v1, v2, v3, v4, v5, v6⟩
          refine wp_region_held_drew (S := (fun w' : World => w'.cell? ⟨w1.heap.size, 61, none⟩ = some (.slice (some ⟨B2, o2, none⟩) x0.m.length q1.cm) ∧ w'.cell? ⟨w4.heap.size, 0, none⟩ = some (.int .i64 uo) ∧ w'.cell? ⟨w4.heap.size, 1, none⟩ = some (.int .i64 (na : Int)) ∧ w'.cell? ⟨w4.heap.size, 3, none⟩ = some (.int .i64 uc) ∧ w'.cell? ⟨wr.heap.size, 0, none⟩ = some (.int .i64 rb.p) ∧ w'.cell? ⟨wr.heap.size, 1, none⟩ = some (.int .i64 rb.b) ∧ w'.cell? ⟨wr.heap.size, 2, none⟩ = some (.int .i64 rb.l) ∧ w'.cell? ⟨wr.heap.size, 3, none⟩ = some (.int .i64 rb.a) ∧ w'.cell? ⟨wr.heap.size, 4, none⟩ = some (.int .i64 rb.s) ∧ w'.cell? ⟨B2, o2 + k * 7, none⟩ = some (.bool ra.i) ∧ w'.cell? ⟨B2, o2 + k * 7 + 1, none⟩ = some (.int .i64 ra.n) ∧ w'.cell? ⟨B2, o2 + k * 7 + 2, none⟩ = some (.int .i64 ra.p) ∧ w'.cell? ⟨B2, o2 + k * 7 + 3, none⟩ = some (.int .i64 ra.b) ∧ w'.cell? ⟨B2, o2 + k * 7 + 4, none⟩ = some (.int .i64 ra.l) ∧ w'.cell? ⟨B2, o2 + k * 7 + 5, none⟩ = some (.int .i64 ra.a) ∧ w'.cell? ⟨B2, o2 + k * 7 + 6, none⟩ = some (.int .i64 ra.s) ∧ w'.cell? ⟨w.heap.size, na * 7, none⟩ = some (.bool ra.i) ∧ w'.cell? ⟨w.heap.size, na * 7 + 1, none⟩ = some (.int .i64 ra.n) ∧ w'.cell? ⟨w.heap.size, na * 7 + 2, none⟩ = some (.int .i64 ra.p) ∧ w'.cell? ⟨w.heap.size, na * 7 + 3, none⟩ = some (.int .i64 ra.b) ∧ w'.cell? ⟨w.heap.size, na * 7 + 4, none⟩ = some (.int .i64 ra.l) ∧ w'.cell? ⟨w.heap.size, na * 7 + 5, none⟩ = some (.int .i64 ra.a) ∧ w'.cell? ⟨w.heap.size, na * 7 + 6, none⟩ = some (.int .i64 ra.s))) (by kernel_rfl) hS14 (fun hHeld => ?_)
          refine wpAnyH_take (i := 0) (v := ?_) rfl (by kernel_rfl) (by kernel_rfl) (by kernel_rfl) (fun _ _ _ h => h) (Or.inl ⟨by rfl, ?_⟩) (by assumption) ?_
          rotate_left 1
          · intro wz hSw; obtain ⟨s0, s1, s2, s3, s4, s5, s6, s7, s8, s9, s10, s11, s12, s13, s14, s15, s16, s17, s18, s19, s20, s21, s22⟩ := hSw; go_simp; try with_reducible rfl
          try simp only [Act.put, List.getElem_toArray, List.getElem_cons_zero, List.getElem_cons_succ, List.setIfInBounds_toArray, List.set_cons_zero, List.set_cons_succ]
          refine wpAnyH_take (i := 1) (v := ?_) rfl (by kernel_rfl) (by kernel_rfl) (by kernel_rfl) (fun _ _ _ h => h) (Or.inl ⟨by rfl, ?_⟩) (by assumption) ?_
          rotate_left 1
          · intro wz hSw; obtain ⟨s0, s1, s2, s3, s4, s5, s6, s7, s8, s9, s10, s11, s12, s13, s14, s15, s16, s17, s18, s19, s20, s21, s22⟩ := hSw; go_simp; try with_reducible rfl
          try simp only [Act.put, List.getElem_toArray, List.getElem_cons_zero, List.getElem_cons_succ, List.setIfInBounds_toArray, List.set_cons_zero, List.set_cons_succ]
          refine wpAnyH_take (i := 2) (v := ?_) rfl (by kernel_rfl) (by kernel_rfl) (by kernel_rfl) (fun _ _ _ h => h) (Or.inl ⟨by rfl, ?_⟩) (by assumption) ?_
          rotate_left 1
          · intro wz hSw; obtain ⟨s0, s1, s2, s3, s4, s5, s6, s7, s8, s9, s10, s11, s12, s13, s14, s15, s16, s17, s18, s19, s20, s21, s22⟩ := hSw; go_simp; try with_reducible rfl
          try simp only [Act.put, List.getElem_toArray, List.getElem_cons_zero, List.getElem_cons_succ, List.setIfInBounds_toArray, List.set_cons_zero, List.set_cons_succ]
          refine wpAnyH_take (i := 3) (v := ?_) rfl (by kernel_rfl) (by kernel_rfl) (by kernel_rfl) (fun _ _ _ h => h) (Or.inl ⟨by rfl, ?_⟩) (by assumption) ?_
          rotate_left 1
          · intro wz hSw; obtain ⟨s0, s1, s2, s3, s4, s5, s6, s7, s8, s9, s10, s11, s12, s13, s14, s15, s16, s17, s18, s19, s20, s21, s22⟩ := hSw; go_simp; try with_reducible rfl
          try simp only [Act.put, List.getElem_toArray, List.getElem_cons_zero, List.getElem_cons_succ, List.setIfInBounds_toArray, List.set_cons_zero, List.set_cons_succ]
          refine wpAnyH_take (i := 4) (v := ?_) rfl (by kernel_rfl) (by kernel_rfl) (by kernel_rfl) (fun _ _ _ h => h) (Or.inl ⟨by rfl, ?_⟩) (by assumption) ?_
          rotate_left 1
          · intro wz hSw; obtain ⟨s0, s1, s2, s3, s4, s5, s6, s7, s8, s9, s10, s11, s12, s13, s14, s15, s16, s17, s18, s19, s20, s21, s22⟩ := hSw; go_simp; try with_reducible rfl
          try simp only [Act.put, List.getElem_toArray, List.getElem_cons_zero, List.getElem_cons_succ, List.setIfInBounds_toArray, List.set_cons_zero, List.set_cons_succ]
          refine wpAnyH_take (i := 5) (v := ?_) rfl (by kernel_rfl) (by kernel_rfl) (by kernel_rfl) (fun _ _ _ h => h) (Or.inl ⟨by rfl, ?_⟩) (by assumption) ?_
          rotate_left 1
          · intro wz hSw; obtain ⟨s0, s1, s2, s3, s4, s5, s6, s7, s8, s9, s10, s11, s12, s13, s14, s15, s16, s17, s18, s19, s20, s21, s22⟩ := hSw; go_simp; try with_reducible rfl
          try simp only [Act.put, List.getElem_toArray, List.getElem_cons_zero, List.getElem_cons_succ, List.setIfInBounds_toArray, List.set_cons_zero, List.set_cons_succ]
          refine wpAnyH_ready (rs := [6]) (by kernel_rfl) (by simp) (AllReadyH.cons rfl (fun K hK => ?_) AllReadyH.nil)
          go_simp
          go_at_call 11
          refine (cV _).mono ?_
          rintro e w8 ⟨rfl, hbb⟩
          replace bM := bM.below hbb
          replace bN := bN.below hbb
          replace bI := bI.below hbb
          replace bK := bK.below hbb
          replace hY := hY.below hbb
          replace hB := Below.step0 hB hbb
          replace hW2 := Below.step0 hW2 hbb
          clear hbb cV
          obtain ⟨u0, u1, u2, u3, u4, u5, u6⟩ := at_of hY.m hu HQ1.out
          obtain ⟨v0, v1, v2, v3, v4, v5, v6⟩ := box_reg bM r0 hra
          refine hK.out _ _ ⟨(bN.cell 61).trans eN, bI.cell 0, bI.cell 1, bI.cell 3, bK.cell 0, bK.cell 1, bK.cell 2, bK.cell 3, bK.cell 4, u0, u1, u2, u3, u4, u5, u6, v0, v1, v2, v3, v4, v5, v6⟩ (fun hHeld => ?_)
          try simp only [Act.put, List.getElem_toArray, List.getElem_cons_zero, List.getElem_cons_succ, List.setIfInBounds_toArray, List.set_cons_zero, List.set_cons_succ]
          refine wpAnyH_take (i := 7) (v := ?_) rfl (by kernel_rfl) (by kernel_rfl) (by kernel_rfl) (fun _ _ _ h => h) (Or.inl ⟨by rfl, ?_⟩) (by assumption) ?_
          rotate_left 1
          · intro wz hSw; obtain ⟨s0, s1, s2, s3, s4, s5, s6, s7, s8, s9, s10, s11, s12, s13, s14, s15, s16, s17, s18, s19, s20, s21, s22⟩ := hSw; go_simp; try with_reducible rfl
          try simp only [Act.put, List.getElem_toArray, List.getElem_cons_zero, List.getElem_cons_succ, List.setIfInBounds_toArray, List.set_cons_zero, List.set_cons_succ]
          refine wpAnyH_take (i := 8) (v := ?_) rfl (by kernel_rfl) (by kernel_rfl) (by kernel_rfl) (fun _ _ _ h => h) (Or.inl ⟨by rfl, ?_⟩) (by assumption) ?_
          rotate_left 1
          · intro wz hSw; obtain ⟨s0, s1, s2, s3, s4, s5, s6, s7, s8, s9, s10, s11, s12, s13, s14, s15, s16, s17, s18, s19, s20, s21, s22⟩ := hSw; go_simp; try with_reducible rfl
          try simp only [Act.put, List.getElem_toArray, List.getElem_cons_zero, List.getElem_cons_succ, List.setIfInBounds_toArray, List.set_cons_zero, List.set_cons_succ]
          refine wpAnyH_take (i := 9) (v := ?_) rfl (by kernel_rfl) (by kernel_rfl) (by kernel_rfl) (fun _ _ _ h => h) (Or.inl ⟨by rfl, ?_⟩) (by assumption) ?_
          rotate_left 1
          · intro wz hSw; obtain ⟨s0, s1, s2, s3, s4, s5, s6, s7, s8, s9, s10, s11, s12, s13, s14, s15, s16, s17, s18, s19, s20, s21, s22⟩ := hSw; go_simp; try with_reducible rfl
          try simp only [Act.put, List.getElem_toArray, List.getElem_cons_zero, List.getElem_cons_succ, List.setIfInBounds_toArray, List.set_cons_zero, List.set_cons_succ]
          refine wpAnyH_take (i := 10) (v := ?_) rfl (by kernel_rfl) (by kernel_rfl) (by kernel_rfl) (fun _ _ _ h => h) (Or.inl ⟨by rfl, ?_⟩) (by assumption) ?_
          rotate_left 1
          · intro wz hSw; obtain ⟨s0, s1, s2, s3, s4, s5, s6, s7, s8, s9, s10, s11, s12, s13, s14, s15, s16, s17, s18, s19, s20, s21, s22⟩ := hSw; go_simp; try with_reducible rfl
          try simp only [Act.put, List.getElem_toArray, List.getElem_cons_zero, List.getElem_cons_succ, List.setIfInBounds_toArray, List.set_cons_zero, List.set_cons_succ]
          refine wpAnyH_take (i := 11) (v := ?_) rfl (by kernel_rfl) (by kernel_rfl) (by kernel_rfl) (fun _ _ _ h => h) (Or.inl ⟨by rfl, ?_⟩) (by assumption) ?_
          rotate_left 1
          · intro wz hSw; obtain ⟨s0, s1, s2, s3, s4, s5, s6, s7, s8, s9, s10, s11, s12, s13, s14, s15, s16, s17, s18, s19, s20, s21, s22⟩ := hSw; go_simp; try with_reducible rfl
          try simp only [Act.put, List.getElem_toArray, List.getElem_cons_zero, List.getElem_cons_succ, List.setIfInBounds_toArray, List.set_cons_zero, List.set_cons_succ]
          refine wpAnyH_take (i := 12) (v := ?_) rfl (by kernel_rfl) (by kernel_rfl) (by kernel_rfl) (fun _ _ _ h => h) (Or.inl ⟨by rfl, ?_⟩) (by assumption) ?_
          rotate_left 1
          · intro wz hSw; obtain ⟨s0, s1, s2, s3, s4, s5, s6, s7, s8, s9, s10, s11, s12, s13, s14, s15, s16, s17, s18, s19, s20, s21, s22⟩ := hSw; go_simp; try with_reducible rfl
          try simp only [Act.put, List.getElem_toArray, List.getElem_cons_zero, List.getElem_cons_succ, List.setIfInBounds_toArray, List.set_cons_zero, List.set_cons_succ]
          refine wpAnyH_take (i := 13) (v := ?_) rfl (by kernel_rfl) (by kernel_rfl) (by kernel_rfl) (fun _ _ _ h => h) (Or.inl ⟨by rfl, ?_⟩) (by assumption) ?_
          rotate_left 1
          · intro wz hSw; obtain ⟨s0, s1, s2, s3, s4, s5, s6, s7, s8, s9, s10, s11, s12, s13, s14, s15, s16, s17, s18, s19, s20, s21, s22⟩ := hSw; go_simp; try with_reducible rfl
          try simp only [Act.put, List.getElem_toArray, List.getElem_cons_zero, List.getElem_cons_succ, List.setIfInBounds_toArray, List.set_cons_zero, List.set_cons_succ]
          refine wpAnyH_take (i := 14) (v := ?_) rfl (by kernel_rfl) (by kernel_rfl) (by kernel_rfl) (fun _ _ _ h => h) (Or.inl ⟨by rfl, ?_⟩) (by assumption) ?_
          rotate_left 1
          · intro wz hSw; obtain ⟨s0, s1, s2, s3, s4, s5, s6, s7, s8, s9, s10, s11, s12, s13, s14, s15, s16, s17, s18, s19, s20, s21, s22⟩ := hSw; go_simp; try with_reducible rfl
          try simp only [Act.put, List.getElem_toArray, List.getElem_cons_zero, List.getElem_cons_succ, List.setIfInBounds_toArray, List.set_cons_zero, List.set_cons_succ]
          refine wpAnyH_take (i := 15) (v := ?_) rfl (by kernel_rfl) (by kernel_rfl) (by kernel_rfl) (fun _ _ _ h => h) (Or.inl ⟨by rfl, ?_⟩) (by assumption) ?_
          rotate_left 1
          · intro wz hSw; obtain ⟨s0, s1, s2, s3, s4, s5, s6, s7, s8, s9, s10, s11, s12, s13, s14, s15, s16, s17, s18, s19, s20, s21, s22⟩ := hSw; go_simp; try with_reducible rfl
          try simp only [Act.put, List.getElem_toArray, List.getElem_cons_zero, List.getElem_cons_succ, List.setIfInBounds_toArray, List.set_cons_zero, List.set_cons_succ]
          refine wpAnyH_take (i := 16) (v := ?_) rfl (by kernel_rfl) (by kernel_rfl) (by kernel_rfl) (fun _ _ _ h => h) (Or.inl ⟨by rfl, ?_⟩) (by assumption) ?_
          rotate_left 1
          · intro wz hSw; obtain ⟨s0, s1, s2, s3, s4, s5, s6, s7, s8, s9, s10, s11, s12, s13, s14, s15, s16, s17, s18, s19, s20, s21, s22⟩ := hSw; go_simp; try with_reducible rfl
          try simp only [Act.put, List.getElem_toArray, List.getElem_cons_zero, List.getElem_cons_succ, List.setIfInBounds_toArray, List.set_cons_zero, List.set_cons_succ]
          refine wpAnyH_take (i := 17) (v := ?_) rfl (by kernel_rfl) (by kernel_rfl) (by kernel_rfl) (fun _ _ _ h => h) (Or.inl ⟨by rfl, ?_⟩) (by assumption) ?_
          rotate_left 1
          · intro wz hSw; obtain ⟨s0, s1, s2, s3, s4, s5, s6, s7, s8, s9, s10, s11, s12, s13, s14, s15, s16, s17, s18, s19, s20, s21, s22⟩ := hSw; go_simp; try with_reducible rfl
          try simp only [Act.put, List.getElem_toArray, List.getElem_cons_zero, List.getElem_cons_succ, List.setIfInBounds_toArray, List.set_cons_zero, List.set_cons_succ]
          refine wpAnyH_take (i := 18) (v := ?_) rfl (by kernel_rfl) (by kernel_rfl) (by kernel_rfl) (fun _ _ _ h => h) (Or.inl ⟨by rfl, ?_⟩) (by assumption) ?_
          rotate_left 1
          · intro wz hSw; obtain ⟨s0, s1, s2, s3, s4, s5, s6, s7, s8, s9, s10, s11, s12, s13, s14, s15, s16, s17, s18, s19, s20, s21, s22⟩ := hSw; go_simp; try with_reducible rfl
          try simp only [Act.put, List.getElem_toArray, List.getElem_cons_zero, List.getElem_cons_succ, List.setIfInBounds_toArray, List.set_cons_zero, List.set_cons_succ]
          refine wpAnyH_take (i := 19) (v := ?_) rfl (by kernel_rfl) (by kernel_rfl) (by kernel_rfl) (fun _ _ _ h => h) (Or.inl ⟨by rfl, ?_⟩) (by assumption) ?_
          rotate_left 1
          · intro wz hSw; obtain ⟨s0, s1, s2, s3, s4, s5, s6, s7, s8, s9, s10, s11, s12, s13, s14, s15, s16, s17, s18, s19, s20, s21, s22⟩ := hSw; go_simp; try with_reducible rfl
          try simp only [Act.put, List.getElem_toArray, List.getElem_cons_zero, List.getElem_cons_succ, List.setIfInBounds_toArray, List.set_cons_zero, List.set_cons_succ]
          refine wpAnyH_take (i := 20) (v := ?_) rfl (by kernel_rfl) (by kernel_rfl) (by kernel_rfl) (fun _ _ _ h => h) (Or.inl ⟨by rfl, ?_⟩) (by assumption) ?_
          rotate_left 1
          · intro wz hSw; obtain ⟨s0, s1, s2, s3, s4, s5, s6, s7, s8, s9, s10, s11, s12, s13, s14, s15, s16, s17, s18, s19, s20, s21, s22⟩ := hSw; go_simp; try with_reducible rfl
          try simp only [Act.put, List.getElem_toArray, List.getElem_cons_zero, List.getElem_cons_succ, List.setIfInBounds_toArray, List.set_cons_zero, List.set_cons_succ]
          refine wpAnyH_take (i := 21) (v := ?_) rfl (by kernel_rfl) (by kernel_rfl) (by kernel_rfl) (fun _ _ _ h => h) (Or.inl ⟨by rfl, ?_⟩) (by assumption) ?_
          rotate_left 1
          · intro wz hSw; obtain ⟨s0, s1, s2, s3, s4, s5, s6, s7, s8, s9, s10, s11, s12, s13, s14, s15, s16, s17, s18, s19, s20, s21, s22⟩ := hSw; go_simp; try with_reducible rfl
          try simp only [Act.put, List.getElem_toArray, List.getElem_cons_zero, List.getElem_cons_succ, List.setIfInBounds_toArray, List.set_cons_zero, List.set_cons_succ]
          refine wpAnyH_take (i := 22) (v := ?_) rfl (by kernel_rfl) (by kernel_rfl) (by kernel_rfl) (fun _ _ _ h => h) (Or.inl ⟨by rfl, ?_⟩) (by assumption) ?_
          rotate_left 1
          · intro wz hSw; obtain ⟨s0, s1, s2, s3, s4, s5, s6, s7, s8, s9, s10, s11, s12, s13, s14, s15, s16, s17, s18, s19, s20, s21, s22⟩ := hSw; go_simp; try with_reducible rfl
          try simp only [Act.put, List.getElem_toArray, List.getElem_cons_zero, List.getElem_cons_succ, List.setIfInBounds_toArray, List.set_cons_zero, List.set_cons_succ]
          refine wpAnyH_take (i := 23) (v := ?_) rfl (by kernel_rfl) (by kernel_rfl) (by kernel_rfl) (fun _ _ _ h => h) (Or.inl ⟨by rfl, ?_⟩) (by assumption) ?_
          rotate_left 1
          · intro wz hSw; obtain ⟨s0, s1, s2, s3, s4, s5, s6, s7, s8, s9, s10, s11, s12, s13, s14, s15, s16, s17, s18, s19, s20, s21, s22⟩ := hSw; go_simp; try with_reducible rfl
          try simp only [Act.put, List.getElem_toArray, List.getElem_cons_zero, List.getElem_cons_succ, List.setIfInBounds_toArray, List.set_cons_zero, List.set_cons_succ]
          refine wpAnyH_take (i := 24) (v := ?_) rfl (by kernel_rfl) (by kernel_rfl) (by kernel_rfl) (fun _ _ _ h => h) (Or.inl ⟨by rfl, ?_⟩) (by assumption) ?_
          rotate_left 1
          · intro wz hSw; obtain ⟨s0, s1, s2, s3, s4, s5, s6, s7, s8, s9, s10, s11, s12, s13, s14, s15, s16, s17, s18, s19, s20, s21, s22⟩ := hSw; go_simp; try with_reducible rfl
          try simp only [Act.put, List.getElem_toArray, List.getElem_cons_zero, List.getElem_cons_succ, List.setIfInBounds_toArray, List.set_cons_zero, List.set_cons_succ]
          refine wpAnyH_take (i := 25) (v := ?_) rfl (by kernel_rfl) (by kernel_rfl) (by kernel_rfl) (fun _ _ _ h => h) (Or.inl ⟨by rfl, ?_⟩) (by assumption) ?_
          rotate_left 1
          · intro wz hSw; obtain ⟨s0, s1, s2, s3, s4, s5, s6, s7, s8, s9, s10, s11, s12, s13, s14, s15, s16, s17, s18, s19, s20, s21, s22⟩ := hSw; go_simp; try with_reducible rfl
          try simp only [Act.put, List.getElem_toArray, List.getElem_cons_zero, List.getElem_cons_succ, List.setIfInBounds_toArray, List.set_cons_zero, List.set_cons_succ]
          refine wpAnyH_take (i := 26) (v := ?_) rfl (by kernel_rfl) (by kernel_rfl) (by kernel_rfl) (fun _ _ _ h => h) (Or.inl ⟨by rfl, ?_⟩) (by assumption) ?_
          rotate_left 1
          · intro wz hSw; obtain ⟨s0, s1, s2, s3, s4, s5, s6, s7, s8, s9, s10, s11, s12, s13, s14, s15, s16, s17, s18, s19, s20, s21, s22⟩ := hSw; go_simp; try with_reducible rfl
          try simp only [Act.put, List.getElem_toArray, List.getElem_cons_zero, List.getElem_cons_succ, List.setIfInBounds_toArray, List.set_cons_zero, List.set_cons_succ]
          refine wpAnyH_take (i := 27) (v := ?_) rfl (by kernel_rfl) (by kernel_rfl) (by kernel_rfl) (fun _ _ _ h => h) (Or.inl ⟨by rfl, ?_⟩) (by assumption) ?_
          rotate_left 1
          · intro wz hSw; obtain ⟨s0, s1, s2, s3, s4, s5, s6, s7, s8, s9, s10, s11, s12, s13, s14, s15, s16, s17, s18, s19, s20, s21, s22⟩ := hSw; go_simp; try with_reducible rfl
          try simp only [Act.put, List.getElem_toArray, List.getElem_cons_zero, List.getElem_cons_succ, List.setIfInBounds_toArray, List.set_cons_zero, List.set_cons_succ]
          refine wpAnyH_take (i := 28) (v := ?_) rfl (by kernel_rfl) (by kernel_rfl) (by kernel_rfl) (fun _ _ _ h => h) (Or.inl ⟨by rfl, ?_⟩) (by assumption) ?_
          rotate_left 1
          · intro wz hSw; obtain ⟨s0, s1, s2, s3, s4, s5, s6, s7, s8, s9, s10, s11, s12, s13, s14, s15, s16, s17, s18, s19, s20, s21, s22⟩ := hSw; go_simp; try with_reducible rfl
          try simp only [Act.put, List.getElem_toArray, List.getElem_cons_zero, List.getElem_cons_succ, List.setIfInBounds_toArray, List.set_cons_zero, List.set_cons_succ]
          refine wpAnyH_take (i := 29) (v := ?_) rfl (by kernel_rfl) (by kernel_rfl) (by kernel_rfl) (fun _ _ _ h => h) (Or.inl ⟨by rfl, ?_⟩) (by assumption) ?_
          rotate_left 1
          · intro wz hSw; obtain ⟨s0, s1, s2, s3, s4, s5, s6, s7, s8, s9, s10, s11, s12, s13, s14, s15, s16, s17, s18, s19, s20, s21, s22⟩ := hSw; go_simp; try with_reducible rfl
          try simp only [Act.put, List.getElem_toArray, List.getElem_cons_zero, List.getElem_cons_succ, List.setIfInBounds_toArray, List.set_cons_zero, List.set_cons_succ]
          refine wpAnyH_take (i := 30) (v := ?_) rfl (by kernel_rfl) (by kernel_rfl) (by kernel_rfl) (fun _ _ _ h => h) (Or.inl ⟨by rfl, ?_⟩) (by assumption) ?_
          rotate_left 1
          · intro wz hSw; obtain ⟨s0, s1, s2, s3, s4, s5, s6, s7, s8, s9, s10, s11, s12, s13, s14, s15, s16, s17, s18, s19, s20, s21, s22⟩ := hSw; go_simp; try with_reducible rfl
          try simp only [Act.put, List.getElem_toArray, List.getElem_cons_zero, List.getElem_cons_succ, List.setIfInBounds_toArray, List.set_cons_zero, List.set_cons_succ]
          refine wpAnyH_take (i := 31) (v := ?_) rfl (by kernel_rfl) (by kernel_rfl) (by kernel_rfl) (fun _ _ _ h => h) (Or.inl ⟨by rfl, ?_⟩) (by assumption) ?_
          rotate_left 1
          · intro wz hSw; obtain ⟨s0, s1, s2, s3, s4, s5, s6, s7, s8, s9, s10, s11, s12, s13, s14, s15, s16, s17, s18, s19, s20, s21, s22⟩ := hSw; go_simp; try with_reducible rfl
          try simp only [Act.put, List.getElem_toArray, List.getElem_cons_zero, List.getElem_cons_succ, List.setIfInBounds_toArray, List.set_cons_zero, List.set_cons_succ]
          refine wpAnyH_take (i := 32) (v := ?_) rfl (by kernel_rfl) (by kernel_rfl) (by kernel_rfl) (fun _ _ _ h => h) (Or.inl ⟨by rfl, ?_⟩) (by assumption) ?_
          rotate_left 1
          · intro wz hSw; obtain ⟨s0, s1, s2, s3, s4, s5, s6, s7, s8, s9, s10, s11, s12, s13, s14, s15, s16, s17, s18, s19, s20, s21, s22⟩ := hSw; go_simp; try with_reducible rfl
          try simp only [Act.put, List.getElem_toArray, List.getElem_cons_zero, List.getElem_cons_succ, List.setIfInBounds_toArray, List.set_cons_zero, List.set_cons_succ]
          refine wpAnyH_take (i := 33) (v := ?_) rfl (by kernel_rfl) (by kernel_rfl) (by kernel_rfl) (fun _ _ _ h => h) (Or.inl ⟨by rfl, ?_⟩) (by assumption) ?_
          rotate_left 1
          · intro wz hSw; obtain ⟨s0, s1, s2, s3, s4, s5, s6, s7, s8, s9, s10, s11, s12, s13, s14, s15, s16, s17, s18, s19, s20, s21, s22⟩ := hSw; go_simp; try with_reducible rfl
          try simp only [Act.put, List.getElem_toArray, List.getElem_cons_zero, List.getElem_cons_succ, List.setIfInBounds_toArray, List.set_cons_zero, List.set_cons_succ]
          refine wpAnyH_take (i := 34) (v := ?_) rfl (by kernel_rfl) (by kernel_rfl) (by kernel_rfl) (fun _ _ _ h => h) (Or.inl ⟨by rfl, ?_⟩) (by assumption) ?_
          rotate_left 1
          · intro wz hSw; obtain ⟨s0, s1, s2, s3, s4, s5, s6, s7, s8, s9, s10, s11, s12, s13, s14, s15, s16, s17, s18, s19, s20, s21, s22⟩ := hSw; go_simp; try with_reducible rfl
          try simp only [Act.put, List.getElem_toArray, List.getElem_cons_zero, List.getElem_cons_succ, List.setIfInBounds_toArray, List.set_cons_zero, List.set_cons_succ]
          refine wpAnyH_take (i := 35) (v := ?_) rfl (by kernel_rfl) (by kernel_rfl) (by kernel_rfl) (fun _ _ _ h => h) (Or.inl ⟨by rfl, ?_⟩) (by assumption) ?_
          rotate_left 1
          · intro wz hSw; obtain ⟨s0, s1, s2, s3, s4, s5, s6, s7, s8, s9, s10, s11, s12, s13, s14, s15, s16, s17, s18, s19, s20, s21, s22⟩ := hSw; go_simp; try with_reducible rfl
          try simp only [Act.put, List.getElem_toArray, List.getElem_cons_zero, List.getElem_cons_succ, List.setIfInBounds_toArray, List.set_cons_zero, List.set_cons_succ]
          refine wpAnyH_take (i := 36) (v := ?_) rfl (by kernel_rfl) (by kernel_rfl) (by kernel_rfl) (fun _ _ _ h => h) (Or.inl ⟨by rfl, ?_⟩) (by assumption) ?_
          rotate_left 1
          · intro wz hSw; obtain ⟨s0, s1, s2, s3, s4, s5, s6, s7, s8, s9, s10, s11, s12, s13, s14, s15, s16, s17, s18, s19, s20, s21, s22⟩ := hSw; go_simp; try with_reducible rfl
          try simp only [Act.put, List.getElem_toArray, List.getElem_cons_zero, List.getElem_cons_succ, List.setIfInBounds_toArray, List.set_cons_zero, List.set_cons_succ]
          refine wpAnyH_done (by kernel_rfl) ?_ _
          clear hHeld hS14
          go_wp2
          go_roundw
          case rel => exact ⟨k + 1, by omega, rfl, hW2⟩
          case measure => simp [intOf]; omega
      · obtain rfl : k = x0.m.length := by omega
        obtain ⟨wo, rfl⟩ : ∃ x, x = wr := ⟨_, rfl⟩
        have HW : Hid (Below ((w4.alloc (.cells #[.int .i64 uo, .int .i64 (na : Int), .int .i64 (nb : Int), .int .i64 uc] 37)).drew).heap.size (w4.alloc (.cells #[.int .i64 uo, .int .i64 (na : Int), .int .i64 (nb : Int), .int .i64 uc] 37)).drew wo) := hW
        clear hW hlt hk bM bN bI hY hB
        go_wp2
        go_loopw [120, 8] (fun j c wz => ∃ r : Nat, r ≤ 8 ∧ j = .int .i64 (r : Int) ∧ c = .int .i64 ((cntD x0 Y r : Nat) : Int) ∧ Below wo.heap.size wo wz) (fun j _ _ => 8 - (intOf j).toNat)
        case atStart => exact ⟨0, Nat.zero_le _, rfl, rfl, Below.refl _ _⟩
        case round =>
          obtain ⟨r, hr, rfl, rfl, hZ⟩ := hrel
          obtain ⟨bM, bN, bI, hY, hB⟩ := HBX.out
          have hX := Below.step0 HW.out hZ
          replace bM := (bM.below hX).drew
          replace bN := (bN.below hX).drew
          replace bI := bI.below hX
          replace hB := Below.step0 hB hX
          have hcl := cnt_le x0 Y r
          by_cases hlt : r < 8
          · have gr : (r : Int) < 8 := by omega
            have gr0 : (0 : Int) ≤ (r : Int) := by omega
            have HC1 : Hid (cntD x0 Y (r + 1) = if smV (reg Y (r : Int)) (reg x0 (r : Int)) = true then cntD x0 Y r else cntD x0 Y r + 1) := rfl
            obtain ⟨u0, u1, u2, u3, u4, u5, u6⟩ := box_reg bN rY (reg_at rY hlt)
            obtain ⟨v0, v1, v2, v3, v4, v5, v6⟩ := box_reg bM r0 (reg_at r0 hlt)
            have HZd : Hid (Below wo.heap.size wo wr.drew) := hZ.drew
            clear bM bN bI hY hB hX hZ
            generalize reg Y (r : Int) = u at *
            generalize reg x0 (r : Int) = v at *
            have gw : IntKind.i64.wrap (((cntD x0 Y r : Nat) : Int) + 1) = ((cntD x0 Y r + 1 : Nat) : Int) := by rw [IntKind.wrap_i64]; omega
            generalize hn0 : cntD x0 Y r = n0 at *
            clear hcl
            by_cases huv : u = v
            · rw [smV_yes.2 huv, if_pos rfl] at HC1
              subst huv
              clear gw hn0
              go_wp2
              go_region
              all_goals go_wp2
              go_roundw
              case rel => exact ⟨r + 1, by omega, rfl, by rw [HC1.out], HZd.out⟩
              case measure => simp [intOf]; omega
            · have hsm : smV u v = false := by
                cases h : smV u v
                · rfl
                · exact absurd (smV_yes.1 h) huv
              rw [hsm, if_neg (by decide)] at HC1
              have hd := mvDiff huv
              clear huv hsm hn0
              obtain ⟨ui, un, up, ub1, ul, ua1, us⟩ := u
              obtain ⟨vi, vn, vp, vb1, vl, va1, vs⟩ := v
              dsimp only at *
              rcases hd with h | ⟨rfl, h⟩ | ⟨rfl, rfl, h⟩ | ⟨rfl, rfl, rfl, h⟩ | ⟨rfl, rfl, rfl, rfl, h⟩ | ⟨rfl, rfl, rfl, rfl, rfl, h⟩ | ⟨rfl, rfl, rfl, rfl, rfl, rfl, h⟩
              all_goals
                go_wp2
                go_region
                all_goals go_wp2
                go_roundw
                case rel => exact ⟨r + 1, by omega, rfl, by rw [HC1.out]; exact congrArg (Value.int .i64) (by omega), HZd.out⟩
                case measure => simp [intOf]; omega
          · obtain rfl : r = 8 := by omega
            have qI := bI.cell
            have hcc := HC.out
            generalize cntD x0 Y 8 = n0 at *
            clear bM bN hY hX hZ hlt hr hcl
            by_cases h1 : n0 ≤ 1
            · have e1 : decide (n0 ≤ 1) = true := decide_eq_true h1
              have e2 : decide ((n0 : Int) ≤ 1) = true := decide_eq_true (by omega)
              clear hcc h1
              go_wp2
              go_ret
              exact ⟨rfl, hB⟩
            · have e1 : decide (n0 ≤ 1) = false := decide_eq_false h1
              have e2 : decide ((n0 : Int) ≤ 1) = false := decide_eq_false (by omega)
              have e3 := hcc.resolve_right h1
              subst e3
              clear hcc h1
              go_wp2
              go_ret
              exact ⟨rfl, hB⟩
  · have gE : (stpE x0 != 0) = true := by simpa using hE
    generalize stpE x0 = E at *
    generalize stpM x0 = Y at *
    clear hE A0 hS
    have iY : ∀ q', (Tryd.prog.info? 31).map (·.size) = some (mcC Y q').length := fun q' => mach_info rY
    have zY : ∀ q', z64.toArray.size = (mcC Y q').length := fun q' => by rw [mc_length rY]; rfl
    go_enter Tryd.func3, Tryd.ntmps3
    go_wp2_with (first | ((with_reducible refine at_load ?_); refine pl_load_box (by rfl) 31 (.tmp 1) rfl w.heap.size (by rfl) (mcC x0 q0) bM _ Tryd.underlying31 rfl hi0 ?_) | (go_at_call 7; refine (cS _ (HA.out _ hB) (HS.out _ hB)).mono ?_; rintro e w1 ⟨q1, rfl, hbb, hY, -⟩; clear cS; replace bM := bM.below hbb; replace hB := Below.step0 hB hbb;  clear hbb) | ((with_reducible refine at_alloc ?_); refine wpList_alloc1 rfl 31 rfl _ (alloc_mach _) ?_) | ((with_reducible refine at_store ?_); refine pl_store_box rfl 31 (.tmp 3) (.tmp 13) rfl w1.heap.size (mcC Y q1) (by rfl) (by rfl) z64.toArray (Box.new _ _ _) (zY q1) (iY q1) (mc_one _ _) ?_; intro bN; have nMN := bM.lt; have hbw : Below w1.heap.size w1 ((w1.alloc (.cells z64.toArray 31)).setCells w1.heap.size 0 (mcC Y q1)) := below_cells _ _ _ _ ((Below.refl _ _).alloc (Nat.le_refl _) _) (Nat.le_refl _); replace bM := bM.below hbw; replace hY := hY.below hbw; replace hB := Below.step0 hB hbw; generalize ((w1.alloc (.cells z64.toArray 31)).setCells w1.heap.size 0 (mcC Y q1)) = w2 at *; clear hbw) | (go_at_call 8; refine (keep_stepped _ (HS.out _ hB)).mono ?_; rintro e w3 ⟨rfl, hbb⟩;  replace bM := bM.below hbb; replace bN := bN.below hbb; replace hY := hY.below hbb; replace hB := Below.step0 hB hbb;  clear hbb) | (go_at_call 9; refine (cO _ (HA.out _ hB) (HS.out _ hB)).mono ?_; rintro e w4 ⟨rfl, hbb⟩; clear cO; replace bM := bM.below hbb; replace bN := bN.below hbb; replace hY := hY.below hbb; replace hB := Below.step0 hB hbb; have nMI := bM.lt; have nNI := bN.lt; clear hbb))
    go_ret
    exact ⟨rfl, hB⟩

set_option maxRecDepth 1000000 in
theorem contract (H : Type) (enc : TypeId × Value → H) (W : World) (base : Nat) (args : Array Value) (ds gs : List (DataW H)) (before : List MemPlace)
    (hval : ∀ (j : Nat) t v, Tryd.f3.params[j]? = some t → args[j]? = some v → Value.okWide Tryd.prog W .any base t v)
    (hW : DataW.Whole enc Tryd.prog Tryd.f3.params.toList Rows.stepFewSpec.vars false W args.toList ds gs before) (hsh : W.ShapedOpen Tryd.prog) (hz : (DataW.weightsEach Tryd.prog (Tryd.f3.params.toList ++ (OpenSpec.ofChange Rows.stepFewSpec).bare.plain.varTypes Tryd.prog) (ds ++ gs)).all (· ≤ reachBytes) = true) (hL : laidMet Tryd.prog Rows.stepFewRow.laid W) :
    Calls Tryd.prog 3 args W fun e W' => ∃ v, e = .returned v ∧ Rows.stepFewSpec.post enc Tryd.prog Tryd.f3 false true false false W args v W' := by
  have hW' := hW
  obtain ⟨p, q, hA0, hV, rfl, hfz, hnd⟩ := hW
  have hA : DataW.TrodAll enc Tryd.prog W 0 (fun _ => true) true Tryd.f3.params.toList args.toList ds p := hA0
  rw [Tryd.params3] at hA hval
  obtain ⟨v0, vs0, d0, ds0, p0, q0, hargs, rfl, rfl, h0, r0⟩ := trodAll_cons hA
  obtain ⟨rfl, rfl, rfl⟩ := trodAll_nil r0
  obtain rfl : args = #[v0] := by cases args; simp_all
  obtain ⟨rfl, rfl⟩ := trodVars_none hV
  have k0 := h0
  have lt0 : ∀ x ∈ p0, x.block < W.heap.size := by obtain ⟨m, hm⟩ := k0; exact DataW.trod_lt m _ _ _ hm
  obtain ⟨x0, q0, rfl, O0, A0⟩ := open_mach (hval 0 31 v0 rfl rfl) k0
  clear hA0
  refine (walk x0 q0 O0 W A0 (shp_of_laid hL (.head _))).mono fun e W' ⟨he, bel⟩ => ?_
  subst he
  exact ⟨_, rfl, _, _, _, [], _, [], hW', trodAll_mk1 (shut_bool Tryd.underlying4 _), (trodAll_cons_mk (Below.trod laidOut (by kernel_rfl) (of_decide_eq_true (by kernel_rfl)) k0 bel lt0) trodAll_mk0), rfl, bel.frame _, fun h => by cases h⟩

theorem reads (os : Os) {H : Type} (enc : TypeId × Value → H) : ∃ places, DataW.whole enc Tryd.prog ((World.laidAll Tryd.prog os Rows.stepFewRow.laid).forCall (fun _ _ => 0) ⟨#[], #[witM], []⟩).memory Tryd.f3.params.toList Rows.stepFewSpec.vars false (#[witM] : Array Value).toList 8 = some ([.agg [.agg [.agg [.lit (.bool false), .lit (.int .i64 0), .agg [.lit (.int .i64 0), .lit (.int .i64 0), .lit (.int .i64 0), .lit (.int .i64 0), .lit (.int .i64 0)]], .agg [.lit (.bool false), .lit (.int .i64 0), .agg [.lit (.int .i64 0), .lit (.int .i64 0), .lit (.int .i64 0), .lit (.int .i64 0), .lit (.int .i64 0)]], .agg [.lit (.bool false), .lit (.int .i64 0), .agg [.lit (.int .i64 0), .lit (.int .i64 0), .lit (.int .i64 0), .lit (.int .i64 0), .lit (.int .i64 0)]], .agg [.lit (.bool false), .lit (.int .i64 0), .agg [.lit (.int .i64 0), .lit (.int .i64 0), .lit (.int .i64 0), .lit (.int .i64 0), .lit (.int .i64 0)]], .agg [.lit (.bool false), .lit (.int .i64 0), .agg [.lit (.int .i64 0), .lit (.int .i64 0), .lit (.int .i64 0), .lit (.int .i64 0), .lit (.int .i64 0)]], .agg [.lit (.bool false), .lit (.int .i64 0), .agg [.lit (.int .i64 0), .lit (.int .i64 0), .lit (.int .i64 0), .lit (.int .i64 0), .lit (.int .i64 0)]], .agg [.lit (.bool false), .lit (.int .i64 0), .agg [.lit (.int .i64 0), .lit (.int .i64 0), .lit (.int .i64 0), .lit (.int .i64 0), .lit (.int .i64 0)]], .agg [.lit (.bool false), .lit (.int .i64 0), .agg [.lit (.int .i64 0), .lit (.int .i64 0), .lit (.int .i64 0), .lit (.int .i64 0), .lit (.int .i64 0)]]], .agg [.lit (.int .i64 0), .lit (.int .i64 0), .lit (.int .i64 0), .lit (.int .i64 0), .lit (.int .i64 0)], .nil, .nil, .nil]], [], places) :=
  ⟨[], by kernel_rfl⟩
theorem laid_met (os : Os) : laidMet Tryd.prog Rows.stepFewRow.laid ((World.laidAll Tryd.prog os Rows.stepFewRow.laid).forCall (fun _ _ => 0) ⟨#[], #[witM], []⟩).memory :=
  laidMet_laidAll _ (by kernel_rfl) (by kernel_rfl)

set_option maxRecDepth 100000 in
theorem lifted (os : Os) (started : os.Started) (H : Type) (enc : TypeId × Value → H) (F : Stop.Interp) :
    ReturnsInHanded {} Tryd.checked os 3 .any ((OpenSpec.ofChange Rows.stepFewSpec).preRow enc Tryd.prog Tryd.f3 Rows.stepFewRow.domain false Rows.stepFewRow.laid) (((OpenSpec.ofChange Rows.stepFewSpec).at F).post enc Tryd.prog Tryd.f3 false true false false) := by
  obtain ⟨places, hx⟩ := reads os enc
  refine returnsInHanded_of_row (C := Tryd.checked) (s := OpenSpec.ofChange Rows.stepFewSpec) own started (by kernel_rfl) Tryd.func3
    (witness_row_at (enc := enc) (C := Tryd.checked) false (World.laidAll Tryd.prog os Rows.stepFewRow.laid) #[witM] (World.laidAll_os _ _ _) (by kernel_rfl) (by kernel_rfl) (by kernel_rfl)
      (OpenSpec.preRow_of_cond 8 hx (by kernel_rfl) (fun k hk => by cases hk) (by kernel_rfl) (laid_met os))) ?_
  intro W base args ds gs before hval hW _ hcond hz hL hsh _
  exact contract H enc W base args ds gs before hval hW hsh hz hL

theorem said : Rows.StepFewSaid :=
  OpenClaim.holds_of_cond 3 Tryd.f3 rfl rfl rfl rfl rfl rfl rfl ⟨rfl, rfl, rfl, rfl, rfl⟩ rfl rfl rfl rfl rfl (by kernel_rfl) Tryd.func3 (by kernel_rfl)
    (of_decide_eq_true (by kernel_rfl)) (by unfold Func.isWrapper; first | (rw [if_pos (by decide +kernel)]; kernel_rfl) | (rw [if_neg (by decide +kernel)]; exact ⟨rfl, rfl⟩))
    (fun os started H enc _ F => by rw [OpenClaim.pre_eq_preRow]; exact lifted os started H enc F)
theorem plain (f : FuncId) (fn : Func) (hf : Tryd.pinned.checked.prog.funcNamed Rows.stepFewRow.func = some f) (hfn : Tryd.pinned.checked.prog.funcs[f]? = some fn) :
    true = Tryd.pinned.checked.prog.looks [] ∧ ∀ (j : Nat) t, fn.params[j]? = some t → Tryd.pinned.checked.prog.wantsStandIn t = false := by
  obtain rfl : f = 3 := Option.some.inj ((show Tryd.prog.funcNamed Rows.stepFewRow.func = some 3 by kernel_rfl).symm.trans hf) |>.symm
  obtain rfl : fn = Tryd.f3 := (Option.some.inj (Tryd.func3.symm.trans hfn)).symm
  refine ⟨by kernel_rfl, fun j t ht => ?_⟩
  rw [Tryd.params3] at ht
  have hm : t ∈ [31] := by simpa using Array.mem_of_getElem? ht
  have hall : ([31].all fun u => !Tryd.prog.wantsStandIn u) = true := by kernel_rfl
  exact (show Tryd.prog.wantsStandIn t = false by simpa using List.all_eq_true.1 hall t hm)
theorem proved : Rows.StepFewCardSaid :=
  Claim7.holds_tied_plain_at .later [] _ _ _ _ said (fun _ h => by cases h) (by kernel_rfl) (fun _ h => by cases h) stepFew_row_tie rfl ⟨rfl, rfl⟩ (by kernel_rfl) rfl plain (by kernel_rfl)
#print axioms proved
end Go.Proofs.YthapfaohnliklaaDoor.stepFew
