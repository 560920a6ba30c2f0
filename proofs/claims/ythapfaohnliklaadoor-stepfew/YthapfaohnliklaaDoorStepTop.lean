/- step.Step answers what chapter 9 says of a machine, for whatever machine, and turns nothing that was in memory. -/
import Derived.Test.YthapfaohnliklaaDoorRows
import Derived.Test.YthapfaohnliklaaDoorBits
import Derived.Test.YthapfaohnliklaaDoorKeyPure
import Derived.Test.YthapfaohnliklaaDoorCellPure
import Derived.Test.YthapfaohnliklaaDoorValsArg
import Derived.Test.YthapfaohnliklaaDoorMemPure
import Derived.Test.YthapfaohnliklaaDoorInstShape
import Derived.Test.YthapfaohnliklaaDoorInstDev
import Derived.Test.YthapfaohnliklaaDoorMachArg
import Derived.Test.YthapfaohnliklaaDoorStepRow
import Derived.Test.YthapfaohnliklaaDoorStepChk
import Derived.Test.YthapfaohnliklaaDoorStepChk2
import Derived.Test.YthapfaohnliklaaDoorStepOff
import Derived.Test.YthapfaohnliklaaDoorStepSmall
import Derived.Test.YthapfaohnliklaaDoorStepMid
import Derived.Test.YthapfaohnliklaaDoorStepAct
import Derived.Test.YthapfaohnliklaaDoorStepFetch
import Derived.Test.YthapfaohnliklaaDoorStepOwn
import Derived.Test.YthapfaohnliklaaDoorStepStep
import Derived.WalkKit
import Derived.ProofKit
import Derived.OpenShut
import Derived.Deep.MidRow
import Derived.Laws.ResultCell
import Derived.Deep.CutBlock
namespace Go.Proofs.YthapfaohnliklaaDoor
open Go.ChangeShapes Go.WideShapes Go.ChangeAt Go.RowKit
set_option linter.unusedSimpArgs false
set_option linter.unusedVariables false
set_option maxRecDepth 100000

def zeroM : MC := ⟨[nil0, nil0, nil0, nil0, nil0, nil0, nil0, nil0], ⟨0, 0, 0, 0, 0⟩, [], [], []⟩
def z73 : Array Value := #[.bool false, .int .i64 0, .int .i64 0, .int .i64 0, .int .i64 0, .int .i64 0, .int .i64 0, .bool false, .int .i64 0, .int .i64 0, .int .i64 0, .int .i64 0, .int .i64 0, .int .i64 0, .bool false, .int .i64 0, .int .i64 0, .int .i64 0, .int .i64 0, .int .i64 0, .int .i64 0, .bool false, .int .i64 0, .int .i64 0, .int .i64 0, .int .i64 0, .int .i64 0, .int .i64 0, .bool false, .int .i64 0, .int .i64 0, .int .i64 0, .int .i64 0, .int .i64 0, .int .i64 0, .bool false, .int .i64 0, .int .i64 0, .int .i64 0, .int .i64 0, .int .i64 0, .int .i64 0, .bool false, .int .i64 0, .int .i64 0, .int .i64 0, .int .i64 0, .int .i64 0, .int .i64 0, .bool false, .int .i64 0, .int .i64 0, .int .i64 0, .int .i64 0, .int .i64 0, .int .i64 0, .int .i64 0, .int .i64 0, .int .i64 0, .int .i64 0, .int .i64 0, .slice none 0 0, .slice none 0 0, .slice none 0 0, .int .i64 0, .int .i64 0, .int .i64 0, .int .i64 0, .int .i64 0, .int .i64 0, .int .i64 0, .int .i64 0, .int .i64 0]
theorem z73_size : z73.size = 73 := rfl
def zeroA : MA := ⟨none, 0, none, 0, none, 0⟩
def endE : AR → Int
  | .no t => thE t
  | .ok _ _ => 0
def endM : AR → MC
  | .no _ => zeroM
  | .ok x n => { x with k := n }
/-- P19: what is told of a step, and the machine behind it. -/
def stpE (x : MC) : Int := if mcE x = 0 then endE (stepA x) else mcE x
def stpM (x : MC) : MC := if mcE x = 0 then endM (stepA x) else zeroM
/-- Its lists lie from block b on. -/
structure FreshQ (b : Nat) (q : MA) : Prop where
  m : ∀ y ∈ q.m, b ≤ y.block
  s : ∀ y ∈ q.s, b ≤ y.block
  o : ∀ y ∈ q.o, b ≤ y.block
theorem fresh_zero (b : Nat) : FreshQ b zeroA := ⟨fun y hy => (by cases hy), fun y hy => (by cases hy), fun y hy => (by cases hy)⟩
theorem key_no {x : MC} {a : Int} {K : KK} {n : K5} {t : Th} (h : keyR x a K n = .no t) : thE t ≠ 0 := by
  unfold keyR at h
  split at h
  · cases h
  · rename_i he
    cases h
    exact he
theorem jump_no {x : MC} {i : ID} {n : K5} {t : Th} (h : jumpR x i n = .no t) : thE t ≠ 0 := by
  unfold jumpR at h
  split at h
  · cases h
  · cases h
    decide
theorem calc_no {x : MC} {i : ID} {n : K5} {b c : MV} {t : Th} (h : calcR x i n b c = .no t) : thE t ≠ 0 := by
  unfold calcR at h
  split at h
  · cases h
    decide
  · split at h
    · cases h
      decide
    · split at h
      · rename_i hd
        cases h
        exact hd.2
      · cases h
theorem act_no {x : MC} {i : ID} {n : K5} {t : Th} (h : actR x i n = .no t) : thE t ≠ 0 := by
  unfold actR at h
  split at h
  all_goals first
    | exact calc_no h
    | exact jump_no h
    | (cases h; done)
    | (cases h; decide)
    | (repeat' split at h
       all_goals first
         | exact key_no h
         | exact jump_no h
         | (cases h; done)
         | (cases h; decide)
         | (cases h; assumption))
theorem step_no {x : MC} {t : Th} (h : stepA x = .no t) : thE t ≠ 0 := by
  unfold stepA at h
  split at h
  · exact act_no h
  · rename_i he
    cases h
    exact he
theorem build_st (x : MC) (q : MA) (h8 : x.r.length = 8) (w : World) : (Instr.build 54 #[(0, .agg (mcC x q).toArray)]).run Tryd.prog w = .ok (.agg (stC x q ⟨0, 0, 0, 0, 0⟩ ⟨0, 0, 0, 0, 0⟩).toArray) w := by
  obtain ⟨r, k, m, s, o⟩ := x
  obtain ⟨r0, r1, r2, r3, r4, r5, r6, r7, rfl⟩ := list8 h8
  kernel_rfl
theorem alloc_st (w : World) : (Instr.alloc 54 true (.tuple #[])).run Tryd.prog w = .ok (.pointer (some ⟨w.heap.size, 0, none⟩)) (w.alloc (.cells z73 54)) := by
  kernel_rfl
theorem wpList_build1 {ops : Array Oper} {rest : List Oper} {o : Oper} {a : Act} {w : World} {Q : Exit → Act → World → Prop} (hg : o.guard = none) (ty : TypeId) (x : Operand) (ho : o.op = .build ty #[(0, x)]) (u v : Value) (hx : a.eval x = u) (hr : (Instr.build ty #[(0, u)]).run Tryd.prog w = .ok v w)
    (h : wpList Tryd.prog ops Q rest (a.put o.dst v) w) : wpList Tryd.prog ops Q (o :: rest) a w :=
  wpList_plain hg fun K hK => by
    unfold Oper.wp
    simp [execOp, ho, hx, hr, Result.andThen]
    exact hK _ _ h
theorem wpList_alloc1 {ops : Array Oper} {rest : List Oper} {o : Oper} {a : Act} {w w' : World} {Q : Exit → Act → World → Prop} (hg : o.guard = none) (ty : TypeId) (ho : o.op = .alloc ty) (v : Value) (hr : (Instr.alloc ty true (.tuple #[])).run Tryd.prog w = .ok v w')
    (h : wpList Tryd.prog ops Q rest (a.put o.dst v) w') : wpList Tryd.prog ops Q (o :: rest) a w :=
  wpList_plain hg fun K hK => by
    unfold Oper.wp
    simp [execOp, ho, hr, Result.andThen]
    exact hK _ _ h
theorem info_st : (Tryd.prog.info? 54).map (·.size) = some 73 := by kernel_rfl
theorem st_one (x : MC) (q : MA) (i : ID) (n : K5) : ∀ u ∈ stC x q i n, u.oneCell' = true := fun u hu => by
  unfold stC at hu
  rcases List.mem_append.1 hu with h | h
  · exact mc_one _ _ u h
  · simp only [stT, List.mem_cons, List.not_mem_nil, or_false] at h
    rcases h with rfl | rfl | rfl | rfl | rfl | rfl | rfl | rfl | rfl <;> rfl
theorem zero_lit : (mcC zeroM zeroA).toArray = #[.bool false, .int .i64 0, .int .i64 0, .int .i64 0, .int .i64 0, .int .i64 0, .int .i64 0, .bool false, .int .i64 0, .int .i64 0, .int .i64 0, .int .i64 0, .int .i64 0, .int .i64 0, .bool false, .int .i64 0, .int .i64 0, .int .i64 0, .int .i64 0, .int .i64 0, .int .i64 0, .bool false, .int .i64 0, .int .i64 0, .int .i64 0, .int .i64 0, .int .i64 0, .int .i64 0, .bool false, .int .i64 0, .int .i64 0, .int .i64 0, .int .i64 0, .int .i64 0, .int .i64 0, .bool false, .int .i64 0, .int .i64 0, .int .i64 0, .int .i64 0, .int .i64 0, .int .i64 0, .bool false, .int .i64 0, .int .i64 0, .int .i64 0, .int .i64 0, .int .i64 0, .int .i64 0, .bool false, .int .i64 0, .int .i64 0, .int .i64 0, .int .i64 0, .int .i64 0, .int .i64 0, .int .i64 0, .int .i64 0, .int .i64 0, .int .i64 0, .int .i64 0, .slice none 0 0, .slice none 0 0, .slice none 0 0] := rfl
theorem box_pre {w : World} {S : Nat} {cs ds : List Value} (h : Box w S (cs ++ ds).toArray) : w.rangeAt S 0 cs := fun j u hj => by
  rw [Nat.zero_add, h.cell, List.getElem?_toArray, List.getElem?_append_left (List.getElem?_eq_some_iff.1 hj).1]
  exact hj
theorem rows_far {w : World} {b : Nat} {a : Option Addr} {cs : List Value} (hf : ∀ y ∈ a, y.block ≠ b) (h : RowAt w a cs) (vs : List Value) : RowAt (w.setCells b 0 vs) a cs := by
  rcases h with h | ⟨B, off, rfl, hB, hc⟩
  · exact .inl h
  · refine .inr ⟨B, off, rfl, by rw [size_cells]; exact hB, fun j u' hj => ?_⟩
    rw [World.cell?_setCells_out b vs 0 w ⟨B, off + j, none⟩ (fun e _ => absurd e (hf ⟨B, off, none⟩ rfl))]
    exact hc j u' hj
theorem st_sz {x : MC} {q1 : MA} {i : ID} {n : K5} (h8 : x.r.length = 8) : (stC x q1 i n).toArray.size = 73 := by
  rw [List.size_toArray]
  exact st_len h8
theorem st_inf {x : MC} {q1 : MA} {i : ID} {n : K5} (h8 : x.r.length = 8) : (Tryd.prog.info? 54).map (·.size) = some (stC x q1 i n).toArray.size := by
  rw [st_sz h8]
  exact info_st
theorem st_made {w2 : World} {b : Nat} {x : MC} {q1 : MA} (h8 : x.r.length = 8) (hA : McAt w2 x q1) (fm : ∀ y ∈ q1.m, b < y.block ∧ y.block < w2.heap.size) (fs : ∀ y ∈ q1.s, b < y.block ∧ y.block < w2.heap.size) (fo : ∀ y ∈ q1.o, b < y.block ∧ y.block < w2.heap.size) (hb : b < w2.heap.size) :
    St ((w2.alloc (.cells z73 54)).setCells w2.heap.size 0 (stC x q1 (⟨0, 0, 0, 0, 0⟩ : ID) (⟨0, 0, 0, 0, 0⟩ : K5)).toArray.toList) w2.heap.size b x q1 (⟨0, 0, 0, 0, 0⟩ : ID) (⟨0, 0, 0, 0, 0⟩ : K5) ∧
    Below w2.heap.size w2 ((w2.alloc (.cells z73 54)).setCells w2.heap.size 0 (stC x q1 (⟨0, 0, 0, 0, 0⟩ : ID) (⟨0, 0, 0, 0, 0⟩ : K5)).toArray.toList) := by
  have hB : Below w2.heap.size w2 ((w2.alloc (.cells z73 54)).setCells w2.heap.size 0 (stC x q1 (⟨0, 0, 0, 0, 0⟩ : ID) (⟨0, 0, 0, 0, 0⟩ : K5)).toArray.toList) := below_cells _ _ _ _ ((Below.refl _ _).alloc (Nat.le_refl _) _) (Nat.le_refl _)
  have bx := box_cells (Box.new w2 z73 54) (cs := stC x q1 (⟨0, 0, 0, 0, 0⟩ : ID) (⟨0, 0, 0, 0, 0⟩ : K5)) (by rw [st_len h8]; exact z73_size)
  refine ⟨⟨bx, hA.below hB, ⟨fun y hy => ?_, fun y hy => ?_, fun y hy => ?_⟩, h8, Nat.lt_of_lt_of_le hb hB.size⟩, hB⟩
  · have := fm y hy; omega
  · have := fs y hy; omega
  · have := fo y hy; omega
set_option maxHeartbeats 4000000 in
theorem step_top (x : MC) (q : MA) (w : World) (hA : McAt w x q) (hO : McB x) (hS : Shp w) :
    Calls Tryd.prog 7 #[.agg (mcC x q).toArray] w fun r w' => ∃ q', r = .returned (.tuple #[.agg (mcC (stpM x) q').toArray, .int .i64 (stpE x)]) ∧ Below w.heap.size w w' ∧ McAt w' (stpM x) q' ∧ FreshQ w.heap.size q' := by
  have cC := fun w hA => step_check x q w hA hO
  have cO := fun w hA => step_own x q w hA hO.r8
  have r8 := hO.r8
  obtain ⟨L, hL⟩ : ∃ L, mcC x q = L := ⟨_, rfl⟩
  have hlen : L.length = 64 := by rw [← hL]; exact mc_length r8
  have hi : (Tryd.prog.info? 31).map (·.size) = some L.length := by rw [hlen]; exact info_mach
  have HI : Hid ((Tryd.prog.info? 31).map (·.size) = some L.length) := hi
  have HA : Hid (∀ w', Below w.heap.size w w' → McAt w' x q) := fun w' hb => hA.below hb
  have HS : Hid (∀ w', Below w.heap.size w w' → Shp w') := fun w' hb => hS.below hb
  have HO : Hid (McB x) := hO
  have HR : Hid (x.r.length = 8) := r8
  rw [hL] at cC cO ⊢
  unfold stpM stpE
  clear hA hS hO r8 hi hlen hL
  by_cases hE : mcE x = 0
  · rw [if_pos hE, if_pos hE]
    obtain ⟨_, _, e3, e4, e5⟩ := mcE_parts hE
    rw [hE] at cC
    replace cO := fun w hA => cO w hA (mem_small e3).1 (stk_small e4) (out_small e5)
    obtain ⟨A, hAe⟩ : ∃ A, stepA x = A := ⟨_, rfl⟩
    have hno : ∀ t, A = .no t → ¬ thE t = 0 := fun t ht => step_no (hAe.trans ht)
    have cS : ∀ W S q', St W S (w.heap.size + 1) x q' (⟨0, 0, 0, 0, 0⟩ : ID) (⟨0, 0, 0, 0, 0⟩ : K5) → Shp W → q'.cs = x.s.length → q'.co = x.o.length → Calls Tryd.prog 20 #[.pointer (some ⟨S, 0, none⟩)] W fun r w' => Steps W S (w.heap.size + 1) A r w' := fun W S q' h hS fs fo => by
      rw [← hAe]
      exact step_step h hS hE HO.out.r HO.out.m fs fo
    rw [hAe]
    clear hE e3 e4 e5 hAe
    cases A with
    | no t =>
      show Calls _ _ _ _ fun r w' => ∃ q', r = .returned (.tuple #[.agg (mcC zeroM q').toArray, .int .i64 (thE t)]) ∧ _ ∧ McAt w' zeroM q' ∧ FreshQ w.heap.size q'
      have gT : (thE t != 0) = true := by simpa using hno t rfl
      replace cS : ∀ W S q', St W S (w.heap.size + 1) x q' (⟨0, 0, 0, 0, 0⟩ : ID) (⟨0, 0, 0, 0, 0⟩ : K5) → Shp W → q'.cs = x.s.length → q'.co = x.o.length → Calls Tryd.prog 20 #[.pointer (some ⟨S, 0, none⟩)] W fun r w' => r = .returned (.int .i64 (thE t)) ∧ Off S W w' := cS
      generalize thE t = E at *
      clear hno
      go_enter Tryd.func7, Tryd.ntmps7
      go_upto_region 1 with fail
      obtain ⟨w0, hw0⟩ : ∃ w0, w0 = (w.alloc (.cells L.toArray 31)).alloc (.cells #[.bool false, .int .i64 0, .int .i64 0, .int .i64 0, .int .i64 0, .int .i64 0, .int .i64 0, .bool false, .int .i64 0, .int .i64 0, .int .i64 0, .int .i64 0, .int .i64 0, .int .i64 0, .bool false, .int .i64 0, .int .i64 0, .int .i64 0, .int .i64 0, .int .i64 0, .int .i64 0, .bool false, .int .i64 0, .int .i64 0, .int .i64 0, .int .i64 0, .int .i64 0, .int .i64 0, .bool false, .int .i64 0, .int .i64 0, .int .i64 0, .int .i64 0, .int .i64 0, .int .i64 0, .bool false, .int .i64 0, .int .i64 0, .int .i64 0, .int .i64 0, .int .i64 0, .int .i64 0, .bool false, .int .i64 0, .int .i64 0, .int .i64 0, .int .i64 0, .int .i64 0, .int .i64 0, .bool false, .int .i64 0, .int .i64 0, .int .i64 0, .int .i64 0, .int .i64 0, .int .i64 0, .int .i64 0, .int .i64 0, .int .i64 0, .int .i64 0, .int .i64 0, .slice none 0 0, .slice none 0 0, .slice none 0 0] 31) := ⟨_, rfl⟩
      rw [← hw0]
      obtain ⟨Z, zZ, bZ⟩ : ∃ Z : Array Value, Z.size = 64 ∧ Box w0 (w.heap.size + 1) Z := by rw [hw0]; exact ⟨_, rfl, Box.new1 _ _ _ _⟩
      have bM : Box w0 w.heap.size L.toArray := by rw [hw0]; exact (Box.new _ _ _).alloc _
      have hB : Below w.heap.size w w0 := by rw [hw0]; exact two _ _
      have HZ : Hid (Z.size = 64) := zZ
      clear hw0 zZ
      go_wp2_with (first | (refine wpList_load_mid rfl 31 (.tmp 1) rfl w.heap.size 0 (by rfl) L _ (box_range bM) Tryd.underlying31 rfl HI.out ?_) | (go_at_call 14; refine (cC _ (HA.out _ hB)).mono ?_; rintro e1 w1 ⟨rfl, hbb⟩; replace bM := bM.below hbb; replace bZ := bZ.below hbb; replace hB := Below.step0 hB hbb; clear hbb cC) | (go_at_call 19; refine (cO _ (HA.out _ hB)).mono ?_; rintro e1 w2 ⟨q1, rfl, hbb, hA2, f1, f2, f3, fs, fo, u1, u2, u3⟩; have z1 := bZ.lt; replace bZ := bZ.below hbb; have hz1 := hbb.size; replace hB := Below.step0 hB hbb; have HQ : Hid (McAt w2 x q1 ∧ (∀ y ∈ q1.m, w.heap.size + 1 < y.block ∧ y.block < w2.heap.size) ∧ (∀ y ∈ q1.s, w.heap.size + 1 < y.block ∧ y.block < w2.heap.size) ∧ (∀ y ∈ q1.o, w.heap.size + 1 < y.block ∧ y.block < w2.heap.size)) := ⟨hA2, fun y hy => ⟨Nat.lt_of_lt_of_le z1 (f1 y hy), u1 y hy⟩, fun y hy => ⟨Nat.lt_of_lt_of_le z1 (f2 y hy), u2 y hy⟩, fun y hy => ⟨Nat.lt_of_lt_of_le z1 (f3 y hy), u3 y hy⟩⟩; clear hbb cO hA2 f1 f2 f3 u1 u2 u3 z1 hz1 bM) | (refine wpList_build1 rfl 54 (.tmp 14) rfl (.agg (mcC x q1).toArray) (.agg (stC x q1 (⟨0, 0, 0, 0, 0⟩ : ID) (⟨0, 0, 0, 0, 0⟩ : K5)).toArray) (by rfl) (build_st x q1 HR.out _) ?_) | (refine wpList_alloc1 rfl 54 rfl _ (alloc_st _) ?_) | (refine wpList_store_mid rfl 54 (.tmp 5) (.tmp 15) rfl w2.heap.size 0 (stC x q1 (⟨0, 0, 0, 0, 0⟩ : ID) (⟨0, 0, 0, 0, 0⟩ : K5)).toArray (by rfl) (by rfl) (box_there (Box.new w2 z73 54) (by rw [st_sz HR.out]; exact z73_size)) (st_inf HR.out) (all_oneCell_toArray (st_one _ _ _ _)) ?_; have hW := st_made HR.out HQ.out.1 HQ.out.2.1 HQ.out.2.2.1 HQ.out.2.2.2 bZ.lt; obtain ⟨W, hWe⟩ : ∃ W, W = (w2.alloc (.cells z73 54)).setCells w2.heap.size 0 (stC x q1 (⟨0, 0, 0, 0, 0⟩ : ID) (⟨0, 0, 0, 0, 0⟩ : K5)).toArray.toList := ⟨_, rfl⟩; rw [← hWe] at hW ⊢; obtain ⟨hst, hbW⟩ := hW; have hz3 := bZ.lt; replace bZ := bZ.below hbW; have hzz := hB.size; replace hB := Below.step0 hB hbW; clear hWe hbW HQ) | (go_at_call 20; refine (cS _ _ _ hst (HS.out _ hB) fs fo).mono ?_; rintro r w3 ⟨rfl, hO⟩; have hS1 := hst.box.lt; have hz2 := bZ.lt; replace bZ := hO.box bZ (by omega); replace hB := hB.trans (hO.to (n := w.heap.size) hzz (Nat.le_of_lt hS1)); clear hst hO cS) | (refine wpList_store_mid rfl 31 (.tmp 2) (.tmp 19) rfl (w.heap.size + 1) 0 (mcC zeroM zeroA).toArray (by rfl) (by rfl) (box_there bZ HZ.out) info_mach (all_oneCell_toArray (mc_one _ _)) ?_))
      have b7 := box_cells bZ (cs := mcC zeroM zeroA) HZ.out
      have hld := run_loadVar_mid (P := Tryd.prog) _ (w.heap.size + 1) 0 31 (mcC zeroM zeroA) _ (box_range b7) Tryd.underlying31 rfl info_mach
      exact bodyPost_ret (v := .tuple #[.agg (mcC zeroM zeroA).toArray, .int .i64 E]) (by rw [results_cell_tmp Tryd.results7]; simp [asAddr, Result.andThen, hld]) rfl ⟨zeroA, rfl, below_cells _ _ _ _ hB (by omega), ⟨.inl rfl, .inl rfl, .inl rfl, Nat.le_refl _⟩, fresh_zero _⟩
    | ok x' n' =>
      show Calls _ _ _ _ fun r w' => ∃ q', r = .returned (.tuple #[.agg (mcC { x' with k := n' } q').toArray, .int .i64 0]) ∧ _ ∧ McAt w' { x' with k := n' } q' ∧ FreshQ w.heap.size q'
      replace cS : ∀ W S q', St W S (w.heap.size + 1) x q' (⟨0, 0, 0, 0, 0⟩ : ID) (⟨0, 0, 0, 0, 0⟩ : K5) → Shp W → q'.cs = x.s.length → q'.co = x.o.length → Calls Tryd.prog 20 #[.pointer (some ⟨S, 0, none⟩)] W fun r w' => r = .returned (.int .i64 0) ∧ Off S W w' ∧ ∃ q' i' n'', St w' S (w.heap.size + 1) { x' with k := n' } q' i' n'' := cS
      generalize ({ x' with k := n' } : MC) = X at *
      clear hno
      go_enter Tryd.func7, Tryd.ntmps7
      go_upto_region 1 with fail
      obtain ⟨w0, hw0⟩ : ∃ w0, w0 = (w.alloc (.cells L.toArray 31)).alloc (.cells #[.bool false, .int .i64 0, .int .i64 0, .int .i64 0, .int .i64 0, .int .i64 0, .int .i64 0, .bool false, .int .i64 0, .int .i64 0, .int .i64 0, .int .i64 0, .int .i64 0, .int .i64 0, .bool false, .int .i64 0, .int .i64 0, .int .i64 0, .int .i64 0, .int .i64 0, .int .i64 0, .bool false, .int .i64 0, .int .i64 0, .int .i64 0, .int .i64 0, .int .i64 0, .int .i64 0, .bool false, .int .i64 0, .int .i64 0, .int .i64 0, .int .i64 0, .int .i64 0, .int .i64 0, .bool false, .int .i64 0, .int .i64 0, .int .i64 0, .int .i64 0, .int .i64 0, .int .i64 0, .bool false, .int .i64 0, .int .i64 0, .int .i64 0, .int .i64 0, .int .i64 0, .int .i64 0, .bool false, .int .i64 0, .int .i64 0, .int .i64 0, .int .i64 0, .int .i64 0, .int .i64 0, .int .i64 0, .int .i64 0, .int .i64 0, .int .i64 0, .int .i64 0, .slice none 0 0, .slice none 0 0, .slice none 0 0] 31) := ⟨_, rfl⟩
      rw [← hw0]
      obtain ⟨Z, zZ, bZ⟩ : ∃ Z : Array Value, Z.size = 64 ∧ Box w0 (w.heap.size + 1) Z := by rw [hw0]; exact ⟨_, rfl, Box.new1 _ _ _ _⟩
      have bM : Box w0 w.heap.size L.toArray := by rw [hw0]; exact (Box.new _ _ _).alloc _
      have hB : Below w.heap.size w w0 := by rw [hw0]; exact two _ _
      have HZ : Hid (Z.size = 64) := zZ
      clear hw0 zZ
      go_wp2_with (first | (refine wpList_load_mid rfl 31 (.tmp 1) rfl w.heap.size 0 (by rfl) L _ (box_range bM) Tryd.underlying31 rfl HI.out ?_) | (go_at_call 14; refine (cC _ (HA.out _ hB)).mono ?_; rintro e1 w1 ⟨rfl, hbb⟩; replace bM := bM.below hbb; replace bZ := bZ.below hbb; replace hB := Below.step0 hB hbb; clear hbb cC) | (go_at_call 19; refine (cO _ (HA.out _ hB)).mono ?_; rintro e1 w2 ⟨q1, rfl, hbb, hA2, f1, f2, f3, fs, fo, u1, u2, u3⟩; have z1 := bZ.lt; replace bZ := bZ.below hbb; have hz1 := hbb.size; replace hB := Below.step0 hB hbb; have HQ : Hid (McAt w2 x q1 ∧ (∀ y ∈ q1.m, w.heap.size + 1 < y.block ∧ y.block < w2.heap.size) ∧ (∀ y ∈ q1.s, w.heap.size + 1 < y.block ∧ y.block < w2.heap.size) ∧ (∀ y ∈ q1.o, w.heap.size + 1 < y.block ∧ y.block < w2.heap.size)) := ⟨hA2, fun y hy => ⟨Nat.lt_of_lt_of_le z1 (f1 y hy), u1 y hy⟩, fun y hy => ⟨Nat.lt_of_lt_of_le z1 (f2 y hy), u2 y hy⟩, fun y hy => ⟨Nat.lt_of_lt_of_le z1 (f3 y hy), u3 y hy⟩⟩; clear hbb cO hA2 f1 f2 f3 u1 u2 u3 z1 hz1 bM) | (refine wpList_build1 rfl 54 (.tmp 14) rfl (.agg (mcC x q1).toArray) (.agg (stC x q1 (⟨0, 0, 0, 0, 0⟩ : ID) (⟨0, 0, 0, 0, 0⟩ : K5)).toArray) (by rfl) (build_st x q1 HR.out _) ?_) | (refine wpList_alloc1 rfl 54 rfl _ (alloc_st _) ?_) | (refine wpList_store_mid rfl 54 (.tmp 5) (.tmp 15) rfl w2.heap.size 0 (stC x q1 (⟨0, 0, 0, 0, 0⟩ : ID) (⟨0, 0, 0, 0, 0⟩ : K5)).toArray (by rfl) (by rfl) (box_there (Box.new w2 z73 54) (by rw [st_sz HR.out]; exact z73_size)) (st_inf HR.out) (all_oneCell_toArray (st_one _ _ _ _)) ?_; have hW := st_made HR.out HQ.out.1 HQ.out.2.1 HQ.out.2.2.1 HQ.out.2.2.2 bZ.lt; obtain ⟨W, hWe⟩ : ∃ W, W = (w2.alloc (.cells z73 54)).setCells w2.heap.size 0 (stC x q1 (⟨0, 0, 0, 0, 0⟩ : ID) (⟨0, 0, 0, 0, 0⟩ : K5)).toArray.toList := ⟨_, rfl⟩; rw [← hWe] at hW ⊢; obtain ⟨hst, hbW⟩ := hW; have hz3 := bZ.lt; replace bZ := bZ.below hbW; have hzz := hB.size; replace hB := Below.step0 hB hbW; clear hWe hbW HQ) | (go_at_call 20; refine (cS _ _ _ hst (HS.out _ hB) fs fo).mono ?_; rintro r w3 ⟨rfl, hO, q2, i2, n2, hs3⟩; have hS1 := hst.box.lt; have hz2 := bZ.lt; replace bZ := hO.box bZ (by omega); replace hB := hB.trans (hO.to (n := w.heap.size) hzz (Nat.le_of_lt hS1)); have HP : Hid (w3.rangeAt w2.heap.size 0 (mcC X q2) ∧ (mcC X q2).length = 64 ∧ McAt w3 X q2 ∧ FarM w2.heap.size (w.heap.size + 1) q2) := ⟨box_pre hs3.box, mc_length hs3.r8, hs3.at_, hs3.far⟩; clear hst hO cS hs3) | (refine wpList_load_mid rfl 31 (.tmp 21) rfl w2.heap.size 0 (by rfl) (mcC X q2) _ HP.out.1 Tryd.underlying31 rfl (by rw [HP.out.2.1]; exact info_mach) ?_) | (refine wpList_store_mid rfl 31 (.tmp 2) (.tmp 22) rfl (w.heap.size + 1) 0 (mcC X q2).toArray (by rfl) (by rfl) (box_there bZ (by rw [HZ.out, List.size_toArray, HP.out.2.1])) (by rw [List.size_toArray, HP.out.2.1]; exact info_mach) (all_oneCell_toArray (mc_one _ _)) ?_))
      have b7 := box_cells bZ (cs := mcC X q2) (by rw [HZ.out, HP.out.2.1])
      have hld := run_loadVar_mid (P := Tryd.prog) _ (w.heap.size + 1) 0 31 (mcC X q2) _ (box_range b7) Tryd.underlying31 rfl (by rw [HP.out.2.1]; exact info_mach)
      obtain ⟨_, _, hm, hf⟩ := HP.out
      exact bodyPost_ret (v := .tuple #[.agg (mcC X q2).toArray, .int .i64 0]) (by rw [results_cell_tmp Tryd.results7]; simp [asAddr, Result.andThen, hld]) rfl ⟨q2, rfl, below_cells _ _ _ _ hB (by omega), ⟨RowAt.vals (rows_far (fun y hy => Nat.ne_of_gt (hf.m y hy).2) hm.m.row _), rows_far (fun y hy => Nat.ne_of_gt (hf.s y hy).2) hm.s _, rows_far (fun y hy => Nat.ne_of_gt (hf.o y hy).2) hm.o _, hm.c⟩, ⟨fun y hy => Nat.le_of_lt (Nat.lt_of_succ_lt (hf.m y hy).2), fun y hy => Nat.le_of_lt (Nat.lt_of_succ_lt (hf.s y hy).2), fun y hy => Nat.le_of_lt (Nat.lt_of_succ_lt (hf.o y hy).2)⟩⟩
  · rw [if_neg hE, if_neg hE]
    have gE : (mcE x != 0) = true := by simpa using hE
    generalize mcE x = E at *
    clear cO hE
    go_enter Tryd.func7, Tryd.ntmps7
    go_upto_region 1 with fail
    obtain ⟨w0, hw0⟩ : ∃ w0, w0 = (w.alloc (.cells L.toArray 31)).alloc (.cells #[.bool false, .int .i64 0, .int .i64 0, .int .i64 0, .int .i64 0, .int .i64 0, .int .i64 0, .bool false, .int .i64 0, .int .i64 0, .int .i64 0, .int .i64 0, .int .i64 0, .int .i64 0, .bool false, .int .i64 0, .int .i64 0, .int .i64 0, .int .i64 0, .int .i64 0, .int .i64 0, .bool false, .int .i64 0, .int .i64 0, .int .i64 0, .int .i64 0, .int .i64 0, .int .i64 0, .bool false, .int .i64 0, .int .i64 0, .int .i64 0, .int .i64 0, .int .i64 0, .int .i64 0, .bool false, .int .i64 0, .int .i64 0, .int .i64 0, .int .i64 0, .int .i64 0, .int .i64 0, .bool false, .int .i64 0, .int .i64 0, .int .i64 0, .int .i64 0, .int .i64 0, .int .i64 0, .bool false, .int .i64 0, .int .i64 0, .int .i64 0, .int .i64 0, .int .i64 0, .int .i64 0, .int .i64 0, .int .i64 0, .int .i64 0, .int .i64 0, .int .i64 0, .slice none 0 0, .slice none 0 0, .slice none 0 0] 31) := ⟨_, rfl⟩
    rw [← hw0]
    obtain ⟨Z, zZ, bZ⟩ : ∃ Z : Array Value, Z.size = 64 ∧ Box w0 (w.heap.size + 1) Z := by rw [hw0]; exact ⟨_, rfl, Box.new1 _ _ _ _⟩
    have bM : Box w0 w.heap.size L.toArray := by rw [hw0]; exact (Box.new _ _ _).alloc _
    have hB : Below w.heap.size w w0 := by rw [hw0]; exact two _ _
    have HZ : Hid (Z.size = 64) := zZ
    clear hw0 zZ
    go_wp2_with (first | (refine wpList_load_mid rfl 31 (.tmp 1) rfl w.heap.size 0 (by rfl) L _ (box_range bM) Tryd.underlying31 rfl HI.out ?_) | (go_at_call 14; refine (cC _ (HA.out _ hB)).mono ?_; rintro e1 w1 ⟨rfl, hbb⟩; replace bM := bM.below hbb; replace bZ := bZ.below hbb; replace hB := Below.step0 hB hbb; clear hbb cC) | (refine wpList_store_mid rfl 31 (.tmp 2) (.tmp 11) rfl (w.heap.size + 1) 0 (mcC zeroM zeroA).toArray (by rfl) (by rfl) (box_there bZ HZ.out) info_mach (all_oneCell_toArray (mc_one _ _)) ?_))
    have b7 := box_cells bZ (cs := mcC zeroM zeroA) HZ.out
    have hld := run_loadVar_mid (P := Tryd.prog) _ (w.heap.size + 1) 0 31 (mcC zeroM zeroA) _ (box_range b7) Tryd.underlying31 rfl info_mach
    exact bodyPost_ret (v := .tuple #[.agg (mcC zeroM zeroA).toArray, .int .i64 E]) (by rw [results_cell_tmp Tryd.results7]; simp [asAddr, Result.andThen, hld]) rfl ⟨zeroA, rfl, below_cells _ _ _ _ hB (by omega), ⟨.inl rfl, .inl rfl, .inl rfl, Nat.le_refl _⟩, fresh_zero _⟩
end Go.Proofs.YthapfaohnliklaaDoor
