/- run.Run: many steps of a machine. Plain: what a machine can come to (chapter 11), and when a key is no more than another one, seals aside. Plain: where keys come from by a step: what a machine can come to, and that nothing more is come to behind steps; what is not looked at is of no matter, what is not stored to stays. -/
import Derived.Test.YtlfeglljpfihhaaGreatDoorRows
import Derived.Test.YtlfeglljpfihhaaGreatDoorCardBaseX
import Derived.Test.YtlfeglljpfihhaaGreatDoorMemPureX
import Derived.Test.YtlfeglljpfihhaaGreatDoorInstShapeX
import Derived.Test.YtlfeglljpfihhaaGreatDoorStepChkX
import Derived.Test.YtlfeglljpfihhaaGreatDoorStepOffX
import Derived.Test.YtlfeglljpfihhaaGreatDoorStepOwnedX
import Derived.Test.YtlfeglljpfihhaaGreatDoorStepStepX
import Derived.Test.YtlfeglljpfihhaaGreatDoorRangeWX
import Derived.Test.YtlfeglljpfihhaaGreatDoorRunBaseX
import Derived.WalkKit
import Derived.ProofKit
import Derived.Shelf.RegionOpen
import Derived.RangeFuncOwn
import Derived.Test.YtlfeglljpfihhaaGreatDoorValArgX
import Derived.Test.YtlfeglljpfihhaaGreatDoorStepRowX
import Derived.Test.YtlfeglljpfihhaaGreatDoorKeyCovX
import Derived.Test.YtlfeglljpfihhaaGreatDoorMemChkX
import Derived.Test.YtlfeglljpfihhaaGreatDoorStepMidX
import Derived.Test.YtlfeglljpfihhaaGreatDoorStepMid2X
import Derived.Test.YtlfeglljpfihhaaGreatDoorStepBackX
import Derived.Test.YtlfeglljpfihhaaGreatDoorStepCallX
import Derived.Test.YtlfeglljpfihhaaGreatDoorStepFetchX
import Derived.Test.YtlfeglljpfihhaaGreatDoorStepActX
import Derived.Test.YtlfeglljpfihhaaGreatDoorStepActsX
namespace Go.Proofs.YtlfeglljpfihhaaGreatDoor
section
section
open Go.ChangeShapes Go.WideShapes Go.ChangeAt Go.RowKit Go.Shelf
set_option linter.unusedSimpArgs false
set_option linter.unusedVariables false
set_option maxRecDepth 100000
attribute [local go_sem] Oper.semAt_some

def lastC (pre : List DD) : List Value := match pre.getLast? with
  | none => z64
  | some y => mcC y.1 y.2.1
def lastE (pre : List DD) : Int := match pre.getLast? with
  | none => 0
  | some y => y.2.2
theorem lastC_snoc (pre : List DD) (y : DD) : lastC (pre ++ [y]) = mcC y.1 y.2.1 := by unfold lastC; rw [List.getLast?_concat]
theorem lastE_snoc (pre : List DD) (y : DD) : lastE (pre ++ [y]) = y.2.2 := by unfold lastE; rw [List.getLast?_concat]
/-- What lies in the caller's own boxes between two rounds; D: where its loop's record lies. -/
structure RI (w : World) (x : MC) (f b B D : Nat) (own0 : Nat → Prop) (pre : List DD) (own : Nat → Prop) (A : World) : Prop where
  own : own = own0
  below : Below w.heap.size w A
  size : D + 2 ≤ A.heap.size
  z : Box A b z64.toArray
  last : Box A B (lastC pre).toArray
  why : Box A (B + 1) #[.int .i64 (lastE pre)]
  done : Box A (B + 2) #[.int .i64 (zeros (pre.map ddP) : Nat)]
  mach : ∀ y, pre.getLast? = some y → McAt A y.1 y.2.1 ∧ FarX (fun k => own0 k ∨ k = D + 1 ∨ k = D + 2 ∨ k = b ∨ k < w.heap.size) y.1 y.2.1 ∧ y.1.r.length = 8
  pre : ∃ r, pre.map ddP ++ r = dealt f x
theorem RI.off {w : World} {x : MC} {f b B D : Nat} {own0 : Nat → Prop} {pre : List DD} {own : Nat → Prop} {A A' : World} {k : Nat} (h : RI w x f b B D own0 pre own A) (hO : Off k A A') (hk : k = D + 1 ∨ k = D + 2) (hw : w.heap.size ≤ D) (hb : b < D) (hB : B + 2 < D) : RI w x f b B D own0 pre own A' := by
  have hs := hO.size
  have h1 := h.size
  refine ⟨h.own, h.below.trans (hO.to (by omega) (by omega)), by omega, hO.box h.z (by omega), hO.box h.last (by omega), hO.box h.why (by omega), hO.box h.done (by omega), fun y hy => ?_, h.pre⟩
  obtain ⟨m1, m2, m3⟩ := h.mach y hy
  exact ⟨(hO.toP (p := fun j => j = k) rfl).mcX m1 (m2.mono fun j hj => by subst hj; rcases hk with h | h; exact .inr (.inl h); exact .inr (.inr (.inl h))), m2, m3⟩
theorem row_not {A : World} {a : Option Addr} {cs : List Value} {D : Nat} {ds : Option (List Deferred)} (h : RowAt A a cs) (hD : A.heap[D]? = some (.deferred ds)) : FarR (fun k => k = D) a cs := by
  rcases h with h | ⟨B, off, rfl, hB, hc⟩
  · exact .inl h
  · cases cs with
    | nil => exact .inl rfl
    | cons u us =>
      refine .inr fun y hy e => ?_
      cases hy
      simp only at e
      subst e
      have h0 := hc 0 u rfl
      unfold World.cell? at h0
      simp [hD] at h0
theorem mc_not {A : World} {x : MC} {q : MA} {D : Nat} {ds : Option (List Deferred)} (h : McAt A x q) (hD : A.heap[D]? = some (.deferred ds)) : FarX (fun k => k = D) x q := ⟨row_not h.m.row hD, row_not h.s hD, row_not h.o hD⟩
theorem zip2 (p1 p2 : Tmp) (v1 v2 : Value) (T : Array Value) : ((#[p1, p2] : Array Tmp).zip #[v1, v2]).foldl (fun t x => match x with | (p, v) => t.setIfInBounds p v) T = (T.setIfInBounds p1 v1).setIfInBounds p2 v2 := by
  simp
theorem res_cell2 {fn : Func} {p u v : Tmp} {ty : TypeId} (h : fn.results = #[.cell p ty, .tmp u, .tmp v]) (tmps : Array Value) (P : Program) (w : World) :
    (results fn tmps).run P w =
      ((asAddr (tmps.getD p undef)).run P w).andThen fun a w₁ => ((loadVar ty a).run P w₁).andThen fun z w₂ => .ok (.tuple #[z, tmps.getD u undef, tmps.getD v undef]) w₂ := by
  simp only [results, h]
  simp [Sem.run_bind, Result.andThen]
def quietX : Exit → Prop
  | .panic _ => False
  | _ => True
set_option maxHeartbeats 4000000 in
theorem run_run (x : MC) (q : MA) (f : Int) (w : World) (hA : McAt w x q) (hO : McB x) (hS : Shp w) :
    Calls Tryz.prog 8 #[.agg (mcC x q).toArray, .int .i64 f] w fun e w' => ∃ q', e = .returned (.tuple #[.agg (mcC (if chkR f x = 0 then runM f.toNat x else zeroM) q').toArray, .int .i64 (if chkR f x = 0 then (runN f.toNat x : Nat) else 0), .int .i64 (if chkR f x = 0 then runE f.toNat x else chkR f x)]) ∧ Below w.heap.size w w' ∧ McAt w' (if chkR f x = 0 then runM f.toNat x else zeroM) q' ∧ FarX (fun k => k < w.heap.size) (if chkR f x = 0 then runM f.toNat x else zeroM) q' := by
  have cC := fun w hA => run_check x q f w hA hO
  have hi : (Tryz.prog.info? 31).map (·.size) = some (mcC x q).length := mach_info hO.r8
  by_cases hE : chkR f x = 0
  · rw [if_pos hE, if_pos hE, if_pos hE]
    obtain ⟨F, rfl, hF, hE'⟩ : ∃ F : Nat, f = (F : Int) ∧ F ≤ 5000 ∧ mcE x = 0 := by
      unfold chkR at hE
      split at hE
      · cases hE
      · exact ⟨f.toNat, by omega, by omega, hE⟩
    rw [Int.toNat_natCast]
    have hG := good_of hO.r8 hE'
    have cO := fun w hA => run_own x q w hA hO.r8 (mem_small hG.m).1 (stk_iff.1 hG.s).1 (out_iff.1 hG.o).1
    rw [hE] at cC
    have HA : Hid (∀ w', Below w.heap.size w w' → McAt w' x q) := fun w' hb => hA.below hb
    have HS : Hid (∀ w', Below w.heap.size w w' → Shp w') := fun w' hb => hS.below hb
    generalize mcC x q = L at *
    clear hA hE
    refine (callsIn_wide (n := 0)).1 (callsIn_of_wp_marks Tryz.func8 rfl trivial (wpIn_wide.2 (Code.wp_mono (Q := fun e a w => quietX e ∧ bodyPostM _ _ _ _ _ e a w) (fun _ _ _ h => h.2) ?_)) rfl)
    simp only [Tryz.ntmps8, List.size_toArray, List.length_cons, List.length_nil, Nat.reduceAdd, Nat.reduceSub, Array.replicate_succ, Array.replicate_zero, List.push_toArray, List.append_toArray, List.nil_append, List.cons_append]
    go_upto_region 4 with (first | (refine wpList_alloc1 rfl 31 rfl _ (alloc_mach _) ?_; have bL : Box ((w.alloc (.cells L.toArray 31)).alloc (.cells z64.toArray 31)) w.heap.size L.toArray := (Box.new _ _ _).alloc _; have bZ : Box ((w.alloc (.cells L.toArray 31)).alloc (.cells z64.toArray 31)) (w.heap.size + 1) z64.toArray := Box.new1 _ _ _ _; have hB : Below w.heap.size w ((w.alloc (.cells L.toArray 31)).alloc (.cells z64.toArray 31)) := two _ _; simp only [World.size_alloc]; generalize (w.alloc (.cells L.toArray 31)).alloc (.cells z64.toArray 31) = w0 at *) | (refine wpList_load_mid rfl 31 (.tmp 2) rfl w.heap.size 0 (by rfl) L _ (box_range bL) Tryz.underlying31 rfl hi ?_) | (go_at_call 17; refine (cC _ (HA.out _ hB)).mono ?_; rintro e w1 ⟨rfl, hbb⟩; replace bL := bL.below hbb; replace bZ := bZ.below hbb; replace hB := Below.step0 hB hbb; clear hbb cC))
    go_upto_region 7 with (refine wpList_alloc1 rfl 31 rfl _ (alloc_mach _) ?_)
    obtain ⟨w2, hw2⟩ : ∃ w2, w2 = ((w1.alloc (.cells z64.toArray 31)).alloc (.cells #[.int .i64 0] 35)).alloc (.cells #[.int .i64 0] 3) := ⟨_, rfl⟩
    rw [← hw2]
    have bL2 : Box w2 w.heap.size L.toArray := by rw [hw2]; exact ((bL.alloc _).alloc _).alloc _
    have bZ2 : Box w2 (w.heap.size + 1) z64.toArray := by rw [hw2]; exact ((bZ.alloc _).alloc _).alloc _
    have b8 : Box w2 w1.heap.size z64.toArray := by rw [hw2]; exact ((Box.new _ _ _).alloc _).alloc _
    have b9 : Box w2 (w1.heap.size + 1) #[.int .i64 0] := by rw [hw2]; exact (Box.new1 _ _ _ _).alloc _
    have b10 : Box w2 (w1.heap.size + 2) #[.int .i64 0] := by rw [hw2]; exact Box.new2 _ _ _ _ _
    have hB2 : Below w.heap.size w w2 := by rw [hw2]; exact ((hB.alloc hB.size _).alloc (by have := hB.size; simp; omega) _).alloc (by have := hB.size; simp; omega) _
    have hz2 : w1.heap.size + 3 ≤ w2.heap.size ∧ w2.heap.size ≤ w1.heap.size + 3 := by rw [hw2]; simp
    have hbz := bZ.lt
    have hzw := hB.size
    clear hw2 bL bZ hB
    rw [show w1.heap.size + 1 + 1 = w1.heap.size + 2 from rfl]
    generalize w1.heap.size = B at *
    go_wp2_with (first | (refine wpList_load_mid rfl 31 (.tmp 2) rfl w.heap.size 0 (by rfl) L _ (box_range bL2) Tryz.underlying31 rfl hi ?_) | (go_at_call 19; refine (cO _ (HA.out _ hB2)).mono ?_; rintro e w3 ⟨q1, rfl, hbb, hA3, hQ3⟩; replace bZ2 := bZ2.below hbb; replace b8 := b8.below hbb; replace b9 := b9.below hbb; replace b10 := b10.below hbb; have hz3 := hbb.size; replace hB2 := Below.step0 hB2 hbb; clear hbb bL2 cO) | (go_at_call 18; refine (run_steps _ _ _).mono ?_; rintro e w4 ⟨rfl, hw4⟩; have HW4 : Hid (w4 = _) := hw4; clear hw4))
    have hw4 := HW4.out
    clear HW4
    have C1 : Box w4 w3.heap.size (mcC x q1).toArray := by rw [hw4]; exact (Box.new _ _ _).alloc _
    have C2 : Box w4 (w3.heap.size + 1) #[.int .i64 (F : Int)] := by rw [hw4]; exact Box.new1 _ _ _ _
    have hB4 : Below w3.heap.size w3 w4 := by rw [hw4]; exact two _ _
    have hz4 : w3.heap.size + 2 ≤ w4.heap.size ∧ w4.heap.size ≤ w3.heap.size + 2 := by rw [hw4]; simp
    replace bZ2 := bZ2.below hB4
    replace b8 := b8.below hB4
    replace b9 := b9.below hB4
    replace b10 := b10.below hB4
    replace hA3 := hA3.below hB4
    replace hB2 := Below.step0 hB2 hB4
    have hS4 := HS.out _ hB2
    have hX3 : FarX (fun k => k < w2.heap.size ∨ w3.heap.size ≤ k) x q1 := ⟨.inr fun y hy e => by have := hQ3.m y hy; omega, .inr fun y hy e => by have := hQ3.s y hy; omega, .inr fun y hy e => by have := hQ3.o y hy; omega⟩
    clear hw4 hB4 hQ3
    refine wp_range (gf := 33) (lb := #[.pointer (some ⟨w3.heap.size, 0, none⟩), .pointer (some ⟨w3.heap.size + 1, 0, none⟩)]) rfl (enters_of Tryz.func33 (by kernel_rfl) rfl) (enc := ddV) (fun _ => rfl) (Ad := Ad (fun k => k = w.heap.size + 1 ∨ k < w.heap.size) x F (w4.heap.size + 2)) (Fin := FinD x F) (Cl := ClD (fun k => k = w.heap.size + 1 ∨ k < w.heap.size) x q1 w3.heap.size (w3.heap.size + 1) (w4.heap.size + 2)) ?iter (fun k => k = B ∨ k = B + 1 ∨ k = B + 2) (RI w x F (w.heap.size + 1) B w4.heap.size (fun k => k = B ∨ k = B + 1 ∨ k = B + 2)) ?cl ?fresh ?off ?own ?init ?round ?done
    case iter =>
      intro o
      have hb : Below w4.heap.size w4 ((w4.alloc (.deferred (some []))).alloc o) := two _ _
      have := iter_deals (fun k => k = w.heap.size + 1 ∨ k < w.heap.size) x q1 w3.heap.size (w3.heap.size + 1) F _ (hS4.below hb) (C1.below hb) ((C2.below hb).cell 0) (hA3.below hb) hG hF
      rw [show ((w4.alloc (.deferred (some []))).alloc o).heap.size = w4.heap.size + 2 by simp] at this
      exact this
    case cl =>
      have hT := hS.1
      exact ⟨hX3.mono fun k hk => by omega, fun k hk => by omega, by omega, by omega, by omega, by omega⟩
    case fresh =>
      intro k hk
      omega
    case off =>
      intro pre own A A' k hk hI hO
      exact hI.off hO hk (by omega) (by omega) (by omega)
    case own =>
      intro pre own A k hI hk
      rw [hI.own] at hk
      omega
    case init =>
      intro o
      have hb : Below w4.heap.size w4 ((w4.alloc (.deferred (some []))).alloc o) := two _ _
      exact ⟨rfl, Below.step0 hB2 hb, by simp, bZ2.below hb, b8.below hb, b9.below hb, b10.below hb, fun y hy => (by cases hy), dealt F x, rfl⟩
    case round =>
      rintro pre ⟨yx, yq, ye⟩ own A ⟨hown, hbA, hszA, zA, lA, eA, dA, mA, pA⟩ ⟨m1, m2, mG, r, hr⟩ hsz
      subst hown
      dsimp only [ddV] at *
      have hiy : (Tryz.prog.info? 31).map (·.size) = some (mcC yx yq).length := mach_info mG.r8
      simp only [zip2, List.setIfInBounds_toArray, List.set_cons_succ, List.set_cons_zero]
      have hO1 : Below A.heap.size A ((A.alloc (.cells z64.toArray 31)).setCells A.heap.size 0 (mcC yx yq)) := below_cells _ _ _ _ ((Below.refl _ _).alloc (Nat.le_refl _) _) (Nat.le_refl _)
      gi_wp2_with (first | (refine in_alloc_row rfl 31 rfl _ _ (alloc_mach _) ?_) | (refine in_store_box rfl 31 (.tmp 11) (.tmp 24) rfl A.heap.size (mcC yx yq) rfl rfl z64.toArray (Box.new _ _ _) (by rw [List.size_toArray, z64_len, mc_length mG.r8]) hiy (mc_one _ _) ?_; intro bN; generalize (A.alloc (.cells z64.toArray 31)).setCells A.heap.size 0 (mcC yx yq) = A1 at *))
      refine ⟨((OffP.refl _ _).below hO1), fun A2 hO2 => ?_⟩
      have hs1 := hO1.size
      have hs2 := hO2.size
      have zA2 := hO2.box (zA.below hO1) (by omega)
      have lA2 := hO2.box (lA.below hO1) (by omega)
      have eA2 := hO2.box (eA.below hO1) (by omega)
      have dA2 := hO2.box (dA.below hO1) (by omega)
      have bN2 := hO2.box bN (by omega)
      have hlen : (lastC pre).toArray.size = (mcC yx yq).length := by
        rw [List.size_toArray, mc_length mG.r8]
        unfold lastC
        cases hl : pre.getLast? with
        | none => rfl
        | some z => exact mc_length (mA z hl).2.2
      have hM2 : McAt A2 yx yq := (hO2.toP (p := fun j => j = w4.heap.size + 1) rfl).mcX (m1.below hO1) (m2.mono fun j hj => by omega)
      have hbA2 : Below w.heap.size w A2 := (Below.step0 hbA hO1).trans (hO2.to (by omega) (by omega))
      have hzb : zeros (pre.map ddP) ≤ 5001 := by
        have h1 := zeros_len (pre.map ddP)
        have h2 := dealt_len F x
        rw [← hr, List.length_append] at h2
        omega
      have hz' := zeros_snoc (pre.map ddP) (ddP (yx, yq, ye))
      have hmap : (pre ++ [(yx, yq, ye)]).map ddP = pre.map ddP ++ [ddP (yx, yq, ye)] := by rw [List.map_append]; rfl
      have HZ : Hid (zeros ((pre ++ [(yx, yq, ye)]).map ddP) = zeros (pre.map ddP) + (if ye = 0 then 1 else 0)) := by rw [hmap]; exact hz'
      have HR : Hid (∃ r, (pre ++ [(yx, yq, ye)]).map ddP ++ r = dealt F x) := ⟨r, by rw [hmap, List.append_assoc]; exact hr⟩
      clear hz' hmap hr pA m1 hbA bN lA eA dA zA hsz hO2 hO1 mA
      generalize zeros (pre.map ddP) = nz at *
      have gz : (nz : Int) ≤ 5001 := by omega
      by_cases hy0 : ye = 0
      · subst hy0
        gi_wp2_with (first | (refine in_load_box rfl 31 (.tmp 11) rfl A.heap.size rfl (mcC yx yq) bN2 _ Tryz.underlying31 rfl hiy ?_) | (refine in_store_box rfl 31 (.tmp 8) (.tmp 26) rfl B (mcC yx yq) rfl rfl (lastC pre).toArray lA2 hlen hiy (mc_one _ _) ?_; intro bB; have hOB : Off B A2 (A2.setCells B 0 (mcC yx yq)) := Off.cells _ _ _ _ (Off.refl _ _) (.inl rfl); generalize A2.setCells B 0 (mcC yx yq) = W3 at *; have e3 := hOB.box eA2 (by omega); have d3 := hOB.box dA2 (by omega); have q3 := e3.cell; have f3 := e3.free; have p3 := d3.cell; have g3 := d3.free))
        have o1 : Off (B + 1) W3 (W3.setCell ⟨B + 1, 0, none⟩ (.int .i64 0)) := (Off.refl _ _).set _ _
        have o2 : Off (B + 2) (W3.setCell ⟨B + 1, 0, none⟩ (.int .i64 0)) ((W3.setCell ⟨B + 1, 0, none⟩ (.int .i64 0)).setCell ⟨B + 2, 0, none⟩ (.int .i64 ((nz : Int) + 1))) := (Off.refl _ _).set _ _
        have e4 : Box (W3.setCell ⟨B + 1, 0, none⟩ (.int .i64 0)) (B + 1) #[.int .i64 0] := Box.setL' (L := [.int .i64 (lastE pre)]) (v := .int .i64 0) (j := 0) e3 (by simp)
        have b5 := o2.box (o1.box bB (by omega)) (by omega)
        have e5 := o2.box e4 (by omega)
        have d5 : Box ((W3.setCell ⟨B + 1, 0, none⟩ (.int .i64 0)).setCell ⟨B + 2, 0, none⟩ (.int .i64 ((nz : Int) + 1))) (B + 2) #[.int .i64 ((nz : Int) + 1)] := Box.setL' (L := [.int .i64 (nz : Int)]) (v := .int .i64 ((nz : Int) + 1)) (j := 0) (o1.box d3 (by omega)) (by simp)
        have hO : OffP (fun k => k = B ∨ k = B + 1 ∨ k = B + 2) A2 ((W3.setCell ⟨B + 1, 0, none⟩ (.int .i64 0)).setCell ⟨B + 2, 0, none⟩ (.int .i64 ((nz : Int) + 1))) := ((hOB.toP (p := fun k => k = B ∨ k = B + 1 ∨ k = B + 2) (.inl rfl)).trans (o1.toP (.inr (.inl rfl)))).trans (o2.toP (.inr (.inr rfl)))
        refine ⟨hO, _, ⟨rfl, hbA2.trans (hO.to (fun k _ hk => by omega) (by omega)), by have := hO.size; omega, hO.box zA2 (by omega), by rw [lastC_snoc]; exact b5, by rw [lastE_snoc]; exact e5, ?_, fun y hy => ?_, HR.out⟩, fun k hk => .inl hk⟩
        · rw [HZ.out]
          exact d5
        · rw [List.getLast?_concat] at hy
          cases hy
          exact ⟨hO.mcX hM2 (m2.mono fun j hj => .inl hj), m2, mG.r8⟩
      · have gy : (ye == 0) = false := by simpa using hy0
        gi_wp2_with (first | (refine in_load_box rfl 31 (.tmp 11) rfl A.heap.size rfl (mcC yx yq) bN2 _ Tryz.underlying31 rfl hiy ?_) | (refine in_store_box rfl 31 (.tmp 8) (.tmp 26) rfl B (mcC yx yq) rfl rfl (lastC pre).toArray lA2 hlen hiy (mc_one _ _) ?_; intro bB; have hOB : Off B A2 (A2.setCells B 0 (mcC yx yq)) := Off.cells _ _ _ _ (Off.refl _ _) (.inl rfl); generalize A2.setCells B 0 (mcC yx yq) = W3 at *; have e3 := hOB.box eA2 (by omega); have d3 := hOB.box dA2 (by omega); have q3 := e3.cell; have f3 := e3.free; have p3 := d3.cell; have g3 := d3.free))
        have o1 : Off (B + 1) W3 (W3.setCell ⟨B + 1, 0, none⟩ (.int .i64 ye)) := (Off.refl _ _).set _ _
        have e4 : Box (W3.setCell ⟨B + 1, 0, none⟩ (.int .i64 ye)) (B + 1) #[.int .i64 ye] := Box.setL' (L := [.int .i64 (lastE pre)]) (v := .int .i64 ye) (j := 0) e3 (by simp)
        have b5 := o1.box bB (by omega)
        have d5 := o1.box d3 (by omega)
        have hO : OffP (fun k => k = B ∨ k = B + 1 ∨ k = B + 2) A2 (W3.setCell ⟨B + 1, 0, none⟩ (.int .i64 ye)) := (hOB.toP (p := fun k => k = B ∨ k = B + 1 ∨ k = B + 2) (.inl rfl)).trans (o1.toP (.inr (.inl rfl)))
        refine ⟨hO, _, ⟨rfl, hbA2.trans (hO.to (fun k _ hk => by omega) (by omega)), by have := hO.size; omega, hO.box zA2 (by omega), by rw [lastC_snoc]; exact b5, by rw [lastE_snoc]; exact e4, ?_, fun y hy => ?_, HR.out⟩, fun k hk => .inl hk⟩
        · rw [HZ.out, if_neg hy0]
          exact d5
        · rw [List.getLast?_concat] at hy
          cases hy
          exact ⟨hO.mcX hM2 (m2.mono fun j hj => .inl hj), m2, mG.r8⟩
    case done =>
      intro xs own A A' hFin hI hO hD
      replace hI := hI.off hO (.inl rfl) (by omega) (by omega) (by omega)
      obtain ⟨-, hbA, hszA, zA, lA, eA, dA, mA, -⟩ := hI
      have hFin' : xs.map ddP = dealt F x := hFin
      obtain ⟨⟨yx, yq, ye⟩, hy, h1, h2⟩ : ∃ y : DD, xs.getLast? = some y ∧ y.1 = runM F x ∧ y.2.2 = runE F x := by
        have h := dealt_last F x
        rw [← hFin', List.getLast?_map] at h
        cases hx : xs.getLast? with
        | none => rw [hx] at h; cases h
        | some y =>
          rw [hx] at h
          injection h with h
          exact ⟨y, rfl, congrArg Prod.fst h, congrArg Prod.snd h⟩
      obtain ⟨m1, m2, m3⟩ := mA _ hy
      have hlC : lastC xs = mcC yx yq := by unfold lastC; rw [hy]
      have hlE : lastE xs = ye := by unfold lastE; rw [hy]
      rw [hFin', dealt_zeros] at dA
      rw [hlC] at lA
      rw [hlE] at eA
      dsimp only at h1 h2 m1 m2 m3
      subst h1
      subst h2
      have hiy : (Tryz.prog.info? 31).map (·.size) = some (mcC (runM F x) yq).length := mach_info m3
      have hl8 := mc_length (q := yq) m3
      have lD : Box A'.drew B (mcC (runM F x) yq).toArray := lA.drew
      have zD : Box A'.drew (w.heap.size + 1) z64.toArray := zA.drew
      have p1 := dA.cell
      have p2 := eA.cell
      have HF : Hid (Below w.heap.size w (A'.drew.setCells (w.heap.size + 1) 0 (mcC (runM F x) yq))) := below_cells _ _ _ _ hbA.drew (by omega)
      have bR : Box (A'.drew.setCells (w.heap.size + 1) 0 (mcC (runM F x) yq)) (w.heap.size + 1) (mcC (runM F x) yq).toArray := box_cells zD (by rw [List.size_toArray, z64_len, hl8])
      clear hFin' hFin mA hlC hlE hy
      go_wp2
      refine wp_region_held_drew (S := fun w' => Box w' B (mcC (runM F x) yq).toArray ∧ Box w' (B + 1) #[.int .i64 (runE F x)] ∧ Box w' (B + 2) #[.int .i64 (runN F x : Nat)]) (by kernel_rfl) ⟨lA.drew, eA.drew, dA.drew⟩ (fun hHeld => ?_)
      refine wpAnyH_take (i := 0) (v := .agg (mcC (runM F x) yq).toArray) rfl (by kernel_rfl) (by kernel_rfl) (by kernel_rfl) (fun _ _ _ h => h.1.elim) (yieldsIf_load_mid (by rfl) 31 (.tmp 8) rfl B 0 (by rfl) (mcC (runM F x) yq) _ (fun w' hw' => box_range hw'.1) Tryz.underlying31 rfl hiy) (by assumption) ?_
      (try simp only [Act.put, List.getElem_toArray, List.getElem_cons_zero, List.getElem_cons_succ, List.setIfInBounds_toArray, List.set_cons_zero, List.set_cons_succ])
      refine wpAnyH_take (i := 1) (v := .int .i64 (runN F x : Nat)) rfl (by kernel_rfl) (by kernel_rfl) (by kernel_rfl) (fun _ _ _ h => h.1.elim) (Or.inl ⟨by rfl, fun w' hw' => by have q := hw'.2.2.cell; go_simp⟩) (by assumption) ?_
      (try simp only [Act.put, List.getElem_toArray, List.getElem_cons_zero, List.getElem_cons_succ, List.setIfInBounds_toArray, List.set_cons_zero, List.set_cons_succ])
      refine wpAnyH_take (i := 2) (v := .int .i64 (runE F x)) rfl (by kernel_rfl) (by kernel_rfl) (by kernel_rfl) (fun _ _ _ h => h.1.elim) (Or.inl ⟨by rfl, fun w' hw' => by have q := hw'.2.1.cell; go_simp⟩) (by assumption) ?_
      (try simp only [Act.put, List.getElem_toArray, List.getElem_cons_zero, List.getElem_cons_succ, List.setIfInBounds_toArray, List.set_cons_zero, List.set_cons_succ])
      refine wpAnyH_ready (rs := [3]) (by kernel_rfl) (by simp) (AllReadyH.cons rfl (fun K hK => ?_) AllReadyH.nil)
      rw [if_pos (by rfl)]
      refine wp_store_mid 31 (.tmp 4) (.tmp 32) rfl (w.heap.size + 1) 0 (mcC (runM F x) yq).toArray (by rfl) (by rfl) (box_there zD (by rw [List.size_toArray, List.size_toArray, z64_len, hl8])) (by rw [List.size_toArray]; exact hiy) (all_oneCell_toArray (mc_one _ _)) ?_
      have hOr : Off (w.heap.size + 1) A'.drew (A'.drew.setCells (w.heap.size + 1) 0 (mcC (runM F x) yq)) := Off.cells _ _ _ _ (Off.refl _ _) (.inl rfl)
      refine hK.out _ _ ⟨hOr.box lA.drew (by omega), hOr.box eA.drew (by omega), hOr.box dA.drew (by omega)⟩ (fun hHeld => ?_)
      (try simp only [Act.put, List.getElem_toArray, List.getElem_cons_zero, List.getElem_cons_succ, List.setIfInBounds_toArray, List.set_cons_zero, List.set_cons_succ])
      refine wpAnyH_take (i := 4) (v := .int .i64 (runN F x : Nat)) rfl (by kernel_rfl) (by kernel_rfl) (by kernel_rfl) (fun _ _ _ h => h.1.elim) (Or.inl ⟨by rfl, fun w' hw' => by go_simp⟩) (by assumption) ?_
      (try simp only [Act.put, List.getElem_toArray, List.getElem_cons_zero, List.getElem_cons_succ, List.setIfInBounds_toArray, List.set_cons_zero, List.set_cons_succ])
      refine wpAnyH_take (i := 5) (v := .int .i64 (runE F x)) rfl (by kernel_rfl) (by kernel_rfl) (by kernel_rfl) (fun _ _ _ h => h.1.elim) (Or.inl ⟨by rfl, fun w' hw' => by go_simp⟩) (by assumption) ?_
      (try simp only [Act.put, List.getElem_toArray, List.getElem_cons_zero, List.getElem_cons_succ, List.setIfInBounds_toArray, List.set_cons_zero, List.set_cons_succ])
      refine wpAnyH_done (by kernel_rfl) ?_ _
      have hDr : (A'.drew.setCells (w.heap.size + 1) 0 (mcC (runM F x) yq)).heap[w4.heap.size]? = some (.deferred (some [])) := hOr.obj (by omega) hD
      have hMr : McAt (A'.drew.setCells (w.heap.size + 1) 0 (mcC (runM F x) yq)) (runM F x) yq := (hOr.toP (p := fun k => k = w.heap.size + 1) rfl).mcX (m1.below (below_drew A')) (m2.mono fun j hj => by omega)
      have hOd : Off w4.heap.size (A'.drew.setCells (w.heap.size + 1) 0 (mcC (runM F x) yq)) ((A'.drew.setCells (w.heap.size + 1) 0 (mcC (runM F x) yq)).putObj w4.heap.size (.deferred none)) := (Off.refl _ _).put _
      have hMd := (hOd.toP (p := fun k => k = w4.heap.size) rfl).mcX hMr (mc_not hMr hDr)
      have bRd := hOd.box bR (by omega)
      have hsr : (A'.drew.setCells (w.heap.size + 1) 0 (mcC (runM F x) yq)).heap.size = A'.heap.size := size_cells _ _ _ _
      have hBd : Below w.heap.size w ((A'.drew.setCells (w.heap.size + 1) 0 (mcC (runM F x) yq)).putObj w4.heap.size (.deferred none)) := HF.out.trans (hOd.to (by omega) (by omega))
      have hld := run_loadVar_mid (P := Tryz.prog) _ (w.heap.size + 1) 0 31 (mcC (runM F x) yq) _ (box_range bRd) Tryz.underlying31 rfl hiy
      have HT := (show Hid _ from run_takeDeferred (P := Tryz.prog) hDr)
      clear hK hHeld hsr hOr hDr hMr hOd bR HF
      go_wp2
      refine ⟨trivial, by simp, .inl ⟨w4.heap.size, _, rfl, HT.out, ?_⟩⟩
      exact ⟨.tuple #[.agg (mcC (runM F x) yq).toArray, .int .i64 (runN F x : Nat), .int .i64 (runE F x)], by rw [res_cell2 Tryz.results8]; simp [asAddr, Result.andThen, hld], yq, rfl, hBd, hMd, m2.mono fun j hj => .inr (.inr (.inr (.inr hj)))⟩
  · rw [if_neg hE, if_neg hE, if_neg hE]
    have gE : (chkR f x != 0) = true := by simpa using hE
    have HA : Hid (∀ w', Below w.heap.size w w' → McAt w' x q) := fun w' hb => hA.below hb
    generalize chkR f x = E at *
    generalize mcC x q = L at *
    clear hA
    refine (callsIn_wide (n := 0)).1 (callsIn_of_wp_marks Tryz.func8 rfl trivial (wpIn_wide.2 (Code.wp_mono (Q := fun e a w => quietX e ∧ bodyPostM _ _ _ _ _ e a w) (fun _ _ _ h => h.2) ?_)) rfl)
    simp only [Tryz.ntmps8, List.size_toArray, List.length_cons, List.length_nil, Nat.reduceAdd, Nat.reduceSub, Array.replicate_succ, Array.replicate_zero, List.push_toArray, List.append_toArray, List.nil_append, List.cons_append]
    go_wp2_with (first | (refine wpList_alloc1 rfl 31 rfl _ (alloc_mach _) ?_; have bL : Box ((w.alloc (.cells L.toArray 31)).alloc (.cells z64.toArray 31)) w.heap.size L.toArray := (Box.new _ _ _).alloc _; have bZ : Box ((w.alloc (.cells L.toArray 31)).alloc (.cells z64.toArray 31)) (w.heap.size + 1) z64.toArray := Box.new1 _ _ _ _; have hB : Below w.heap.size w ((w.alloc (.cells L.toArray 31)).alloc (.cells z64.toArray 31)) := two _ _; simp only [World.size_alloc]; generalize (w.alloc (.cells L.toArray 31)).alloc (.cells z64.toArray 31) = w0 at *) | (refine wpList_load_mid rfl 31 (.tmp 2) rfl w.heap.size 0 (by rfl) L _ (box_range bL) Tryz.underlying31 rfl hi ?_) | (go_at_call 17; refine (cC _ (HA.out _ hB)).mono ?_; rintro e w1 ⟨rfl, hbb⟩; replace bZ := bZ.below hbb; replace hB := Below.step0 hB hbb; clear hbb bL) | (refine wpList_store_mid rfl 31 (.tmp 4) (.tmp 18) rfl (w.heap.size + 1) 0 (mcC zeroM zeroA).toArray (by rfl) (by rfl) (box_there bZ rfl) info_mach (all_oneCell_toArray (mc_one _ _)) ?_))
    have b7 := box_cells bZ (cs := mcC zeroM zeroA) rfl
    have hld := run_loadVar_mid (P := Tryz.prog) _ (w.heap.size + 1) 0 31 (mcC zeroM zeroA) _ (box_range b7) Tryz.underlying31 rfl info_mach
    exact ⟨trivial, .tuple #[.agg (mcC zeroM zeroA).toArray, .int .i64 0, .int .i64 E], by rw [res_cell2 Tryz.results8]; simp [asAddr, Result.andThen, hld], zeroA, rfl, below_cells _ _ _ _ hB (by omega), ⟨.inl rfl, .inl rfl, .inl rfl, Nat.le_refl _, Nat.le_refl _, Nat.zero_le _⟩, ⟨.inl rfl, .inl rfl, .inl rfl⟩⟩
end
end
section
open Go.RowKit
set_option linter.unusedVariables false

/-- It is no more than that one, seals aside. -/
def Les (k k' : K5) : Prop := (k.l ≤ 0 ∨ (k'.b ≤ k.b ∧ k.b + k.l ≤ k'.b + k'.l)) ∧ inB k.p k'.p = true
theorem les_refl (k : K5) : Les k k := ⟨.inr ⟨Int.le_refl _, Int.le_refl _⟩, in_refl _⟩
theorem les_trans {a b c : K5} (h : Les a b) (k : Les b c) : Les a c := by
  refine ⟨?_, in_trans _ _ _ h.2 k.2⟩
  rcases h.1 with h1 | h1
  · exact .inl h1
  · rcases k.1 with k1 | k1
    · exact .inl (by omega)
    · exact .inr (by omega)
theorem les_cov {k k' : K5} {j : Int} (h : Les k k') (hc : cov5 k j = true) : cov5 k' j = true := by
  have h1 := cov5_lit.1 hc
  refine cov5_lit.2 ?_
  rcases h.1 with h2 | h2 <;> omega
/-- What it holds at first. -/
inductive Rt (x : MC) (d : Bool) : K5 → Prop
  | reg (v : MV) (h : v ∈ x.r) (hi : v.i = true) : Rt x d (vK v)
  | code : Rt x d x.k
  | fc (hd : d = true) (f : FR) (h : f ∈ x.s) : Rt x d f.c
  | fd (hd : d = true) (f : FR) (h : f ∈ x.s) (hi : f.d.i = true) : Rt x d (vK f.d)
/-- A key counts, if it is not sealed, or one looks deep. -/
def Cnt (d : Bool) (k : K5) : Prop := k.s = 0 ∨ d = true
/-- P24: what it has. -/
inductive Has (x : MC) (d : Bool) : K5 → Prop
  | rt {k : K5} (h : Rt x d k) : Has x d k
  | cell (r : K5) (j : Nat) (v : MV) (h : Has x d r) (hc : Cnt d r) (hp : inB 9 r.p = true) (hv : cov5 r j = true) (hm : x.m[j]? = some v) (hi : v.i = true) : Has x d (vK v)
theorem bt_lit : ∀ i : Nat, i < 64 → bt 9 i = (bt 1 i || bt 8 i) := by decide +kernel
theorem in_nine {p : Int} (h1 : inB 1 p = true) (h8 : inB 8 p = true) : inB 9 p = true := by
  refine (inB_iff 9 p).2 fun i hi h => ?_
  rw [bt_lit i hi] at h
  cases h' : bt 1 i
  · rw [h'] at h
    exact (inB_iff 8 p).1 h8 i hi h
  · exact (inB_iff 1 p).1 h1 i hi h'
end
section
open Go.RowKit
set_option linter.unusedVariables false

/-- Where a value that is put into a register comes from. -/
inductive Src (x : MC) (i : ID) (v : MV) : Prop
  | num (h : v.i = false)
  | copy (h : v ∈ x.r)
  | less (u : MV) (h : u ∈ x.r) (hi : u.i = true) (hl : Les (vK v) (vK u)) (hs : u.s = 0 ∨ i.o = 16)
  | load (u : MV) (h : u ∈ x.r) (hi : u.i = true) (hs : u.s = 0) (hp : inB 9 u.p = true) (j : Nat) (hc : cov5 (vK u) j = true) (hm : x.m[j]? = some v)
  | here (h : vK v = x.k)
theorem reg_mem {x : MC} (h8 : x.r.length = 8) {k : Int} (hk : 0 ≤ k ∧ k ≤ 7) : reg x k ∈ x.r := by
  unfold reg
  rw [List.getD_eq_getElem?_getD, List.getElem?_eq_getElem (by omega)]
  exact List.getElem_mem _
theorem keyR_put {x x' : MC} {a : Int} {K : KK} {n n' : K5} (h : keyR x a K n = .ok x' n') : K.e = 0 ∧ x' = putR x a.toNat (kV ⟨K.p, K.b, K.l, K.a, K.s⟩) ∧ n' = n := by
  unfold keyR at h
  split at h
  · rename_i he
    cases h
    exact ⟨he, rfl, rfl⟩
  · cases h
theorem calcR_put {x x' : MC} {i : ID} {n n' : K5} {b c : MV} (h : calcR x i n b c = .ok x' n') : ∃ v, v.i = false ∧ x' = putR x i.a.toNat v ∧ n' = n := by
  unfold calcR at h
  split at h
  · cases h
  · split at h
    · cases h
    · split at h
      · cases h
      · cases h
        exact ⟨_, rfl, rfl, rfl⟩
theorem les_shift {o : Int} {k : K5} {m : Int} (h : (shiftK o k m).e = 0) : Les ⟨(shiftK o k m).p, (shiftK o k m).b, (shiftK o k m).l, (shiftK o k m).a, (shiftK o k m).s⟩ k ∧ k.s = 0 := by
  unfold shiftK at h ⊢
  split at h
  · rename_i ho
    rw [if_pos ho]
    unfold moveK at h ⊢
    by_cases hu : unsE k.p k.b k.l k.a k.s = 0
    · rw [if_pos hu] at h ⊢
      by_cases hb : 0 ≤ k.a + m ∧ k.a + m ≤ 400
      · rw [if_pos hb]
        exact ⟨⟨.inr ⟨Int.le_refl _, Int.le_refl _⟩, in_refl _⟩, (ok_of_uns hu).2⟩
      · rw [if_neg hb] at h; cases h
    · rw [if_neg hu] at h; exact absurd h hu
  · rename_i ho
    rw [if_neg ho]
    unfold narrowK at h ⊢
    by_cases hu : unsE k.p k.b k.l k.a k.s = 0
    · rw [if_pos hu] at h ⊢
      by_cases hb : k.b ≤ k.a ∧ 0 ≤ m ∧ k.a + m ≤ k.b + k.l
      · rw [if_pos hb]
        exact ⟨⟨.inr ⟨hb.1, hb.2.2⟩, in_refl _⟩, (ok_of_uns hu).2⟩
      · rw [if_neg hb] at h; cases h
    · rw [if_neg hu] at h; exact absurd h hu
theorem les_drop {k : K5} {m : Int} (h : (dropK k.p k.b k.l k.a k.s m).e = 0) : Les ⟨(dropK k.p k.b k.l k.a k.s m).p, (dropK k.p k.b k.l k.a k.s m).b, (dropK k.p k.b k.l k.a k.s m).l, (dropK k.p k.b k.l k.a k.s m).a, (dropK k.p k.b k.l k.a k.s m).s⟩ k ∧ k.s = 0 := by
  unfold dropK at h ⊢
  by_cases hu : unsE k.p k.b k.l k.a k.s = 0
  · rw [if_pos hu]
    exact ⟨⟨.inr ⟨Int.le_refl _, Int.le_refl _⟩, in_and_l _ _⟩, (ok_of_uns hu).2⟩
  · rw [if_neg hu] at h
    exact absurd h hu
theorem pl_plc {x : MC} {k : K5} {off q : Int} (h : plE x.m.length k off q = 0) : k.s = 0 ∧ inB q k.p = true ∧ cov5 k (pl k off : Nat) = true ∧ pl k off < x.m.length := by
  obtain ⟨h1, h2, h3, h4, h5, h6, h7, h8⟩ := plE_yes h
  exact ⟨h2, h3, by rw [h7]; exact h4, h8⟩
/-- What is put into a register. -/
theorem act_src {x x' : MC} {i : ID} {n n' : K5} (hG : Good x) (hi : okI i) (h : actR x i n = .ok x' n') (ho : i.o ≠ 8 ∧ i.o ≠ 9 ∧ i.o ≠ 11 ∧ i.o ≠ 18 ∧ i.o ≠ 19 ∧ i.o ≠ 21 ∧ i.o ≠ 22) :
    ∃ v, x' = putR x i.a.toNat v ∧ n' = n ∧ Src x i v := by
  obtain ⟨⟨o1, o2⟩, a1, a2, b1, b2, c1, c2⟩ := chkD_ok hi
  obtain ⟨c3, c4, c5⟩ := okI_c hi
  obtain ⟨O, hO⟩ := Int.eq_ofNat_of_zero_le o1
  have ra := reg_mem hG.r8 ⟨a1, a2⟩
  have rb := reg_mem hG.r8 ⟨b1, b2⟩
  have hO23 : O = 0 ∨ O = 1 ∨ O = 2 ∨ O = 3 ∨ O = 4 ∨ O = 5 ∨ O = 6 ∨ O = 7 ∨ O = 10 ∨ O = 12 ∨ O = 13 ∨ O = 14 ∨ O = 15 ∨ O = 16 ∨ O = 17 ∨ O = 20 := by omega
  unfold actR at h
  rw [hO, Int.toNat_natCast] at h
  rcases hO23 with rfl | rfl | rfl | rfl | rfl | rfl | rfl | rfl | rfl | rfl | rfl | rfl | rfl | rfl | rfl | rfl
  all_goals simp only at h
  · cases h
  · cases h
    exact ⟨_, rfl, rfl, .num rfl⟩
  · cases h
    exact ⟨_, rfl, rfl, .copy rb⟩
  · obtain ⟨v, hv, h1, h2⟩ := calcR_put h; exact ⟨v, h1, h2, .num hv⟩
  · obtain ⟨v, hv, h1, h2⟩ := calcR_put h; exact ⟨v, h1, h2, .num hv⟩
  · obtain ⟨v, hv, h1, h2⟩ := calcR_put h; exact ⟨v, h1, h2, .num hv⟩
  · obtain ⟨v, hv, h1, h2⟩ := calcR_put h; exact ⟨v, h1, h2, .num hv⟩
  · obtain ⟨v, hv, h1, h2⟩ := calcR_put h; exact ⟨v, h1, h2, .num hv⟩
  · split at h
    · rename_i hbi
      split at h
      · rename_i he
        cases h
        refine ⟨_, rfl, rfl, ?_⟩
        obtain ⟨hm, hpl⟩ := load_yes he
        unfold loadV
        rw [if_pos he]
        split
        · exact .num rfl
        · rename_i hn
          have e1 : x.m[pl (kOf (reg x i.b)) i.c]? = some (x.m.getD (pl (kOf (reg x i.b)) i.c) nil0) := by
            rw [List.getD_eq_getElem?_getD, List.getElem?_eq_getElem hpl.lt]; rfl
          cases hvi : (x.m.getD (pl (kOf (reg x i.b)) i.c) nil0).i
          · exact .num hvi
          · have h8' : inB 8 (kOf (reg x i.b)).p = true := by
              cases h8' : inB 8 (kOf (reg x i.b)).p
              · exact absurd ⟨hvi, h8'⟩ hn
              · rfl
            refine .load (reg x i.b) rb hbi hpl.s ?_ (pl (kOf (reg x i.b)) i.c) (by rw [hpl.at_]; exact hpl.cov) e1
            exact in_nine hpl.p h8'
      · cases h
    · cases h
  · split at h
    · rename_i hbi
      split at h
      · cases h
      · obtain ⟨he, h1, h2⟩ := keyR_put h
        have hl := les_shift he
        exact ⟨_, h1, h2, .less _ rb hbi hl.1 (.inl hl.2)⟩
    · cases h
  · split at h
    · rename_i hbi
      split at h
      · cases h
      · obtain ⟨he, h1, h2⟩ := keyR_put h
        have hl := les_shift he
        exact ⟨_, h1, h2, .less _ rb hbi hl.1 (.inl hl.2)⟩
    · cases h
  · split at h
    · rename_i hbi
      obtain ⟨he, h1, h2⟩ := keyR_put h
      have hl := les_drop (k := vK (reg x i.b)) he
      exact ⟨_, h1, h2, .less _ rb hbi hl.1 (.inl hl.2)⟩
    · cases h
  · split at h
    · rename_i hbi
      split at h
      · obtain ⟨he, h1, h2⟩ := keyR_put h
        obtain ⟨_, _, hs, _, _, e⟩ := seal_cases he
        rw [e] at h1
        exact ⟨_, h1, h2, .less _ rb hbi ⟨.inr ⟨Int.le_refl _, Int.le_refl _⟩, in_refl _⟩ (.inl hs)⟩
      · cases h
    · cases h
  · split at h
    · rename_i hbi
      split at h
      · obtain ⟨he, h1, h2⟩ := keyR_put h
        have e := (open_cases he).2.2.2.2.2
        rw [e] at h1
        exact ⟨_, h1, h2, .less _ rb hbi ⟨.inr ⟨Int.le_refl _, Int.le_refl _⟩, in_refl _⟩ (.inr (by omega))⟩
      · cases h
    · cases h
  · split at h
    · cases h
      exact ⟨_, rfl, rfl, .num rfl⟩
    · split at h
      · cases h
        exact ⟨_, rfl, rfl, .num rfl⟩
      · cases h
  · cases h
    exact ⟨_, rfl, rfl, .here rfl⟩
/-- What is set in the memory. -/
def MemTo (x y : MC) : Prop :=
  y.m = x.m ∨ ∃ u v, u ∈ x.r ∧ u.i = true ∧ u.s = 0 ∧ v ∈ x.r ∧ ∃ j : Nat, inB 2 u.p = true ∧ (v.i = true → inB 16 u.p = true) ∧ cov5 (vK u) j = true ∧ j < x.m.length ∧ y.m = x.m.set j v
/-- What comes to be held by a step. -/
structure Flow (x : MC) (i : ID) (y : MC) : Prop where
  reg : ∀ v ∈ y.r, v ∈ x.r ∨ Src x i v ∨ (i.o = 18 ∨ i.o = 19) ∧ (∃ k, Rt x true k ∧ Les (vK v) k)
  code : Les y.k x.k ∧ x.k.s = y.k.s ∨ (i.o = 18 ∨ i.o = 19) ∧ (∃ k, Rt x true k ∧ Les y.k k)
  frs : ∀ f ∈ y.s, f ∈ x.s ∨ (Les f.c x.k ∧ f.d ∈ x.r)
  mem : MemTo x y
theorem clr_mem {c : Int} : ∀ (k : Nat) {r : List MV} {v : MV}, v ∈ clrN c r k → v ∈ r ∨ v.i = false := by
  intro k
  induction k with
  | zero => intro r v h; exact .inl h
  | succ k ih =>
    intro r v h
    unfold clrN at h
    split at h
    · rcases List.mem_or_eq_of_mem_set h with h | rfl
      · exact ih h
      · exact .inr rfl
    · exact ih h
theorem step_flow {x : MC} (h8 : x.r.length = 8) (h : stpE x = 0) : Flow x (insAt x) (stpM x) := by
  obtain ⟨hG, hf, hi, x', n', hE, e, hA⟩ := step_eff h8 h
  have hcode := fet_at hG.m hf
  have hA' : actR x (insAt x) (nextK x) = .ok x' n' := by unfold stepA at hA; rwa [if_pos hf] at hA
  have hr7 := reg_mem hG.r8 (k := 7) (by omega)
  obtain ⟨⟨o1, o2⟩, a1, a2, b1, b2, c1, c2⟩ := chkD_ok hi
  have ra := reg_mem hG.r8 ⟨a1, a2⟩
  have rb := reg_mem hG.r8 ⟨b1, b2⟩
  have hn : Les (nextK x) x.k ∧ x.k.s = (nextK x).s := ⟨⟨.inr ⟨Int.le_refl _, Int.le_refl _⟩, in_refl _⟩, rfl⟩
  rw [e]
  cases hE with
  | put v hv ho =>
    obtain ⟨u, hu, _, hs⟩ := act_src hG hi hA' ho
    rw [hu]
    refine ⟨fun w hw => ?_, .inl hn, fun f hf => .inl hf, .inl rfl⟩
    rcases List.mem_or_eq_of_mem_set hw with hw | rfl
    · exact .inl hw
    · exact .inr (.inl hs)
  | jump ho hb => exact ⟨fun w hw => .inl hw, .inl ⟨⟨.inr ⟨Int.le_refl _, Int.le_refl _⟩, in_refl _⟩, rfl⟩, fun f hf => .inl hf, .inl rfl⟩
  | pass ho => exact ⟨fun w hw => .inl hw, .inl hn, fun f hf => .inl hf, .inl rfl⟩
  | store ho hbi he =>
    obtain ⟨_, _, hp, hx⟩ := store_yes he
    exact ⟨fun w hw => .inl hw, .inl hn, fun f hf => .inl hf, .inr ⟨_, _, rb, hbi, hp.s, ra, _, hp.p, hx, by rw [hp.at_]; exact hp.cov, hp.lt, rfl⟩⟩
  | call ho hai hbi he =>
    refine ⟨fun w hw => ?_, .inr ⟨.inl ho, _, .reg _ ra hai, ⟨.inr ⟨Int.le_refl _, Int.le_refl _⟩, in_refl _⟩⟩, fun f hf => ?_, .inl rfl⟩
    · rcases List.mem_or_eq_of_mem_set hw with hw | rfl
      · exact .inl hw
      · exact .inr (.inr ⟨.inl ho, _, .reg _ rb hbi, ⟨.inr ⟨Int.le_refl _, Int.le_refl _⟩, in_refl _⟩⟩)
    · rcases List.mem_append.1 hf with hf | hf
      · exact .inl hf
      · rw [List.mem_singleton] at hf
        subst hf
        exact .inr ⟨hn.1, hr7⟩
  | back ho f fs hs =>
    have hfm : f ∈ x.s := by rw [hs]; simp
    refine ⟨fun w hw => ?_, .inr ⟨.inr ho, _, .fc rfl f hfm, les_refl _⟩, fun g hg => .inl (by rw [hs]; exact List.mem_append_left _ hg), .inl rfl⟩
    rcases List.mem_or_eq_of_mem_set hw with hw | rfl
    · exact .inl hw
    · cases hdi : f.d.i
      · exact .inr (.inl (.num hdi))
      · exact .inr (.inr ⟨.inr ho, _, .fd rfl f hfm hdi, les_refl _⟩)
  | clear ho =>
    refine ⟨fun w hw => ?_, .inl hn, fun f hf => .inl hf, .inl rfl⟩
    rcases clr_mem 8 hw with hw | hw
    · exact .inl hw
    · exact .inr (.inl (.num hw))
  | tell ho hai hl => exact ⟨fun w hw => .inl hw, .inl hn, fun f hf => .inl hf, .inl rfl⟩
/-- Nothing comes to be held that was not come to. -/
theorem flow_has {x : MC} {d : Bool} (h8 : x.r.length = 8) (h : stpE x = 0) (hd : d = true ∨ ((insAt x).o ≠ 16 ∧ (insAt x).o ≠ 18 ∧ (insAt x).o ≠ 19)) :
    ∀ k, Has (stpM x) d k → Cnt d k → ∃ k0, Has x d k0 ∧ Cnt d k0 ∧ Les k k0 := by
  have F := step_flow h8 h
  obtain ⟨hG, hf, _⟩ := step_eff h8 h
  have hcs : x.k.s = 0 := (fet_at hG.m hf).1
  have any : ∀ k, Rt x true k → d = true → ∃ k0, Has x d k0 ∧ Cnt d k0 ∧ Les k k0 := fun k hk hd => by subst hd; exact ⟨k, .rt hk, .inr rfl, les_refl _⟩
  have regs : ∀ v ∈ x.r, v.i = true → Cnt d (vK v) → ∃ k0, Has x d k0 ∧ Cnt d k0 ∧ Les (vK v) k0 := fun v hv hi hc => ⟨_, .rt (.reg v hv hi), hc, les_refl _⟩
  intro k hk
  induction hk with
  | rt hr =>
    intro hc
    cases hr with
    | reg v hv hi =>
      rcases F.reg v hv with h1 | h1 | ⟨ho, k0, hk0, hl⟩
      · exact regs v h1 hi hc
      · cases h1 with
        | num h2 => rw [h2] at hi; cases hi
        | copy h2 => exact regs v h2 hi hc
        | less u h2 h3 h4 h5 =>
          refine ⟨_, .rt (.reg u h2 h3), ?_, h4⟩
          rcases hd with rfl | hd
          · exact .inr rfl
          · rcases h5 with h5 | h5
            · exact .inl h5
            · exact absurd h5 hd.1
        | load u h2 h3 h4 h5 j h6 h7 => exact ⟨_, .cell _ j v (.rt (.reg u h2 h3)) (.inl h4) h5 h6 h7 hi, hc, les_refl _⟩
        | here h2 => rw [h2]; exact ⟨_, .rt .code, .inl hcs, les_refl _⟩
      · rcases hd with rfl | hd
        · exact ⟨k0, .rt hk0, .inr rfl, hl⟩
        · rcases ho with ho | ho
          · exact absurd ho hd.2.1
          · exact absurd ho hd.2.2
    | code =>
      rcases F.code with h1 | ⟨ho, k0, hk0, hl⟩
      · exact ⟨_, .rt .code, .inl hcs, h1.1⟩
      · rcases hd with rfl | hd
        · exact ⟨k0, .rt hk0, .inr rfl, hl⟩
        · rcases ho with ho | ho
          · exact absurd ho hd.2.1
          · exact absurd ho hd.2.2
    | fc hdt f hf =>
      rcases F.frs f hf with h1 | ⟨h1, h2⟩
      · exact any _ (.fc rfl f h1) hdt
      · exact ⟨_, .rt .code, .inl hcs, h1⟩
    | fd hdt f hf hi =>
      rcases F.frs f hf with h1 | ⟨h1, h2⟩
      · exact any _ (.fd rfl f h1 hi) hdt
      · exact regs _ h2 hi hc
  | cell r j v hr hcr hp hcv hm hi ih =>
    intro hc
    obtain ⟨r0, g1, g2, g3⟩ := ih hcr
    have old : x.m[j]? = some v → ∃ k0, Has x d k0 ∧ Cnt d k0 ∧ Les (vK v) k0 := fun hm' => ⟨_, .cell r0 j v g1 g2 (in_trans _ _ _ hp g3.2) (les_cov g3 hcv) hm' hi, hc, les_refl _⟩
    rcases F.mem with h1 | ⟨u, w, _, _, _, hw, j', _, _, _, hlt, h1⟩
    · rw [h1] at hm
      exact old hm
    · rw [h1] at hm
      by_cases hj : j' = j
      · subst hj
        rw [List.getElem?_set_self hlt] at hm
        injection hm with hm
        subst hm
        exact regs w hw hi hc
      · rw [List.getElem?_set_ne hj] at hm
        exact old hm
theorem run_has : ∀ (f : Nat) (x : MC), Good x → ∀ k, Has (runM f x) true k → ∃ k0, Has x true k0 ∧ Les k k0
  | 0, x, _, k, h => ⟨k, h, les_refl _⟩
  | f + 1, x, hG, k, h => by
    unfold runM at h
    split at h
    · rename_i hs
      obtain ⟨k1, h1, l1⟩ := run_has f _ (step_good hG.r8 hs) k h
      obtain ⟨k0, h0, _, l0⟩ := flow_has hG.r8 hs (.inl rfl) k1 h1 (.inr rfl)
      exact ⟨k0, h0, les_trans l1 l0⟩
    · exact ⟨k, h, les_refl _⟩
/-- A cell that no key that is come to allows to store is as it was. -/
theorem run_guard : ∀ (f : Nat) (x : MC), Good x → (runM f x).m.length = x.m.length ∧ ∀ j : Nat, (∀ k, Has x true k → inB 2 k.p = true → cov5 k j = false) → (runM f x).m[j]? = x.m[j]?
  | 0, x, _ => ⟨rfl, fun _ _ => rfl⟩
  | f + 1, x, hG => by
    unfold runM
    split
    · rename_i hs
      obtain ⟨e1, e2⟩ := run_guard f _ (step_good hG.r8 hs)
      have hm := (step_flow hG.r8 hs).mem
      refine ⟨?_, fun j hj => ?_⟩
      · rw [e1]
        rcases hm with h1 | ⟨_, _, _, _, _, _, _, _, _, _, _, h1⟩
        · rw [h1]
        · rw [h1, List.length_set]
      · rw [e2 j fun k hk hp => ?_]
        · rcases hm with h1 | ⟨u, w, hu, hui, hus, _, j', hp, _, hc, _, h1⟩
          · rw [h1]
          · rw [h1, List.getElem?_set_ne]
            intro e
            subst e
            rw [hj _ (.rt (.reg u hu hui)) hp] at hc
            cases hc
        · obtain ⟨k0, h0, _, l0⟩ := flow_has hG.r8 hs (.inl rfl) k hk (.inr rfl)
          have h3 := hj k0 h0 (in_trans _ _ _ hp l0.2)
          cases hc : cov5 k j
          · rfl
          · rw [les_cov l0 hc] at h3
            cases h3
    · exact ⟨rfl, fun _ _ => rfl⟩
/-- Both are the same, but for cells that are not seen. -/
structure Sim (S : Nat → Prop) (x y : MC) : Prop where
  r : y.r = x.r
  k : y.k = x.k
  s : y.s = x.s
  o : y.o = x.o
  l : y.m.length = x.m.length
  m : ∀ j, S j → y.m[j]? = x.m[j]?
def AR.withM (A : AR) (m : List MV) : AR := match A with
  | .no t => .no t
  | .ok x n => .ok { x with m := m } n
theorem keyR_withM {x : MC} {m : List MV} {a : Int} {K : KK} {n : K5} : keyR { x with m := m } a K n = (keyR x a K n).withM m := by
  unfold keyR
  split <;> rfl
theorem calcR_withM {x : MC} {m : List MV} {i : ID} {n : K5} {b c : MV} : calcR { x with m := m } i n b c = (calcR x i n b c).withM m := by
  unfold calcR
  split
  · rfl
  · split
    · rfl
    · split <;> rfl
theorem jumpR_withM {x : MC} {m : List MV} {i : ID} {n : K5} : jumpR { x with m := m } i n = (jumpR x i n).withM m := by
  unfold jumpR
  split <;> rfl
theorem act_withM {x : MC} {m : List MV} {i : ID} {n : K5} (h10 : i.o.toNat ≠ 10) (h11 : i.o.toNat ≠ 11) : actR { x with m := m } i n = (actR x i n).withM m := by
  have hr : ∀ k, reg { x with m := m } k = reg x k := fun _ => rfl
  unfold actR
  simp only [hr]
  split
  · rfl
  · rfl
  · rfl
  · exact calcR_withM
  · exact calcR_withM
  · exact calcR_withM
  · exact calcR_withM
  · exact calcR_withM
  · exact jumpR_withM
  · split
    · rfl
    · split
      · rfl
      · exact jumpR_withM
  · rename_i h; exact absurd h h10
  · rename_i h; exact absurd h h11
  · split
    · split
      · rfl
      · exact keyR_withM
    · rfl
  · split
    · split
      · rfl
      · exact keyR_withM
    · rfl
  · split
    · exact keyR_withM
    · rfl
  · split
    · split
      · exact keyR_withM
      · rfl
    · rfl
  · split
    · split
      · exact keyR_withM
      · rfl
    · rfl
  · split
    · rfl
    · split <;> rfl
  · split
    · split
      · split <;> rfl
      · rfl
    · rfl
  · split <;> rfl
  · rfl
  · rfl
  · split
    · rfl
    · split <;> rfl
  · rfl
theorem sim_step {S : Nat → Prop} {x y : MC} (hx : Good x) (hy : Good y) (hS : Sim S x y)
    (hI : ∀ k, Rt x true k → k.s = 0 → (inB 1 k.p = true ∨ inB 4 k.p = true) → ∀ j : Nat, cov5 k j = true → S j) :
    stpE y = stpE x ∧ (stpE x = 0 → Sim S (stpM x) (stpM y)) := by
  have ey : y = { x with m := y.m } := by
    obtain ⟨r, k, m, s, o⟩ := y
    obtain ⟨h1, h2, h3, h4, _, _⟩ := hS
    dsimp only at h1 h2 h3 h4
    subst h1 h2 h3 h4
    rfl
  have hl := hS.l
  have hm := hS.m
  generalize y.m = M at *
  subst ey
  have hko := ok5_lit hx.k
  have hcell : x.k.s = 0 → inB 4 x.k.p = true → cov5 x.k x.k.a = true → cellAt { x with m := M } = cellAt x := fun h1 h2 h3 => by
    have := hm x.k.a.toNat (hI _ .code h1 (.inr h2) _ (by rw [Int.toNat_of_nonneg (by omega)]; exact h3))
    unfold cellAt
    rw [List.getD_eq_getElem?_getD, List.getD_eq_getElem?_getD, this]
  have hfet : fetI { x with m := M } = fetI x := by
    unfold fetI
    dsimp only
    by_cases h1 : x.k.s = 0
    · rw [if_pos h1, if_pos h1]
      by_cases h2 : inB 4 x.k.p = true
      · rw [if_pos h2, if_pos h2]
        by_cases h3 : cov5 x.k x.k.a = true ∧ x.k.a < x.m.length
        · rw [if_pos h3, if_pos (by rw [hl]; exact h3)]
          unfold insAt
          rw [hcell h1 h2 h3.1]
        · rw [if_neg h3, if_neg (by rw [hl]; exact h3)]
      · rw [if_neg h2, if_neg h2]
    · rw [if_neg h1, if_neg h1]
  have ex := hx.e
  have ey := hy.e
  by_cases hf : fetI x = 0
  · obtain ⟨f1, f2, f3, f4, f5, f6, f7⟩ := fet_at hx.m hf
    have hins : insAt { x with m := M } = insAt x := by unfold insAt; rw [hcell f1 f2 f3]
    obtain ⟨⟨o1, o2⟩, a1, a2, b1, b2, c1, c2⟩ := chkD_ok f7
    have rb := reg_mem hx.r8 ⟨b1, b2⟩
    have sx : stepA x = actR x (insAt x) (nextK x) := by unfold stepA; exact if_pos hf
    have sy : stepA { x with m := M } = actR { x with m := M } (insAt x) (nextK x) := by unfold stepA; rw [if_pos (by rw [hfet]; exact hf), hins]; rfl
    have fin : ∀ A B : AR, stepA x = A → stepA { x with m := M } = B →
        ((∃ t, A = .no t ∧ B = .no t) ∨ (∃ x1 m1 n1, A = .ok x1 n1 ∧ B = .ok { x1 with m := m1 } n1 ∧ m1.length = x1.m.length ∧ ∀ j, S j → m1[j]? = x1.m[j]?)) →
        stpE { x with m := M } = stpE x ∧ (stpE x = 0 → Sim S (stpM x) (stpM { x with m := M })) := fun A B hA hB hh => by
      unfold stpE stpM
      rw [if_pos ex, if_pos ex, if_pos ey, if_pos ey, hA, hB]
      rcases hh with ⟨t, rfl, rfl⟩ | ⟨x1, m1, n1, rfl, rfl, h1, h2⟩
      · exact ⟨rfl, fun _ => ⟨rfl, rfl, rfl, rfl, rfl, fun _ _ => rfl⟩⟩
      · exact ⟨rfl, fun _ => ⟨rfl, rfl, rfl, rfl, h1, h2⟩⟩
    refine fin _ _ sx sy ?_
    by_cases h10 : (insAt x).o.toNat = 10
    · unfold actR
      rw [h10]
      dsimp only
      have hr : ∀ k, reg { x with m := M } k = reg x k := fun _ => rfl
      rw [hr]
      cases hbi : (reg x (insAt x).b).i
      · exact .inl ⟨_, rfl, rfl⟩
      · rw [if_pos rfl, if_pos rfl]
        have hE : loadE M (kOf (reg x (insAt x).b)) (insAt x).c = loadE x.m (kOf (reg x (insAt x).b)) (insAt x).c := by
          have hx1 := hx.m
          have hy1 : memE M = 0 := hy.m
          unfold loadE
          rw [if_pos hx1, if_pos hy1, hl]
        rw [hE]
        by_cases he : loadE x.m (kOf (reg x (insAt x).b)) (insAt x).c = 0
        · rw [if_pos he, if_pos he]
          have hp := (load_yes he).2
          have hc := hm (pl (kOf (reg x (insAt x).b)) (insAt x).c) (hI _ (.reg _ rb hbi) hp.s (.inl hp.p) _ (by rw [hp.at_]; exact hp.cov))
          have hV : loadV M (kOf (reg x (insAt x).b)) (insAt x).c = loadV x.m (kOf (reg x (insAt x).b)) (insAt x).c := by
            unfold loadV
            rw [hE, List.getD_eq_getElem?_getD, List.getD_eq_getElem?_getD, hc]
          rw [hV]
          exact .inr ⟨_, M, _, rfl, rfl, hl, hm⟩
        · rw [if_neg he, if_neg he]
          exact .inl ⟨_, rfl, rfl⟩
    · by_cases h11 : (insAt x).o.toNat = 11
      · unfold actR
        rw [h11]
        dsimp only
        have hr : ∀ k, reg { x with m := M } k = reg x k := fun _ => rfl
        simp only [hr]
        cases hbi : (reg x (insAt x).b).i
        · exact .inl ⟨_, rfl, rfl⟩
        · have hE : storeE M (kOf (reg x (insAt x).b)) (insAt x).c (reg x (insAt x).a) = storeE x.m (kOf (reg x (insAt x).b)) (insAt x).c (reg x (insAt x).a) := by
            have hx1 := hx.m
            have hy1 : memE M = 0 := hy.m
            unfold storeE
            rw [if_pos hx1, if_pos hy1, hl]
          simp only [hE, if_true]
          by_cases he : storeE x.m (kOf (reg x (insAt x).b)) (insAt x).c (reg x (insAt x).a) = 0
          · rw [if_pos he, if_pos he]
            refine .inr ⟨_, _, _, rfl, rfl, ?_, ?_⟩
            · dsimp only
              rw [store_set he, store_set (by rw [hE]; exact he), List.length_set, List.length_set, hl]
            · intro j hj
              dsimp only
              rw [store_set he, store_set (by rw [hE]; exact he), List.getElem?_set, List.getElem?_set, hl, hm j hj]
          · rw [if_neg he, if_neg he]
            exact .inl ⟨_, rfl, rfl⟩
      · rw [act_withM (x := x) (m := M) (i := insAt x) (n := nextK x) h10 h11]
        cases hA : actR x (insAt x) (nextK x) with
        | no t => exact .inl ⟨t, rfl, rfl⟩
        | ok x1 n1 =>
          refine .inr ⟨x1, M, n1, rfl, rfl, ?_, ?_⟩
          all_goals
            have hEf := act_eff hx f7 hA
            have hmm : x1.m = x.m := by cases hEf <;> first | rfl | (rename_i ho _ _; exfalso; rw [ho] at h11; exact h11 rfl)
            rw [hmm]
          · exact hl
          · exact hm
  · have sx : stepA x = .no (.e (fetI x)) := by unfold stepA; exact if_neg hf
    have sy : stepA { x with m := M } = .no (.e (fetI x)) := by unfold stepA; rw [if_neg (by rw [hfet]; exact hf), hfet]
    unfold stpE stpM
    rw [if_pos ex, if_pos ex, if_pos ey, if_pos ey, sx, sy]
    exact ⟨rfl, fun _ => ⟨rfl, rfl, rfl, rfl, rfl, fun _ _ => rfl⟩⟩
theorem sim_run {S : Nat → Prop} : ∀ (f : Nat) (x y : MC), Good x → Good y → Sim S x y →
    (∀ k, Has x true k → (inB 1 k.p = true ∨ inB 4 k.p = true) → ∀ j : Nat, cov5 k j = true → S j) →
    runN f y = runN f x ∧ runE f y = runE f x ∧ Sim S (runM f x) (runM f y)
  | 0, x, y, _, _, h, _ => ⟨rfl, rfl, h⟩
  | f + 1, x, y, hx, hy, h, hI => by
    obtain ⟨e1, e2⟩ := sim_step hx hy h (fun k hk _ => hI k (.rt hk))
    unfold runN runE runM
    rw [e1]
    by_cases hs : stpE x = 0
    · rw [if_pos hs, if_pos hs, if_pos hs, if_pos hs, if_pos hs, if_pos hs]
      obtain ⟨g1, g2, g3⟩ := sim_run f (stpM x) (stpM y) (step_good hx.r8 hs) (step_good hy.r8 (by rw [e1]; exact hs)) (e2 hs) (fun k hk hp j hc => by
        obtain ⟨k0, h0, _, l0⟩ := flow_has hx.r8 hs (.inl rfl) k hk (.inr rfl)
        exact hI k0 h0 (hp.imp (fun q => in_trans _ _ _ q l0.2) (fun q => in_trans _ _ _ q l0.2)) j (les_cov l0 hc))
      exact ⟨by rw [g1], g2, g3⟩
    · rw [if_neg hs, if_neg hs, if_neg hs, if_neg hs, if_neg hs, if_neg hs]
      exact ⟨rfl, rfl, h⟩
end
end Go.Proofs.YtlfeglljpfihhaaGreatDoor
