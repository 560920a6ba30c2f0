/- run.Run: many steps of a machine. -/
import Derived.Test.YthapfaohnliklaaDoorRows
import Derived.Test.YthapfaohnliklaaDoorKeyPure
import Derived.Test.YthapfaohnliklaaDoorMachArg
import Derived.Test.YthapfaohnliklaaDoorInstShape
import Derived.Test.YthapfaohnliklaaDoorStepChk
import Derived.Test.YthapfaohnliklaaDoorStepOff
import Derived.Test.YthapfaohnliklaaDoorStepOwn
import Derived.Test.YthapfaohnliklaaDoorStepTop
import Derived.Test.YthapfaohnliklaaDoorStepKeep
import Derived.Test.YthapfaohnliklaaDoorRangeW
import Derived.Test.YthapfaohnliklaaDoorInMid
import Derived.Test.YthapfaohnliklaaDoorRunPlain
import Derived.Test.YthapfaohnliklaaDoorRunBase
import Derived.WalkKit
import Derived.ProofKit
import Derived.Shelf.RegionOpen
import Derived.RangeFuncOwn
namespace Go.Proofs.YthapfaohnliklaaDoor
section
open Go.ChangeShapes Go.WideShapes Go.ChangeAt Go.RowKit Go.Shelf
set_option linter.unusedSimpArgs false
set_option linter.unusedVariables false
set_option maxRecDepth 100000
attribute [local go_sem] Oper.semAt_some

def lastC (pre : List DD) : List Value := match pre.getLast? with
  | none => z64
  | some y => mcC y.1 y.2.1
def lastE (pre : List DD) : Int := match pre.getLast? with
  | none => 0
  | some y => y.2.2
theorem lastC_snoc (pre : List DD) (y : DD) : lastC (pre ++ [y]) = mcC y.1 y.2.1 := by unfold lastC; rw [List.getLast?_concat]
theorem lastE_snoc (pre : List DD) (y : DD) : lastE (pre ++ [y]) = y.2.2 := by unfold lastE; rw [List.getLast?_concat]
/-- What lies in the caller's own boxes between two rounds; D: where its loop's record lies. -/
structure RI (w : World) (x : MC) (f b B D : Nat) (own0 : Nat → Prop) (pre : List DD) (own : Nat → Prop) (A : World) : Prop where
  own : own = own0
  below : Below w.heap.size w A
  size : D + 2 ≤ A.heap.size
  z : Box A b z64.toArray
  last : Box A B (lastC pre).toArray
  why : Box A (B + 1) #[.int .i64 (lastE pre)]
  done : Box A (B + 2) #[.int .i64 (zeros (pre.map ddP) : Nat)]
  mach : ∀ y, pre.getLast? = some y → McAt A y.1 y.2.1 ∧ FarX (fun k => own0 k ∨ k = D + 1 ∨ k = D + 2 ∨ k = b ∨ k < w.heap.size) y.1 y.2.1 ∧ y.1.r.length = 8
  pre : ∃ r, pre.map ddP ++ r = dealt f x
theorem RI.off {w : World} {x : MC} {f b B D : Nat} {own0 : Nat → Prop} {pre : List DD} {own : Nat → Prop} {A A' : World} {k : Nat} (h : RI w x f b B D own0 pre own A) (hO : Off k A A') (hk : k = D + 1 ∨ k = D + 2) (hw : w.heap.size ≤ D) (hb : b < D) (hB : B + 2 < D) : RI w x f b B D own0 pre own A' := by
  have hs := hO.size
  have h1 := h.size
  refine ⟨h.own, h.below.trans (hO.to (by omega) (by omega)), by omega, hO.box h.z (by omega), hO.box h.last (by omega), hO.box h.why (by omega), hO.box h.done (by omega), fun y hy => ?_, h.pre⟩
  obtain ⟨m1, m2, m3⟩ := h.mach y hy
  exact ⟨(hO.toP (p := fun j => j = k) rfl).mcX m1 (m2.mono fun j hj => by subst hj; rcases hk with h | h; exact .inr (.inl h); exact .inr (.inr (.inl h))), m2, m3⟩
theorem row_not {A : World} {a : Option Addr} {cs : List Value} {D : Nat} {ds : Option (List Deferred)} (h : RowAt A a cs) (hD : A.heap[D]? = some (.deferred ds)) : FarR (fun k => k = D) a cs := by
  rcases h with h | ⟨B, off, rfl, hB, hc⟩
  · exact .inl h
  · cases cs with
    | nil => exact .inl rfl
    | cons u us =>
      refine .inr fun y hy e => ?_
      cases hy
      simp only at e
      subst e
      have h0 := hc 0 u rfl
      unfold World.cell? at h0
      simp [hD] at h0
theorem mc_not {A : World} {x : MC} {q : MA} {D : Nat} {ds : Option (List Deferred)} (h : McAt A x q) (hD : A.heap[D]? = some (.deferred ds)) : FarX (fun k => k = D) x q := ⟨row_not h.m.row hD, row_not h.s hD, row_not h.o hD⟩
theorem zip2 (p1 p2 : Tmp) (v1 v2 : Value) (T : Array Value) : ((#[p1, p2] : Array Tmp).zip #[v1, v2]).foldl (fun t x => match x with | (p, v) => t.setIfInBounds p v) T = (T.setIfInBounds p1 v1).setIfInBounds p2 v2 := by
  simp
theorem res_cell2 {fn : Func} {p u v : Tmp} {ty : TypeId} (h : fn.results = #[.cell p ty, .tmp u, .tmp v]) (tmps : Array Value) (P : Program) (w : World) :
    (results fn tmps).run P w =
      ((asAddr (tmps.getD p undef)).run P w).andThen fun a w₁ => ((loadVar ty a).run P w₁).andThen fun z w₂ => .ok (.tuple #[z, tmps.getD u undef, tmps.getD v undef]) w₂ := by
  simp only [results, h]
  simp [Sem.run_bind, Result.andThen]
def quietX : Exit → Prop
  | .panic _ => False
  | _ => True
set_option maxHeartbeats 4000000 in
theorem run_run (x : MC) (q : MA) (f : Int) (w : World) (hA : McAt w x q) (hO : McB x) (hS : Shp w) :
    Calls Tryd.prog 18 #[.agg (mcC x q).toArray, .int .i64 f] w fun e w' => ∃ q', e = .returned (.tuple #[.agg (mcC (if chkR f x = 0 then runM f.toNat x else zeroM) q').toArray, .int .i64 (if chkR f x = 0 then (runN f.toNat x : Nat) else 0), .int .i64 (if chkR f x = 0 then runE f.toNat x else chkR f x)]) ∧ Below w.heap.size w w' ∧ McAt w' (if chkR f x = 0 then runM f.toNat x else zeroM) q' ∧ FarX (fun k => k < w.heap.size) (if chkR f x = 0 then runM f.toNat x else zeroM) q' := by
  have cC := fun w hA => run_check x q f w hA hO
  have hi : (Tryd.prog.info? 31).map (·.size) = some (mcC x q).length := mach_info hO.r8
  by_cases hE : chkR f x = 0
  · rw [if_pos hE, if_pos hE, if_pos hE]
    obtain ⟨F, rfl, hF, hE'⟩ : ∃ F : Nat, f = (F : Int) ∧ F ≤ 5000 ∧ mcE x = 0 := by
      unfold chkR at hE
      split at hE
      · cases hE
      · exact ⟨f.toNat, by omega, by omega, hE⟩
    rw [Int.toNat_natCast]
    have hG := good_of hO.r8 hE'
    have cO := fun w hA => run_own x q w hA hO.r8 (mem_small hG.m).1 (stk_iff.1 hG.s).1 (out_iff.1 hG.o).1
    rw [hE] at cC
    have HA : Hid (∀ w', Below w.heap.size w w' → McAt w' x q) := fun w' hb => hA.below hb
    have HS : Hid (∀ w', Below w.heap.size w w' → Shp w') := fun w' hb => hS.below hb
    generalize mcC x q = L at *
    clear hA hE
    refine (callsIn_wide (n := 0)).1 (callsIn_of_wp_marks Tryd.func18 rfl trivial (wpIn_wide.2 (Code.wp_mono (Q := fun e a w => quietX e ∧ bodyPostM _ _ _ _ _ e a w) (fun _ _ _ h => h.2) ?_)) rfl)
    simp only [Tryd.ntmps18, List.size_toArray, List.length_cons, List.length_nil, Nat.reduceAdd, Nat.reduceSub, Array.replicate_succ, Array.replicate_zero, List.push_toArray, List.append_toArray, List.nil_append, List.cons_append]
    go_upto_region 4 with (first | (refine wpList_alloc1 rfl 31 rfl _ (alloc_mach _) ?_; have bL : Box ((w.alloc (.cells L.toArray 31)).alloc (.cells z64.toArray 31)) w.heap.size L.toArray := (Box.new _ _ _).alloc _; have bZ : Box ((w.alloc (.cells L.toArray 31)).alloc (.cells z64.toArray 31)) (w.heap.size + 1) z64.toArray := Box.new1 _ _ _ _; have hB : Below w.heap.size w ((w.alloc (.cells L.toArray 31)).alloc (.cells z64.toArray 31)) := two _ _; simp only [World.size_alloc]; generalize (w.alloc (.cells L.toArray 31)).alloc (.cells z64.toArray 31) = w0 at *) | (refine wpList_load_mid rfl 31 (.tmp 2) rfl w.heap.size 0 (by rfl) L _ (box_range bL) Tryd.underlying31 rfl hi ?_) | (go_at_call 33; refine (cC _ (HA.out _ hB)).mono ?_; rintro e w1 ⟨rfl, hbb⟩; replace bL := bL.below hbb; replace bZ := bZ.below hbb; replace hB := Below.step0 hB hbb; clear hbb cC))
    go_upto_region 7 with (refine wpList_alloc1 rfl 31 rfl _ (alloc_mach _) ?_)
    obtain ⟨w2, hw2⟩ : ∃ w2, w2 = ((w1.alloc (.cells z64.toArray 31)).alloc (.cells #[.int .i64 0] 32)).alloc (.cells #[.int .i64 0] 3) := ⟨_, rfl⟩
    rw [← hw2]
    have bL2 : Box w2 w.heap.size L.toArray := by rw [hw2]; exact ((bL.alloc _).alloc _).alloc _
    have bZ2 : Box w2 (w.heap.size + 1) z64.toArray := by rw [hw2]; exact ((bZ.alloc _).alloc _).alloc _
    have b8 : Box w2 w1.heap.size z64.toArray := by rw [hw2]; exact ((Box.new _ _ _).alloc _).alloc _
    have b9 : Box w2 (w1.heap.size + 1) #[.int .i64 0] := by rw [hw2]; exact (Box.new1 _ _ _ _).alloc _
    have b10 : Box w2 (w1.heap.size + 2) #[.int .i64 0] := by rw [hw2]; exact Box.new2 _ _ _ _ _
    have hB2 : Below w.heap.size w w2 := by rw [hw2]; exact ((hB.alloc hB.size _).alloc (by have := hB.size; simp; omega) _).alloc (by have := hB.size; simp; omega) _
    have hz2 : w1.heap.size + 3 ≤ w2.heap.size ∧ w2.heap.size ≤ w1.heap.size + 3 := by rw [hw2]; simp
    have hbz := bZ.lt
    have hzw := hB.size
    clear hw2 bL bZ hB
    rw [show w1.heap.size + 1 + 1 = w1.heap.size + 2 from rfl]
    generalize w1.heap.size = B at *
    go_wp2_with (first | (refine wpList_load_mid rfl 31 (.tmp 2) rfl w.heap.size 0 (by rfl) L _ (box_range bL2) Tryd.underlying31 rfl hi ?_) | (go_at_call 35; refine (cO _ (HA.out _ hB2)).mono ?_; rintro e w3 ⟨q1, rfl, hbb, hA3, hQ3⟩; replace bZ2 := bZ2.below hbb; replace b8 := b8.below hbb; replace b9 := b9.below hbb; replace b10 := b10.below hbb; have hz3 := hbb.size; replace hB2 := Below.step0 hB2 hbb; clear hbb bL2 cO) | (go_at_call 34; refine (run_steps _ _ _).mono ?_; rintro e w4 ⟨rfl, hw4⟩; have HW4 : Hid (w4 = _) := hw4; clear hw4))
    have hw4 := HW4.out
    clear HW4
    have C1 : Box w4 w3.heap.size (mcC x q1).toArray := by rw [hw4]; exact (Box.new _ _ _).alloc _
    have C2 : Box w4 (w3.heap.size + 1) #[.int .i64 (F : Int)] := by rw [hw4]; exact Box.new1 _ _ _ _
    have hB4 : Below w3.heap.size w3 w4 := by rw [hw4]; exact two _ _
    have hz4 : w3.heap.size + 2 ≤ w4.heap.size ∧ w4.heap.size ≤ w3.heap.size + 2 := by rw [hw4]; simp
    replace bZ2 := bZ2.below hB4
    replace b8 := b8.below hB4
    replace b9 := b9.below hB4
    replace b10 := b10.below hB4
    replace hA3 := hA3.below hB4
    replace hB2 := Below.step0 hB2 hB4
    have hS4 := HS.out _ hB2
    have hX3 : FarX (fun k => k < w2.heap.size ∨ w3.heap.size ≤ k) x q1 := ⟨.inr fun y hy e => by have := hQ3.m y hy; omega, .inr fun y hy e => by have := hQ3.s y hy; omega, .inr fun y hy e => by have := hQ3.o y hy; omega⟩
    clear hw4 hB4 hQ3
    refine wp_range (gf := 47) (lb := #[.pointer (some ⟨w3.heap.size, 0, none⟩), .pointer (some ⟨w3.heap.size + 1, 0, none⟩)]) rfl (enters_of Tryd.func47 (by kernel_rfl) rfl) (enc := ddV) (fun _ => rfl) (Ad := Ad (fun k => k = w.heap.size + 1 ∨ k < w.heap.size) x F (w4.heap.size + 2)) (Fin := FinD x F) (Cl := ClD (fun k => k = w.heap.size + 1 ∨ k < w.heap.size) x q1 w3.heap.size (w3.heap.size + 1) (w4.heap.size + 2)) ?iter (fun k => k = B ∨ k = B + 1 ∨ k = B + 2) (RI w x F (w.heap.size + 1) B w4.heap.size (fun k => k = B ∨ k = B + 1 ∨ k = B + 2)) ?cl ?fresh ?off ?own ?init ?round ?done
    case iter =>
      intro o
      have hb : Below w4.heap.size w4 ((w4.alloc (.deferred (some []))).alloc o) := two _ _
      have := iter_deals (fun k => k = w.heap.size + 1 ∨ k < w.heap.size) x q1 w3.heap.size (w3.heap.size + 1) F _ (hS4.below hb) (C1.below hb) ((C2.below hb).cell 0) (hA3.below hb) hG hF
      rw [show ((w4.alloc (.deferred (some []))).alloc o).heap.size = w4.heap.size + 2 by simp] at this
      exact this
    case cl =>
      have hT := hS.1
      exact ⟨hX3.mono fun k hk => by omega, fun k hk => by omega, by omega, by omega, by omega, by omega⟩
    case fresh =>
      intro k hk
      omega
    case off =>
      intro pre own A A' k hk hI hO
      exact hI.off hO hk (by omega) (by omega) (by omega)
    case own =>
      intro pre own A k hI hk
      rw [hI.own] at hk
      omega
    case init =>
      intro o
      have hb : Below w4.heap.size w4 ((w4.alloc (.deferred (some []))).alloc o) := two _ _
      exact ⟨rfl, Below.step0 hB2 hb, by simp, bZ2.below hb, b8.below hb, b9.below hb, b10.below hb, fun y hy => (by cases hy), dealt F x, rfl⟩
    case round =>
      rintro pre ⟨yx, yq, ye⟩ own A ⟨hown, hbA, hszA, zA, lA, eA, dA, mA, pA⟩ ⟨m1, m2, mG, r, hr⟩ hsz
      subst hown
      dsimp only [ddV] at *
      have hiy : (Tryd.prog.info? 31).map (·.size) = some (mcC yx yq).length := mach_info mG.r8
      simp only [zip2, List.setIfInBounds_toArray, List.set_cons_succ, List.set_cons_zero]
      have hO1 : Below A.heap.size A ((A.alloc (.cells z64.toArray 31)).setCells A.heap.size 0 (mcC yx yq)) := below_cells _ _ _ _ ((Below.refl _ _).alloc (Nat.le_refl _) _) (Nat.le_refl _)
      gi_wp2_with (first | (refine in_alloc_row rfl 31 rfl _ _ (alloc_mach _) ?_) | (refine in_store_box rfl 31 (.tmp 11) (.tmp 24) rfl A.heap.size (mcC yx yq) rfl rfl z64.toArray (Box.new _ _ _) (by rw [List.size_toArray, z64_len, mc_length mG.r8]) hiy (mc_one _ _) ?_; intro bN; generalize (A.alloc (.cells z64.toArray 31)).setCells A.heap.size 0 (mcC yx yq) = A1 at *))
      refine ⟨((OffP.refl _ _).below hO1), fun A2 hO2 => ?_⟩
      have hs1 := hO1.size
      have hs2 := hO2.size
      have zA2 := hO2.box (zA.below hO1) (by omega)
      have lA2 := hO2.box (lA.below hO1) (by omega)
      have eA2 := hO2.box (eA.below hO1) (by omega)
      have dA2 := hO2.box (dA.below hO1) (by omega)
      have bN2 := hO2.box bN (by omega)
      have hlen : (lastC pre).toArray.size = (mcC yx yq).length := by
        rw [List.size_toArray, mc_length mG.r8]
        unfold lastC
        cases hl : pre.getLast? with
        | none => rfl
        | some z => exact mc_length (mA z hl).2.2
      have hM2 : McAt A2 yx yq := (hO2.toP (p := fun j => j = w4.heap.size + 1) rfl).mcX (m1.below hO1) (m2.mono fun j hj => by omega)
      have hbA2 : Below w.heap.size w A2 := (Below.step0 hbA hO1).trans (hO2.to (by omega) (by omega))
      have hzb : zeros (pre.map ddP) ≤ 5001 := by
        have h1 := zeros_len (pre.map ddP)
        have h2 := dealt_len F x
        rw [← hr, List.length_append] at h2
        omega
      have hz' := zeros_snoc (pre.map ddP) (ddP (yx, yq, ye))
      have hmap : (pre ++ [(yx, yq, ye)]).map ddP = pre.map ddP ++ [ddP (yx, yq, ye)] := by rw [List.map_append]; rfl
      have HZ : Hid (zeros ((pre ++ [(yx, yq, ye)]).map ddP) = zeros (pre.map ddP) + (if ye = 0 then 1 else 0)) := by rw [hmap]; exact hz'
      have HR : Hid (∃ r, (pre ++ [(yx, yq, ye)]).map ddP ++ r = dealt F x) := ⟨r, by rw [hmap, List.append_assoc]; exact hr⟩
      clear hz' hmap hr pA m1 hbA bN lA eA dA zA hsz hO2 hO1 mA
      generalize zeros (pre.map ddP) = nz at *
      have gz : (nz : Int) ≤ 5001 := by omega
      by_cases hy0 : ye = 0
      · subst hy0
        gi_wp2_with (first | (refine in_load_box rfl 31 (.tmp 11) rfl A.heap.size rfl (mcC yx yq) bN2 _ Tryd.underlying31 rfl hiy ?_) | (refine in_store_box rfl 31 (.tmp 8) (.tmp 26) rfl B (mcC yx yq) rfl rfl (lastC pre).toArray lA2 hlen hiy (mc_one _ _) ?_; intro bB; have hOB : Off B A2 (A2.setCells B 0 (mcC yx yq)) := Off.cells _ _ _ _ (Off.refl _ _) (.inl rfl); generalize A2.setCells B 0 (mcC yx yq) = W3 at *; have e3 := hOB.box eA2 (by omega); have d3 := hOB.box dA2 (by omega); have q3 := e3.cell; have f3 := e3.free; have p3 := d3.cell; have g3 := d3.free))
        have o1 : Off (B + 1) W3 (W3.setCell ⟨B + 1, 0, none⟩ (.int .i64 0)) := (Off.refl _ _).set _ _
        have o2 : Off (B + 2) (W3.setCell ⟨B + 1, 0, none⟩ (.int .i64 0)) ((W3.setCell ⟨B + 1, 0, none⟩ (.int .i64 0)).setCell ⟨B + 2, 0, none⟩ (.int .i64 ((nz : Int) + 1))) := (Off.refl _ _).set _ _
        have e4 : Box (W3.setCell ⟨B + 1, 0, none⟩ (.int .i64 0)) (B + 1) #[.int .i64 0] := Box.setL' (L := [.int .i64 (lastE pre)]) (v := .int .i64 0) (j := 0) e3 (by simp)
        have b5 := o2.box (o1.box bB (by omega)) (by omega)
        have e5 := o2.box e4 (by omega)
        have d5 : Box ((W3.setCell ⟨B + 1, 0, none⟩ (.int .i64 0)).setCell ⟨B + 2, 0, none⟩ (.int .i64 ((nz : Int) + 1))) (B + 2) #[.int .i64 ((nz : Int) + 1)] := Box.setL' (L := [.int .i64 (nz : Int)]) (v := .int .i64 ((nz : Int) + 1)) (j := 0) (o1.box d3 (by omega)) (by simp)
        have hO : OffP (fun k => k = B ∨ k = B + 1 ∨ k = B + 2) A2 ((W3.setCell ⟨B + 1, 0, none⟩ (.int .i64 0)).setCell ⟨B + 2, 0, none⟩ (.int .i64 ((nz : Int) + 1))) := ((hOB.toP (p := fun k => k = B ∨ k = B + 1 ∨ k = B + 2) (.inl rfl)).trans (o1.toP (.inr (.inl rfl)))).trans (o2.toP (.inr (.inr rfl)))
        refine ⟨hO, _, ⟨rfl, hbA2.trans (hO.to (fun k _ hk => by omega) (by omega)), by have := hO.size; omega, hO.box zA2 (by omega), by rw [lastC_snoc]; exact b5, by rw [lastE_snoc]; exact e5, ?_, fun y hy => ?_, HR.out⟩, fun k hk => .inl hk⟩
        · rw [HZ.out]
          exact d5
        · rw [List.getLast?_concat] at hy
          cases hy
          exact ⟨hO.mcX hM2 (m2.mono fun j hj => .inl hj), m2, mG.r8⟩
      · have gy : (ye == 0) = false := by simpa using hy0
        gi_wp2_with (first | (refine in_load_box rfl 31 (.tmp 11) rfl A.heap.size rfl (mcC yx yq) bN2 _ Tryd.underlying31 rfl hiy ?_) | (refine in_store_box rfl 31 (.tmp 8) (.tmp 26) rfl B (mcC yx yq) rfl rfl (lastC pre).toArray lA2 hlen hiy (mc_one _ _) ?_; intro bB; have hOB : Off B A2 (A2.setCells B 0 (mcC yx yq)) := Off.cells _ _ _ _ (Off.refl _ _) (.inl rfl); generalize A2.setCells B 0 (mcC yx yq) = W3 at *; have e3 := hOB.box eA2 (by omega); have d3 := hOB.box dA2 (by omega); have q3 := e3.cell; have f3 := e3.free; have p3 := d3.cell; have g3 := d3.free))
        have o1 : Off (B + 1) W3 (W3.setCell ⟨B + 1, 0, none⟩ (.int .i64 ye)) := (Off.refl _ _).set _ _
        have e4 : Box (W3.setCell ⟨B + 1, 0, none⟩ (.int .i64 ye)) (B + 1) #[.int .i64 ye] := Box.setL' (L := [.int .i64 (lastE pre)]) (v := .int .i64 ye) (j := 0) e3 (by simp)
        have b5 := o1.box bB (by omega)
        have d5 := o1.box d3 (by omega)
        have hO : OffP (fun k => k = B ∨ k = B + 1 ∨ k = B + 2) A2 (W3.setCell ⟨B + 1, 0, none⟩ (.int .i64 ye)) := (hOB.toP (p := fun k => k = B ∨ k = B + 1 ∨ k = B + 2) (.inl rfl)).trans (o1.toP (.inr (.inl rfl)))
        refine ⟨hO, _, ⟨rfl, hbA2.trans (hO.to (fun k _ hk => by omega) (by omega)), by have := hO.size; omega, hO.box zA2 (by omega), by rw [lastC_snoc]; exact b5, by rw [lastE_snoc]; exact e4, ?_, fun y hy => ?_, HR.out⟩, fun k hk => .inl hk⟩
        · rw [HZ.out, if_neg hy0]
          exact d5
        · rw [List.getLast?_concat] at hy
          cases hy
          exact ⟨hO.mcX hM2 (m2.mono fun j hj => .inl hj), m2, mG.r8⟩
    case done =>
      intro xs own A A' hFin hI hO hD
      replace hI := hI.off hO (.inl rfl) (by omega) (by omega) (by omega)
      obtain ⟨-, hbA, hszA, zA, lA, eA, dA, mA, -⟩ := hI
      have hFin' : xs.map ddP = dealt F x := hFin
      obtain ⟨⟨yx, yq, ye⟩, hy, h1, h2⟩ : ∃ y : DD, xs.getLast? = some y ∧ y.1 = runM F x ∧ y.2.2 = runE F x := by
        have h := dealt_last F x
        rw [← hFin', List.getLast?_map] at h
        cases hx : xs.getLast? with
        | none => rw [hx] at h; cases h
        | some y =>
          rw [hx] at h
          injection h with h
          exact ⟨y, rfl, congrArg Prod.fst h, congrArg Prod.snd h⟩
      obtain ⟨m1, m2, m3⟩ := mA _ hy
      have hlC : lastC xs = mcC yx yq := by unfold lastC; rw [hy]
      have hlE : lastE xs = ye := by unfold lastE; rw [hy]
      rw [hFin', dealt_zeros] at dA
      rw [hlC] at lA
      rw [hlE] at eA
      dsimp only at h1 h2 m1 m2 m3
      subst h1
      subst h2
      have hiy : (Tryd.prog.info? 31).map (·.size) = some (mcC (runM F x) yq).length := mach_info m3
      have hl8 := mc_length (q := yq) m3
      have lD : Box A'.drew B (mcC (runM F x) yq).toArray := lA.drew
      have zD : Box A'.drew (w.heap.size + 1) z64.toArray := zA.drew
      have p1 := dA.cell
      have p2 := eA.cell
      have HF : Hid (Below w.heap.size w (A'.drew.setCells (w.heap.size + 1) 0 (mcC (runM F x) yq))) := below_cells _ _ _ _ hbA.drew (by omega)
      have bR : Box (A'.drew.setCells (w.heap.size + 1) 0 (mcC (runM F x) yq)) (w.heap.size + 1) (mcC (runM F x) yq).toArray := box_cells zD (by rw [List.size_toArray, z64_len, hl8])
      clear hFin' hFin mA hlC hlE hy
      go_wp2
      refine wp_region_held_drew (S := fun w' => Box w' B (mcC (runM F x) yq).toArray ∧ Box w' (B + 1) #[.int .i64 (runE F x)] ∧ Box w' (B + 2) #[.int .i64 (runN F x : Nat)]) (by kernel_rfl) ⟨lA.drew, eA.drew, dA.drew⟩ (fun hHeld => ?_)
      refine wpAnyH_take (i := 0) (v := .agg (mcC (runM F x) yq).toArray) rfl (by kernel_rfl) (by kernel_rfl) (by kernel_rfl) (fun _ _ _ h => h.1.elim) (yieldsIf_load_mid (by rfl) 31 (.tmp 8) rfl B 0 (by rfl) (mcC (runM F x) yq) _ (fun w' hw' => box_range hw'.1) Tryd.underlying31 rfl hiy) (by assumption) ?_
      (try simp only [Act.put, List.getElem_toArray, List.getElem_cons_zero, List.getElem_cons_succ, List.setIfInBounds_toArray, List.set_cons_zero, List.set_cons_succ])
      refine wpAnyH_take (i := 1) (v := .int .i64 (runN F x : Nat)) rfl (by kernel_rfl) (by kernel_rfl) (by kernel_rfl) (fun _ _ _ h => h.1.elim) (Or.inl ⟨by rfl, fun w' hw' => by have q := hw'.2.2.cell; go_simp⟩) (by assumption) ?_
      (try simp only [Act.put, List.getElem_toArray, List.getElem_cons_zero, List.getElem_cons_succ, List.setIfInBounds_toArray, List.set_cons_zero, List.set_cons_succ])
      refine wpAnyH_take (i := 2) (v := .int .i64 (runE F x)) rfl (by kernel_rfl) (by kernel_rfl) (by kernel_rfl) (fun _ _ _ h => h.1.elim) (Or.inl ⟨by rfl, fun w' hw' => by have q := hw'.2.1.cell; go_simp⟩) (by assumption) ?_
      (try simp only [Act.put, List.getElem_toArray, List.getElem_cons_zero, List.getElem_cons_succ, List.setIfInBounds_toArray, List.set_cons_zero, List.set_cons_succ])
      refine wpAnyH_ready (rs := [3]) (by kernel_rfl) (by simp) (AllReadyH.cons rfl (fun K hK => ?_) AllReadyH.nil)
      rw [if_pos (by rfl)]
      refine wp_store_mid 31 (.tmp 4) (.tmp 32) rfl (w.heap.size + 1) 0 (mcC (runM F x) yq).toArray (by rfl) (by rfl) (box_there zD (by rw [List.size_toArray, List.size_toArray, z64_len, hl8])) (by rw [List.size_toArray]; exact hiy) (all_oneCell_toArray (mc_one _ _)) ?_
      have hOr : Off (w.heap.size + 1) A'.drew (A'.drew.setCells (w.heap.size + 1) 0 (mcC (runM F x) yq)) := Off.cells _ _ _ _ (Off.refl _ _) (.inl rfl)
      refine hK.out _ _ ⟨hOr.box lA.drew (by omega), hOr.box eA.drew (by omega), hOr.box dA.drew (by omega)⟩ (fun hHeld => ?_)
      (try simp only [Act.put, List.getElem_toArray, List.getElem_cons_zero, List.getElem_cons_succ, List.setIfInBounds_toArray, List.set_cons_zero, List.set_cons_succ])
      refine wpAnyH_take (i := 4) (v := .int .i64 (runN F x : Nat)) rfl (by kernel_rfl) (by kernel_rfl) (by kernel_rfl) (fun _ _ _ h => h.1.elim) (Or.inl ⟨by rfl, fun w' hw' => by go_simp⟩) (by assumption) ?_
      (try simp only [Act.put, List.getElem_toArray, List.getElem_cons_zero, List.getElem_cons_succ, List.setIfInBounds_toArray, List.set_cons_zero, List.set_cons_succ])
      refine wpAnyH_take (i := 5) (v := .int .i64 (runE F x)) rfl (by kernel_rfl) (by kernel_rfl) (by kernel_rfl) (fun _ _ _ h => h.1.elim) (Or.inl ⟨by rfl, fun w' hw' => by go_simp⟩) (by assumption) ?_
      (try simp only [Act.put, List.getElem_toArray, List.getElem_cons_zero, List.getElem_cons_succ, List.setIfInBounds_toArray, List.set_cons_zero, List.set_cons_succ])
      refine wpAnyH_done (by kernel_rfl) ?_ _
      have hDr : (A'.drew.setCells (w.heap.size + 1) 0 (mcC (runM F x) yq)).heap[w4.heap.size]? = some (.deferred (some [])) := hOr.obj (by omega) hD
      have hMr : McAt (A'.drew.setCells (w.heap.size + 1) 0 (mcC (runM F x) yq)) (runM F x) yq := (hOr.toP (p := fun k => k = w.heap.size + 1) rfl).mcX (m1.below (below_drew A')) (m2.mono fun j hj => by omega)
      have hOd : Off w4.heap.size (A'.drew.setCells (w.heap.size + 1) 0 (mcC (runM F x) yq)) ((A'.drew.setCells (w.heap.size + 1) 0 (mcC (runM F x) yq)).putObj w4.heap.size (.deferred none)) := (Off.refl _ _).put _
      have hMd := (hOd.toP (p := fun k => k = w4.heap.size) rfl).mcX hMr (mc_not hMr hDr)
      have bRd := hOd.box bR (by omega)
      have hsr : (A'.drew.setCells (w.heap.size + 1) 0 (mcC (runM F x) yq)).heap.size = A'.heap.size := size_cells _ _ _ _
      have hBd : Below w.heap.size w ((A'.drew.setCells (w.heap.size + 1) 0 (mcC (runM F x) yq)).putObj w4.heap.size (.deferred none)) := HF.out.trans (hOd.to (by omega) (by omega))
      have hld := run_loadVar_mid (P := Tryd.prog) _ (w.heap.size + 1) 0 31 (mcC (runM F x) yq) _ (box_range bRd) Tryd.underlying31 rfl hiy
      have HT := (show Hid _ from run_takeDeferred (P := Tryd.prog) hDr)
      clear hK hHeld hsr hOr hDr hMr hOd bR HF
      go_wp2
      refine ⟨trivial, by simp, .inl ⟨w4.heap.size, _, rfl, HT.out, ?_⟩⟩
      exact ⟨.tuple #[.agg (mcC (runM F x) yq).toArray, .int .i64 (runN F x : Nat), .int .i64 (runE F x)], by rw [res_cell2 Tryd.results18]; simp [asAddr, Result.andThen, hld], yq, rfl, hBd, hMd, m2.mono fun j hj => .inr (.inr (.inr (.inr hj)))⟩
  · rw [if_neg hE, if_neg hE, if_neg hE]
    have gE : (chkR f x != 0) = true := by simpa using hE
    have HA : Hid (∀ w', Below w.heap.size w w' → McAt w' x q) := fun w' hb => hA.below hb
    generalize chkR f x = E at *
    generalize mcC x q = L at *
    clear hA
    refine (callsIn_wide (n := 0)).1 (callsIn_of_wp_marks Tryd.func18 rfl trivial (wpIn_wide.2 (Code.wp_mono (Q := fun e a w => quietX e ∧ bodyPostM _ _ _ _ _ e a w) (fun _ _ _ h => h.2) ?_)) rfl)
    simp only [Tryd.ntmps18, List.size_toArray, List.length_cons, List.length_nil, Nat.reduceAdd, Nat.reduceSub, Array.replicate_succ, Array.replicate_zero, List.push_toArray, List.append_toArray, List.nil_append, List.cons_append]
    go_wp2_with (first | (refine wpList_alloc1 rfl 31 rfl _ (alloc_mach _) ?_; have bL : Box ((w.alloc (.cells L.toArray 31)).alloc (.cells z64.toArray 31)) w.heap.size L.toArray := (Box.new _ _ _).alloc _; have bZ : Box ((w.alloc (.cells L.toArray 31)).alloc (.cells z64.toArray 31)) (w.heap.size + 1) z64.toArray := Box.new1 _ _ _ _; have hB : Below w.heap.size w ((w.alloc (.cells L.toArray 31)).alloc (.cells z64.toArray 31)) := two _ _; simp only [World.size_alloc]; generalize (w.alloc (.cells L.toArray 31)).alloc (.cells z64.toArray 31) = w0 at *) | (refine wpList_load_mid rfl 31 (.tmp 2) rfl w.heap.size 0 (by rfl) L _ (box_range bL) Tryd.underlying31 rfl hi ?_) | (go_at_call 33; refine (cC _ (HA.out _ hB)).mono ?_; rintro e w1 ⟨rfl, hbb⟩; replace bZ := bZ.below hbb; replace hB := Below.step0 hB hbb; clear hbb bL) | (refine wpList_store_mid rfl 31 (.tmp 4) (.tmp 18) rfl (w.heap.size + 1) 0 (mcC zeroM zeroA).toArray (by rfl) (by rfl) (box_there bZ rfl) info_mach (all_oneCell_toArray (mc_one _ _)) ?_))
    have b7 := box_cells bZ (cs := mcC zeroM zeroA) rfl
    have hld := run_loadVar_mid (P := Tryd.prog) _ (w.heap.size + 1) 0 31 (mcC zeroM zeroA) _ (box_range b7) Tryd.underlying31 rfl info_mach
    exact ⟨trivial, .tuple #[.agg (mcC zeroM zeroA).toArray, .int .i64 0, .int .i64 E], by rw [res_cell2 Tryd.results18]; simp [asAddr, Result.andThen, hld], zeroA, rfl, below_cells _ _ _ _ hB (by omega), ⟨.inl rfl, .inl rfl, .inl rfl, Nat.le_refl _⟩, ⟨.inl rfl, .inl rfl, .inl rfl⟩⟩
end
end Go.Proofs.YthapfaohnliklaaDoor
