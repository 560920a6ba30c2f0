/- custodiankeep.opOf: the instruction that a machine does next. Plain: chapter 10: many steps of a machine. run.check: for what no step is tried; run.steps: a function over its machine and its fuel. Plain: what is told of a step is never that the fuel is used up; runs that are cut in two. -/
import Derived.Test.YtlfeglljpfihhaaDoorRows
import Derived.Test.YtlfeglljpfihhaaDoorCardBaseX
import Derived.Test.YtlfeglljpfihhaaDoorInstShapeX
import Derived.Test.YtlfeglljpfihhaaDoorStepRowX
import Derived.Test.YtlfeglljpfihhaaDoorMemPureX
import Derived.Test.YtlfeglljpfihhaaDoorStepChkX
import Derived.Test.YtlfeglljpfihhaaDoorStepOffX
import Derived.Test.YtlfeglljpfihhaaDoorStepOwnX
import Derived.Test.YtlfeglljpfihhaaDoorStepFetchX
import Derived.Test.YtlfeglljpfihhaaDoorStepStepX
import Derived.Test.YtlfeglljpfihhaaDoorRangeWX
import Derived.WalkKit
import Derived.ProofKit
import Derived.Deep.MidRow
import Derived.Test.YtlfeglljpfihhaaDoorValArgX
import Derived.Test.YtlfeglljpfihhaaDoorStepSmallX
import Derived.Test.YtlfeglljpfihhaaDoorStepMidX
import Derived.Test.YtlfeglljpfihhaaDoorStepCallX
import Derived.Test.YtlfeglljpfihhaaDoorStepActX
import Derived.Test.YtlfeglljpfihhaaDoorStepActsX
namespace Go.Proofs.YtlfeglljpfihhaaDoor
section
open Go.ChangeShapes Go.WideShapes Go.ChangeAt Go.RowKit
set_option linter.unusedSimpArgs false
set_option linter.unusedVariables false
set_option maxRecDepth 100000

def opI (x : MC) : ID := if 0 ≤ x.k.a ∧ x.k.a < x.m.length ∧ (cellAt x).i = false ∧ (insAt x).e = 0 then insAt x else ⟨-1, 0, 0, 0, 0⟩
theorem opI_fet {x : MC} (hG : Good x) (h : fetI x = 0) : opI x = insAt x := by
  obtain ⟨h1, h2, h3, h4, _, h6, h7⟩ := fet_at hG.m h
  have h0 := (ok5_lit hG.k).2.2.2.2.2.1
  unfold opI
  have he : (insAt x).e = 0 := by
    have e : fetI x = (insAt x).e := by
      unfold fetI
      rw [if_pos h1, if_pos h2, if_pos ⟨h3, h4⟩, if_neg (by rw [h6]; decide)]
    rw [← e]
    exact h
  rw [if_pos ⟨h0, h4, h6, he⟩]
set_option maxHeartbeats 4000000 in
theorem keep_op (x : MC) (q : MA) (w : World) (hA : McAt w x q) (hO : McB x) (hS : Shp w) (hl : x.m.length ≤ maxLen) :
    Calls Tryd.prog 12 #[.agg (mcC x q).toArray] w fun e w' => e = .returned (.agg #[.int .i64 (opI x).o, .int .i64 (opI x).a, .int .i64 (opI x).b, .int .i64 (opI x).c]) ∧ Below w.heap.size w w' := by
  have hl2 : (x.m.length : Int) ≤ 9223372036854775807 := by unfold maxLen at hl; omega
  obtain ⟨-, zM, -, c0, c1, c2, c3, c4, c5, c6, c7⟩ := mc_cells x q hO.r8
  have ha := hO.k.2.2.2.1
  have bM : Box ((w.alloc (.cells (mcC x q).toArray 31)).alloc (.cells #[.int .i64 0, .int .i64 0, .int .i64 0, .int .i64 0] 38)) w.heap.size (mcC x q).toArray := (Box.new _ _ _).alloc _
  generalize hM : (mcC x q).toArray = M at *
  have q1 := (Box.new w M 31).cell
  clear hM
  obtain ⟨E, hE⟩ : ∃ E, opI x = E := ⟨_, rfl⟩
  rw [hE]
  have HE : Hid (opI x = E) := hE
  have HA : Hid (∀ w', Below w.heap.size w w' → McAt w' x q) := fun w' hb => hA.below hb
  have HS : Hid (∀ w', Below w.heap.size w w' → Shp w') := fun w' hb => hS.below hb
  have hB1 := two (w := w) (.cells M 31) (.cells #[.int .i64 0, .int .i64 0, .int .i64 0, .int .i64 0] 38)
  clear hE zM
  by_cases h1 : 0 ≤ x.k.a
  · by_cases h2 : x.k.a < x.m.length
    · obtain ⟨n, hn⟩ := Int.eq_ofNat_of_zero_le h1
      have hv : x.m[n]? = some (cellAt x) := by
        unfold cellAt
        rw [hn, Int.toNat_natCast, List.getD_eq_getElem?_getD, List.getElem?_eq_getElem (by omega)]
        rfl
      obtain ⟨V, off, e1, hBl, d0, d1, d2, d3, d4, d5, d6⟩ := (hA.m.below hB1).at hv
      have hmb : mvOk (cellAt x) := hO.m _ (List.mem_of_getElem? hv)
      rw [e1] at c5
      rw [hn] at c3
      have g0 : (0 : Int) ≤ (n : Int) := by omega
      have g1 : (n : Int) < (x.m.length : Int) := by omega
      by_cases h3 : (cellAt x).i = true
      · have e : E = ⟨-1, 0, 0, 0, 0⟩ := by rw [← HE.out]; unfold opI; rw [if_neg (fun h => by rw [h3] at h; cases h.2.2.1)]
        subst e
        rw [h3] at d0
        clear hA hv hn h1 h2 e1 HE bM
        go_enter Tryd.func12, Tryd.ntmps12
        go_wp2
        refine bodyPost_ret (v := .agg #[.int .i64 (-1), .int .i64 0, .int .i64 0, .int .i64 0]) (by simp [results, Tryd.results12, go_sem]) rfl ⟨rfl, ?_⟩
        exact two _ _
      · have h3' : (cellAt x).i = false := by simpa using h3
        rw [h3'] at d0
        have cR := fun w hS => inst_read (cellAt x).n w hS hmb.1 (insAt x) rfl
        by_cases h4 : (insAt x).e = 0
        · have e : E = insAt x := by rw [← HE.out]; unfold opI; rw [if_pos ⟨h1, h2, h3', h4⟩]
          subst e
          rw [h4] at cR
          clear hA hv hn h1 h2 e1 HE
          generalize insAt x = U at *
          go_enter Tryd.func12, Tryd.ntmps12
          go_wp2_with (go_at_call 32; refine (cR _ (HS.out _ hB1)).mono ?_; rintro e w1 ⟨rfl, hbb⟩; have bR := (Box.new1 w (.cells M 31) #[.int .i64 0, .int .i64 0, .int .i64 0, .int .i64 0] 38).below hbb; have qR := bR.cell; have fR := bR.free; have hB2 := Below.step0 hB1 hbb; have hlt := bR.lt; clear hbb cR)
          have bR5 : Box (((((w1.setCell ⟨w.heap.size + 1, 0, none⟩ (.int .i64 U.o)).setCell ⟨w.heap.size + 1, 1, none⟩ (.int .i64 U.a)).setCell ⟨w.heap.size + 1, 2, none⟩ (.int .i64 U.b)).setCell ⟨w.heap.size + 1, 3, none⟩ (.int .i64 U.c)).alloc (.cells #[.int .i64 U.o, .int .i64 U.a, .int .i64 U.b, .int .i64 U.c] 38)) (w.heap.size + 1) [Value.int .i64 U.o, .int .i64 U.a, .int .i64 U.b, .int .i64 U.c].toArray := ((((Box.setL' (L := [.int .i64 0, .int .i64 0, .int .i64 0, .int .i64 0]) (j := 0) bR (by simp)).setL' (j := 1) (by simp)).setL' (j := 2) (by simp)).setL' (j := 3) (by simp)).alloc _
          have hld := run_loadVar_mid (P := Tryd.prog) _ (w.heap.size + 1) 0 38 _ _ (box_range bR5) Tryd.underlying38 rfl (by kernel_rfl)
          refine bodyPost_ret (v := .agg #[.int .i64 U.o, .int .i64 U.a, .int .i64 U.b, .int .i64 U.c]) (by simp [results, Tryd.results12, asAddr, hld]) rfl ⟨rfl, ?_⟩
          exact ((((hB2.setCell (by simp) _).setCell (by simp) _).setCell (by simp) _).setCell (by simp) _).alloc (by have := hB2.size; simp [World.setCell]; omega) _
        · have e : E = ⟨-1, 0, 0, 0, 0⟩ := by rw [← HE.out]; unfold opI; rw [if_neg (fun h => h4 h.2.2.2)]
          subst e
          have g4 : ((insAt x).e == 0) = false := by simpa using h4
          clear hA hv hn h1 h2 e1 HE
          generalize insAt x = U at *
          go_enter Tryd.func12, Tryd.ntmps12
          go_wp2_with (go_at_call 32; refine (cR _ (HS.out _ hB1)).mono ?_; rintro e w1 ⟨rfl, hbb⟩; have bR := (Box.new1 w (.cells M 31) #[.int .i64 0, .int .i64 0, .int .i64 0, .int .i64 0] 38).below hbb; have qR := bR.cell; have fR := bR.free; have hB2 := Below.step0 hB1 hbb; have hlt := bR.lt; clear hbb cR)
          have bR5 : Box (((((w1.setCell ⟨w.heap.size + 1, 0, none⟩ (.int .i64 (-1))).setCell ⟨w.heap.size + 1, 1, none⟩ (.int .i64 0)).setCell ⟨w.heap.size + 1, 2, none⟩ (.int .i64 0)).setCell ⟨w.heap.size + 1, 3, none⟩ (.int .i64 0)).alloc (.cells #[.int .i64 U.o, .int .i64 U.a, .int .i64 U.b, .int .i64 U.c] 38)) (w.heap.size + 1) [Value.int .i64 (-1), .int .i64 0, .int .i64 0, .int .i64 0].toArray := ((((Box.setL' (L := [.int .i64 0, .int .i64 0, .int .i64 0, .int .i64 0]) (j := 0) bR (by simp)).setL' (j := 1) (by simp)).setL' (j := 2) (by simp)).setL' (j := 3) (by simp)).alloc _
          have hld := run_loadVar_mid (P := Tryd.prog) _ (w.heap.size + 1) 0 38 _ _ (box_range bR5) Tryd.underlying38 rfl (by kernel_rfl)
          refine bodyPost_ret (v := .agg #[.int .i64 (-1), .int .i64 0, .int .i64 0, .int .i64 0]) (by simp [results, Tryd.results12, asAddr, hld]) rfl ⟨rfl, ?_⟩
          exact ((((hB2.setCell (by simp) _).setCell (by simp) _).setCell (by simp) _).setCell (by simp) _).alloc (by have := hB2.size; simp [World.setCell]; omega) _
    · have e : E = ⟨-1, 0, 0, 0, 0⟩ := by rw [← HE.out]; unfold opI; rw [if_neg (fun h => h2 h.2.1)]
      subst e
      clear HE hA
      generalize x.k.a = A at *
      generalize x.m.length = Z at *
      go_enter Tryd.func12, Tryd.ntmps12
      go_wp2
      refine bodyPost_ret (v := .agg #[.int .i64 (-1), .int .i64 0, .int .i64 0, .int .i64 0]) (by simp [results, Tryd.results12, go_sem]) rfl ⟨rfl, ?_⟩
      exact two _ _
  · have e : E = ⟨-1, 0, 0, 0, 0⟩ := by rw [← HE.out]; unfold opI; rw [if_neg (fun h => h1 h.1)]
    subst e
    clear HE hA
    generalize x.k.a = A at *
    go_enter Tryd.func12, Tryd.ntmps12
    go_wp2
    refine bodyPost_ret (v := .agg #[.int .i64 (-1), .int .i64 0, .int .i64 0, .int .i64 0]) (by simp [results, Tryd.results12, go_sem]) rfl ⟨rfl, ?_⟩
    exact two _ _
end
section
section
set_option linter.unusedVariables false

/-- The machine ahead of each step, with what comes of it. -/
def dealt : Nat → MC → List (MC × Int)
  | 0, x => [(x, 15)]
  | f + 1, x => if stpE x = 0 then (x, 0) :: dealt f (stpM x) else [(x, stpE x)]
/-- P23. -/
def runM : Nat → MC → MC
  | 0, x => x
  | f + 1, x => if stpE x = 0 then runM f (stpM x) else x
def runN : Nat → MC → Nat
  | 0, _ => 0
  | f + 1, x => if stpE x = 0 then runN f (stpM x) + 1 else 0
def runE : Nat → MC → Int
  | 0, _ => 15
  | f + 1, x => if stpE x = 0 then runE f (stpM x) else stpE x
/-- The places. -/
def runP : Nat → MC → List Int
  | 0, _ => []
  | f + 1, x => if stpE x = 0 then x.k.a :: runP f (stpM x) else []
theorem runN_le : ∀ (f : Nat) (x : MC), runN f x ≤ f
  | 0, x => Nat.le_refl _
  | f + 1, x => by
    unfold runN
    split
    · have := runN_le f (stpM x); omega
    · omega
theorem runP_len : ∀ (f : Nat) (x : MC), (runP f x).length = runN f x
  | 0, x => rfl
  | f + 1, x => by
    unfold runP runN
    split
    · rw [List.length_cons, runP_len f]
    · rfl
theorem dealt_ne (f : Nat) (x : MC) : dealt f x ≠ [] := by
  cases f with
  | zero => simp [dealt]
  | succ f => unfold dealt; split <;> simp
theorem dealt_last : ∀ (f : Nat) (x : MC), (dealt f x).getLast? = some (runM f x, runE f x)
  | 0, x => rfl
  | f + 1, x => by
    unfold dealt runM runE
    split
    · rw [List.getLast?_cons, dealt_last f]
      rfl
    · rfl
/-- How many of them were done. -/
def zeros (l : List (MC × Int)) : Nat := (l.filter (fun y => y.2 == 0)).length
def spots (l : List (MC × Int)) : List Int := (l.filter (fun y => y.2 == 0)).map (fun y => y.1.k.a)
theorem zeros_snoc (l : List (MC × Int)) (y : MC × Int) : zeros (l ++ [y]) = zeros l + (if y.2 = 0 then 1 else 0) := by
  unfold zeros
  rw [List.filter_append, List.length_append]
  by_cases h : y.2 = 0 <;> simp [h]
theorem spots_snoc (l : List (MC × Int)) (y : MC × Int) : spots (l ++ [y]) = spots l ++ (if y.2 = 0 then [y.1.k.a] else []) := by
  unfold spots
  rw [List.filter_append, List.map_append]
  by_cases h : y.2 = 0 <;> simp [h]
theorem zeros_len (l : List (MC × Int)) : zeros l ≤ l.length := List.length_filter_le _ _
theorem spots_zeros (l : List (MC × Int)) : (spots l).length = zeros l := by unfold spots zeros; rw [List.length_map]
theorem dealt_zeros : ∀ (f : Nat) (x : MC), zeros (dealt f x) = runN f x
  | 0, x => rfl
  | f + 1, x => by
    unfold dealt runN
    split
    · have := dealt_zeros f (stpM x)
      unfold zeros at this ⊢
      simp [this]
    · rename_i h
      unfold zeros
      simp [h]
theorem dealt_spots : ∀ (f : Nat) (x : MC), spots (dealt f x) = runP f x
  | 0, x => rfl
  | f + 1, x => by
    unfold dealt runP
    split
    · have := dealt_spots f (stpM x)
      unfold spots at this ⊢
      simp [this]
    · rename_i h
      unfold spots
      simp [h]
theorem dealt_len : ∀ (f : Nat) (x : MC), (dealt f x).length ≤ f + 1
  | 0, x => Nat.le_refl _
  | f + 1, x => by
    unfold dealt
    split
    · have := dealt_len f (stpM x)
      simp only [List.length_cons]; omega
    · simp
/-- How it goes on behind some steps. -/
theorem dealt_step {f : Nat} {x : MC} (h : stpE x = 0) : dealt (f + 1) x = (x, 0) :: dealt f (stpM x) := by
  show (if stpE x = 0 then (x, 0) :: dealt f (stpM x) else [(x, stpE x)]) = _
  rw [if_pos h]
theorem dealt_stop {f : Nat} {x : MC} (h : ¬ stpE x = 0) : dealt (f + 1) x = [(x, stpE x)] := by
  show (if stpE x = 0 then (x, 0) :: dealt f (stpM x) else [(x, stpE x)]) = _
  rw [if_neg h]
theorem runM_good : ∀ (f : Nat) (x : MC), Good x → Good (runM f x)
  | 0, x, h => h
  | f + 1, x, h => by
    unfold runM
    split
    · rename_i he
      exact runM_good f _ (step_good h.r8 he)
    · exact h
end
section
open Go.ChangeShapes Go.WideShapes Go.ChangeAt Go.RowKit
set_option linter.unusedSimpArgs false
set_option linter.unusedVariables false
set_option maxRecDepth 100000

/-- P23: what is told where no step is tried. -/
def chkR (f : Int) (x : MC) : Int := if f < 0 ∨ 5000 < f then 1 else mcE x
set_option maxHeartbeats 2000000 in
theorem run_check (x : MC) (q : MA) (f : Int) (w : World) (hA : McAt w x q) (hO : McB x) :
    Calls Tryd.prog 42 #[.agg (mcC x q).toArray, .int .i64 f] w fun e w' => e = .returned (.int .i64 (chkR f x)) ∧ Below w.heap.size w w' := by
  have cC := fun w hA => step_check x q w hA hO
  have hi : (Tryd.prog.info? 31).map (·.size) = some (mcC x q).length := by rw [mc_length hO.r8]; exact info_mach
  have hB : ∀ T, Below w.heap.size w (w.alloc T) := fun T => (Below.refl _ _).alloc (Nat.le_refl _) _
  by_cases h1 : f < 0
  · have e : chkR f x = 1 := by unfold chkR; exact if_pos (.inl h1)
    rw [e]
    clear e
    go_enter Tryd.func42, Tryd.ntmps42
    go_wp2
    go_ret
    exact ⟨rfl, hB _⟩
  · by_cases h2 : 5000 < f
    · have e : chkR f x = 1 := by unfold chkR; exact if_pos (.inr h2)
      rw [e]
      clear e
      go_enter Tryd.func42, Tryd.ntmps42
      go_wp2
      go_ret
      exact ⟨rfl, hB _⟩
    · have e : chkR f x = mcE x := by unfold chkR; exact if_neg (by omega)
      rw [e]
      have HA : Hid (∀ w', Below w.heap.size w w' → McAt w' x q) := fun w' hb => hA.below hb
      generalize mcC x q = L at *
      generalize mcE x = E at *
      clear hA e
      go_enter Tryd.func42, Tryd.ntmps42
      go_wp2_with (first | (refine wpList_load_mid rfl 31 (.tmp 2) rfl w.heap.size 0 (by rfl) L _ (box_range (Box.new _ _ _)) Tryd.underlying31 rfl hi ?_) | (go_at_call 29; refine (cC _ (HA.out _ (hB _))).mono ?_; rintro e w1 ⟨rfl, hbb⟩; have hb1 := Below.step0 (hB _) hbb; clear hbb))
      go_ret
      exact ⟨rfl, hb1⟩
theorem run_steps (M : Array Value) (f : Int) (w : World) :
    Calls Tryd.prog 43 #[.agg M, .int .i64 f] w fun e w' => e = .returned (.func (.func 72) #[] #[.pointer (some ⟨w.heap.size, 0, none⟩), .pointer (some ⟨w.heap.size + 1, 0, none⟩)]) ∧ w' = (w.alloc (.cells M 31)).alloc (.cells #[.int .i64 f] 3) := by
  go_enter Tryd.func43, Tryd.ntmps43
  go_wp2
  go_ret
  exact ⟨rfl, rfl⟩
end
section
set_option linter.unusedVariables false

def low (e : Int) : Prop := 0 ≤ e ∧ ¬ e = 15 ∧ e ≤ 16
theorem low_lit {e : Int} (h : 0 ≤ e ∧ ¬ e = 15 ∧ e ≤ 16) : low e := h
theorem low0 : low 0 := low_lit (by decide)
theorem low_chk (p b l a s : Int) : low (chkE p b l a s) := by unfold chkE; split <;> (unfold low; omega)
theorem low_uns (p b l a s : Int) : low (unsE p b l a s) := by
  unfold unsE
  split
  · split <;> (unfold low; omega)
  · unfold low; omega
theorem low_may (p b l a s q : Int) : low (mayE p b l a s q) := by
  unfold mayE
  split
  · split
    · split <;> (unfold low; omega)
    · unfold low; omega
  · unfold low; omega
theorem low_v (v : MV) : low (chk1 v) := by
  unfold chk1
  cases v.i
  · show low (numE _ _ _ _ _ _)
    unfold numE
    split
    · split <;> (unfold low; omega)
    · unfold low; omega
  · show low (keyE _ _ _ _ _ _)
    unfold keyE
    split
    · split <;> (unfold low; omega)
    · unfold low; omega
theorem low_l (vs : List MV) : low (chkL vs) := by
  induction vs with
  | nil => unfold chkL low; omega
  | cons v vs ih =>
    unfold chkL
    split
    · exact ih
    · exact low_v v
theorem low_m (vs : List MV) : low (memE vs) := by
  unfold memE
  split
  · unfold low; omega
  · exact low_l vs
theorem low_f (fs : List FR) : low (frsE fs) := by
  induction fs with
  | nil => unfold frsE low; omega
  | cons f fs ih =>
    unfold frsE
    split
    · exact ih
    · unfold frE
      split
      · exact low_v _
      · exact low_chk _ _ _ _ _
theorem low_s (fs : List FR) : low (stkE fs) := by
  unfold stkE
  split
  · unfold low; omega
  · exact low_f fs
theorem low_t (ns : List Int) : low (toldE ns) := by
  induction ns with
  | nil => unfold toldE low; omega
  | cons n ns ih =>
    unfold toldE
    split
    · exact ih
    · unfold low; omega
theorem low_o (ns : List Int) : low (outE ns) := by
  unfold outE
  split
  · unfold low; omega
  · exact low_t ns
theorem low_mc (x : MC) : low (mcE x) := by
  unfold mcE
  split
  · split
    · split
      · split
        · exact low_o _
        · exact low_s _
      · exact low_m _
    · exact low_chk _ _ _ _ _
  · exact low_l _
theorem low_pl (n : Nat) (k : K5) (off q : Int) : low (plE n k off q) := by
  unfold plE
  split
  · split
    · split
      · split <;> (unfold low; omega)
      · unfold low; omega
    · unfold low; omega
  · exact low_chk _ _ _ _ _
theorem low_load (vs : List MV) (k : K5) (off : Int) : low (loadE vs k off) := by
  unfold loadE
  split
  · exact low_pl _ _ _ _
  · exact low_m _
theorem low_store (vs : List MV) (k : K5) (off : Int) (v : MV) : low (storeE vs k off v) := by
  unfold storeE
  split
  · split
    · split
      · split <;> (unfold low; omega)
      · exact low_pl _ _ _ _
    · exact low_v _
  · exact low_m _
theorem low_move (p b l a s n : Int) : low (moveK p b l a s n).e := by
  unfold moveK
  split
  · split
    · exact low0
    · exact low_lit (by decide)
  · exact low_uns p b l a s
theorem low_narrow (p b l a s n : Int) : low (narrowK p b l a s n).e := by
  unfold narrowK
  split
  · split
    · exact low0
    · exact low_lit (by decide)
  · exact low_uns p b l a s
theorem low_drop (p b l a s n : Int) : low (dropK p b l a s n).e := by
  unfold dropK
  split
  · exact low0
  · exact low_uns p b l a s
theorem low_seal (p b l a s p' b' l' a' s' : Int) : low (sealK p b l a s p' b' l' a' s').e := by
  unfold sealK
  split
  · split
    · split
      · split
        · exact low0
        · exact low_lit (by decide)
      · exact low_may p' b' l' a' s' 32
    · exact low_lit (by decide)
  · exact low_lit (by decide)
theorem low_open (p b l a s p' b' l' a' s' : Int) : low (openK p b l a s p' b' l' a' s').e := by
  unfold openK
  split
  · split
    · exact low_lit (by decide)
    · split
      · split
        · exact low0
        · exact low_lit (by decide)
      · exact low_may p' b' l' a' s' 64
  · exact low_lit (by decide)
theorem low_call (a b : K5) (n : Nat) : low (callE a b n) := by
  unfold callE
  split
  · exact low_lit (by decide)
  · split
    · exact low_lit (by decide)
    · split <;> exact low_lit (by decide)
theorem low_div (n : Int) : low (divE n) := by unfold divE; split <;> exact low_lit (by decide)
theorem low_u : low (thE .u) := low_lit (by decide)
theorem low_h : low (thE .h) := low_lit (by decide)
theorem low_key {x : MC} {a : Int} {K : KK} {n : K5} {t : Th} (h : keyR x a K n = .no t) (hK : low K.e) : low (thE t) := by
  unfold keyR at h
  split at h
  · cases h
  · cases h
    exact hK
theorem low_jump {x : MC} {i : ID} {n : K5} {t : Th} (h : jumpR x i n = .no t) : low (thE t) := by
  unfold jumpR at h
  split at h
  · cases h
  · cases h
    exact low_lit (by decide)
theorem low_calc {x : MC} {i : ID} {n : K5} {b c : MV} {t : Th} (h : calcR x i n b c = .no t) : low (thE t) := by
  unfold calcR at h
  split at h
  · cases h; exact low_u
  · split at h
    · cases h; exact low_u
    · split at h
      · cases h; exact low_div _
      · cases h
theorem low_shift (o : Int) (k : K5) (n : Int) : low (shiftK o k n).e := by
  unfold shiftK
  split
  · exact low_move _ _ _ _ _ _
  · exact low_narrow _ _ _ _ _ _
theorem low_act {x : MC} {i : ID} {n : K5} {t : Th} (h : actR x i n = .no t) : low (thE t) := by
  unfold actR at h
  split at h
  all_goals first
    | exact low_calc h
    | exact low_jump h
    | (cases h; done)
    | (cases h; exact low_h)
    | (repeat' split at h
       all_goals first
         | exact low_key h (low_shift _ _ _)
         | exact low_key h (low_drop _ _ _ _ _ _)
         | exact low_key h (low_seal _ _ _ _ _ _ _ _ _ _)
         | exact low_key h (low_open _ _ _ _ _ _ _ _ _ _)
         | exact low_jump h
         | (cases h; done)
         | (cases h; exact low_u)
         | (cases h; exact low_h)
         | (cases h; exact low_load _ _ _)
         | (cases h; exact low_store _ _ _ _)
         | (cases h; exact low_call _ _ _)
         | (cases h; exact low_lit (by decide)))
theorem low_fet (x : MC) : low (fetI x) := by
  unfold fetI
  split
  · split
    · split
      · split
        · exact low_lit (by decide)
        · unfold insAt readD
          split
          · exact low0
          · exact low_lit (e := 5) (by decide)
      · exact low_lit (by decide)
    · exact low_lit (by decide)
  · exact low_lit (by decide)
theorem stp_low (x : MC) : low (stpE x) := by
  unfold stpE
  split
  · cases hA : stepA x with
    | no t =>
      show low (thE t)
      unfold stepA at hA
      split at hA
      · exact low_act hA
      · cases hA
        exact low_fet x
    | ok x' n' => exact low0
  · exact low_mc x
/-- A run ends with the fuel used up just if all steps were done. -/
theorem run_ends : ∀ (f : Nat) (x : MC), (runE f x = 15 ∧ runN f x = f) ∨ (¬ runE f x = 15 ∧ ¬ runE f x = 0 ∧ stpE (runM f x) = runE f x)
  | 0, x => .inl ⟨rfl, rfl⟩
  | f + 1, x => by
    unfold runE runN runM
    split
    · rcases run_ends f (stpM x) with ⟨h1, h2⟩ | h
      · exact .inl ⟨h1, by rw [h2]⟩
      · exact .inr h
    · rename_i h
      have h3 := stp_low x
      unfold low at h3
      exact .inr ⟨by omega, h, rfl⟩
theorem run_more : ∀ (f g : Nat) (x : MC), ¬ runE f x = 15 → runM (f + g) x = runM f x ∧ runN (f + g) x = runN f x ∧ runE (f + g) x = runE f x
  | 0, g, x, h => absurd rfl h
  | f + 1, g, x, h => by
    rw [show f + 1 + g = (f + g) + 1 by omega]
    unfold runE at h
    unfold runM runN runE
    split
    · rename_i he
      rw [if_pos he] at h
      obtain ⟨h1, h2, h3⟩ := run_more f g (stpM x) h
      exact ⟨h1, by rw [h2], h3⟩
    · exact ⟨rfl, rfl, rfl⟩
theorem run_all : ∀ (f g : Nat) (x : MC), runE f x = 15 → runM (f + g) x = runM g (runM f x) ∧ runN (f + g) x = f + runN g (runM f x) ∧ runE (f + g) x = runE g (runM f x)
  | 0, g, x, h => by
    rw [Nat.zero_add, Nat.zero_add]
    exact ⟨rfl, rfl, rfl⟩
  | f + 1, g, x, h => by
    rw [show f + 1 + g = (f + g) + 1 by omega]
    unfold runE at h
    split at h
    · rename_i he
      obtain ⟨h1, h2, h3⟩ := run_all f g (stpM x) h
      have e1 : runM (f + g + 1) x = runM (f + g) (stpM x) := by show (if stpE x = 0 then runM (f + g) (stpM x) else x) = _; rw [if_pos he]
      have e2 : runN (f + g + 1) x = runN (f + g) (stpM x) + 1 := by show (if stpE x = 0 then runN (f + g) (stpM x) + 1 else 0) = _; rw [if_pos he]
      have e3 : runE (f + g + 1) x = runE (f + g) (stpM x) := by show (if stpE x = 0 then runE (f + g) (stpM x) else stpE x) = _; rw [if_pos he]
      have e4 : runM (f + 1) x = runM f (stpM x) := by show (if stpE x = 0 then runM f (stpM x) else x) = _; rw [if_pos he]
      rw [e1, e2, e3, e4, h1, h2, h3]
      exact ⟨rfl, by omega, rfl⟩
    · have h3 := stp_low x
      unfold low at h3
      omega
theorem run_ne0 (f : Nat) (x : MC) : ¬ runE f x = 0 := by
  rcases run_ends f x with ⟨h, _⟩ | ⟨_, h, _⟩
  · rw [h]; decide
  · exact h
/-- What has halted stays so. -/
theorem run_stays {f : Nat} {x : MC} (h : ¬ runE f x = 15) (g : Nat) : runM (g + 1) (runM f x) = runM f x ∧ runN (g + 1) (runM f x) = 0 ∧ runE (g + 1) (runM f x) = runE f x := by
  rcases run_ends f x with ⟨h1, _⟩ | ⟨_, h2, h3⟩
  · exact absurd h1 h
  · have hne : ¬ stpE (runM f x) = 0 := by rw [h3]; exact h2
    refine ⟨?_, ?_, ?_⟩
    · show (if stpE (runM f x) = 0 then _ else _) = _
      rw [if_neg hne]
    · show (if stpE (runM f x) = 0 then _ else _) = _
      rw [if_neg hne]
    · show (if stpE (runM f x) = 0 then _ else _) = _
      rw [if_neg hne, h3]
/-- What Run answers: the machine, how many steps, what is told. -/
def runX (f : Int) (x : MC) : MC := if chkR f x = 0 then runM f.toNat x else zeroM
def runK (f : Int) (x : MC) : Int := if chkR f x = 0 then (runN f.toNat x : Nat) else 0
def runF (f : Int) (x : MC) : Int := if chkR f x = 0 then runE f.toNat x else chkR f x
theorem chkR_in {f : Nat} {x : MC} (hf : f ≤ 5000) : chkR (f : Int) x = mcE x := by unfold chkR; exact if_neg (by omega)
theorem runX_good {f : Nat} {x : MC} (hf : f ≤ 5000) (h : mcE x = 0) : runX (f : Int) x = runM f x ∧ runK (f : Int) x = (runN f x : Nat) ∧ runF (f : Int) x = runE f x := by
  unfold runX runK runF
  rw [chkR_in hf, if_pos h, if_pos h, if_pos h, Int.toNat_natCast]
  exact ⟨rfl, rfl, rfl⟩
theorem runX_bad {f : Nat} {x : MC} (hf : f ≤ 5000) (h : ¬ mcE x = 0) : runX (f : Int) x = zeroM ∧ runK (f : Int) x = 0 ∧ runF (f : Int) x = mcE x := by
  unfold runX runK runF
  rw [chkR_in hf, if_neg h, if_neg h, if_neg h]
  exact ⟨rfl, rfl, rfl⟩
theorem mc_ne15 (x : MC) : ¬ mcE x = 15 := (low_mc x).2.1
/-- A list that is no longer than a machine's may be. -/
structure Sml (x : MC) : Prop where
  r8 : x.r.length = 8
  m : x.m.length ≤ maxLen
  s : x.s.length ≤ maxLen
  o : x.o.length ≤ maxLen
theorem Good.sml {x : MC} (h : Good x) : Sml x := by
  have h1 := (mem_small h.m).1
  have h2 := (stk_iff.1 h.s).1
  have h3 := (out_iff.1 h.o).1
  exact ⟨h.r8, by unfold maxLen; omega, by unfold maxLen; omega, by unfold maxLen; omega⟩
theorem sml_zero : Sml zeroM := ⟨rfl, Nat.zero_le _, Nat.zero_le _, Nat.zero_le _⟩
theorem runX_sml {f : Nat} {x : MC} (hf : f ≤ 5000) (h8 : x.r.length = 8) : Sml (runX (f : Int) x) := by
  by_cases h : mcE x = 0
  · rw [(runX_good hf h).1]
    exact (runM_good f x (good_of h8 h)).sml
  · rw [(runX_bad hf h).1]
    exact sml_zero
theorem runX_b {f : Nat} {x : MC} (hf : f ≤ 5000) : (0 ≤ runK (f : Int) x ∧ runK (f : Int) x ≤ f) ∧ ¬ runF (f : Int) x = 0 := by
  by_cases h : mcE x = 0
  · obtain ⟨_, h2, h3⟩ := runX_good hf h
    rw [h2, h3]
    have := runN_le f x
    exact ⟨by omega, run_ne0 f x⟩
  · obtain ⟨_, h2, h3⟩ := runX_bad hf h
    rw [h2, h3]
    exact ⟨by omega, h⟩
theorem runX_more {f g : Nat} {x : MC} (hf : f ≤ 5000) (hg : f + g ≤ 5000) (h : ¬ runF (f : Int) x = 15) : runX ((f : Int) + g) x = runX f x ∧ runK ((f : Int) + g) x = runK f x ∧ runF ((f : Int) + g) x = runF f x := by
  rw [show ((f : Int) + g) = ((f + g : Nat) : Int) by omega]
  by_cases hE : mcE x = 0
  · obtain ⟨h1, h2, h3⟩ := runX_good hf hE
    obtain ⟨k1, k2, k3⟩ := runX_good hg hE
    rw [h3] at h
    obtain ⟨e1, e2, e3⟩ := run_more f g x h
    rw [h1, h2, h3, k1, k2, k3, e1, e2, e3]
    exact ⟨rfl, rfl, rfl⟩
  · obtain ⟨h1, h2, h3⟩ := runX_bad hf hE
    obtain ⟨k1, k2, k3⟩ := runX_bad hg hE
    rw [h1, h2, h3, k1, k2, k3]
    exact ⟨rfl, rfl, rfl⟩
theorem runX_all {f g : Nat} {x : MC} (hf : f ≤ 5000) (hg : f + g ≤ 5000) (h8 : x.r.length = 8) (h : runF (f : Int) x = 15) : Good (runX f x) ∧ runK f x = f ∧ runX ((f : Int) + g) x = runX g (runX f x) ∧ runK ((f : Int) + g) x = f + runK g (runX f x) ∧ runF ((f : Int) + g) x = runF g (runX f x) := by
  rw [show ((f : Int) + g) = ((f + g : Nat) : Int) by omega]
  by_cases hE : mcE x = 0
  · obtain ⟨h1, h2, h3⟩ := runX_good hf hE
    obtain ⟨k1, k2, k3⟩ := runX_good hg hE
    rw [h3] at h
    have hG := runM_good f x (good_of h8 hE)
    obtain ⟨j1, j2, j3⟩ := runX_good (f := g) (x := runM f x) (by omega) hG.e
    obtain ⟨e1, e2, e3⟩ := run_all f g x h
    rw [h1, h2, k1, k2, k3, j1, j2, j3, e1, e2, e3]
    refine ⟨hG, ?_, rfl, by omega, rfl⟩
    rcases run_ends f x with ⟨_, hn⟩ | ⟨hn, _⟩
    · rw [hn]
    · exact absurd h hn
  · obtain ⟨h1, h2, h3⟩ := runX_bad hf hE
    rw [h3] at h
    exact absurd h (mc_ne15 x)
/-- What has halted stays so. -/
theorem runX_stays {f g : Nat} {x : MC} (hf : f ≤ 5000) (hg : g + 1 ≤ 5000) (h8 : x.r.length = 8) (hE : mcE x = 0) (h : ¬ runF (f : Int) x = 15) : Good (runX f x) ∧ runX ((g + 1 : Nat) : Int) (runX f x) = runX f x ∧ runK ((g + 1 : Nat) : Int) (runX f x) = 0 ∧ runF ((g + 1 : Nat) : Int) (runX f x) = runF f x := by
  obtain ⟨h1, h2, h3⟩ := runX_good hf hE
  rw [h3] at h
  have hG := runM_good f x (good_of h8 hE)
  obtain ⟨j1, j2, j3⟩ := runX_good (f := g + 1) (x := runM f x) hg hG.e
  obtain ⟨e1, e2, e3⟩ := run_stays h g
  rw [h1, h3, j1, j2, j3, e1, e2, e3]
  exact ⟨hG, rfl, rfl, rfl⟩
theorem runX_none {x : MC} (hE : mcE x = 0) : runX 0 x = x ∧ runK 0 x = 0 ∧ runF 0 x = 15 := runX_good (f := 0) (by omega) hE
theorem eff_out {x x' : MC} {i : ID} {n n' : K5} (h : Eff x i n x' n') : ∃ l, x'.o = x.o ++ l ∧ l.length ≤ 1 := by
  cases h with
  | tell ho hi hl => exact ⟨_, rfl, Nat.le_refl _⟩
  | _ => exact ⟨[], by simp [putR, callM, backM], by simp⟩
theorem step_out {x : MC} (h8 : x.r.length = 8) (h : stpE x = 0) : ∃ l, (stpM x).o = x.o ++ l ∧ l.length ≤ 1 := by
  obtain ⟨hG, hf, hi, x', n', hE, e, _⟩ := step_eff h8 h
  rw [e]
  obtain ⟨l, h1, h2⟩ := eff_out hE
  exact ⟨l, h1, h2⟩
/-- What was told stays told; no more is told than steps were done. -/
theorem run_out : ∀ (f : Nat) (x : MC), x.r.length = 8 → ∃ l, (runM f x).o = x.o ++ l ∧ l.length ≤ runN f x
  | 0, x, _ => ⟨[], by simp [runM], Nat.zero_le _⟩
  | f + 1, x, h8 => by
    unfold runM runN
    split
    · rename_i he
      obtain ⟨l1, e1, k1⟩ := step_out h8 he
      obtain ⟨l2, e2, k2⟩ := run_out f (stpM x) (step_good h8 he).r8
      refine ⟨l1 ++ l2, by rw [e2, e1, List.append_assoc], ?_⟩
      rw [List.length_append]
      omega
    · exact ⟨[], by simp, Nat.zero_le _⟩
end
end
end Go.Proofs.YtlfeglljpfihhaaDoor
