/- One step of a machine that may be: what it comes to, or what is told. -/
import Derived.Test.YthapfaohnliklaaDoorRows
import Derived.Test.YthapfaohnliklaaDoorBits
import Derived.Test.YthapfaohnliklaaDoorKeyPure
import Derived.Test.YthapfaohnliklaaDoorCellPure
import Derived.Test.YthapfaohnliklaaDoorValsArg
import Derived.Test.YthapfaohnliklaaDoorMemPure
import Derived.Test.YthapfaohnliklaaDoorInstShape
import Derived.Test.YthapfaohnliklaaDoorInstDev
import Derived.Test.YthapfaohnliklaaDoorMachArg
import Derived.Test.YthapfaohnliklaaDoorStepChk
import Derived.Test.YthapfaohnliklaaDoorStepOff
import Derived.Test.YthapfaohnliklaaDoorStepSmall
import Derived.Test.YthapfaohnliklaaDoorStepMid
import Derived.Test.YthapfaohnliklaaDoorStepTell
import Derived.Test.YthapfaohnliklaaDoorStepFetch
import Derived.Test.YthapfaohnliklaaDoorStepAct
import Derived.Test.YthapfaohnliklaaDoorStepActs
import Derived.Test.YthapfaohnliklaaDoorStepCatch
import Derived.WalkKit
import Derived.ProofKit
import Derived.Defers
import Derived.Recover
import Derived.WalkLawsBesides
namespace Go.Proofs.YthapfaohnliklaaDoor
open Go.ChangeShapes Go.WideShapes Go.ChangeAt Go.RowKit
set_option linter.unusedSimpArgs false
set_option linter.unusedVariables false
set_option maxRecDepth 100000

def nextK (x : MC) : K5 := { x.k with a := x.k.a + 1 }
/-- P19: one step of a machine that may be. -/
def stepA (x : MC) : AR := if fetI x = 0 then actR x (insAt x) (nextK x) else .no (.e (fetI x))
theorem readD_ok {n : Int} (h : (readD n).e = 0) : okI (readD n) := by
  unfold okI
  unfold readD at h ⊢
  by_cases hc : chkD (n % 32) (n / 32 % 8) (n / 256 % 8) (n / 2048 - 2048) = 0
  · rw [if_pos hc]
    exact hc
  · rw [if_neg hc] at h
    cases h
theorem fet_ok {x : MC} (h : fetI x = 0) : okI (insAt x) := by
  apply readD_ok
  unfold fetI at h
  split at h
  · split at h
    · split at h
      · split at h
        · cases h
        · exact h
      · cases h
    · cases h
  · cases h
section
variable {w : World} {S bb : Nat} {x : MC} {q : MA} {i : ID} {n : K5}
theorem st_hiset (h8 : x.r.length = 8) (j : Nat) (u : Value) : (stC x q i n).set (64 + j) u = mcC x q ++ (stT i n).set j u := by
  unfold stC
  rw [List.set_append_right _ _ (by rw [mc_len h8]; omega), mc_len h8, Nat.add_sub_cancel_left]
/-- The instruction is another one. -/
theorem St.setI (h : St w S bb x q i n) (m : ID) :
    St ((((w.setCell ⟨S, 64, none⟩ (.int .i64 m.o)).setCell ⟨S, 65, none⟩ (.int .i64 m.a)).setCell ⟨S, 66, none⟩ (.int .i64 m.b)).setCell ⟨S, 67, none⟩ (.int .i64 m.c)) S bb x q m n ∧
    Off S w ((((w.setCell ⟨S, 64, none⟩ (.int .i64 m.o)).setCell ⟨S, 65, none⟩ (.int .i64 m.a)).setCell ⟨S, 66, none⟩ (.int .i64 m.b)).setCell ⟨S, 67, none⟩ (.int .i64 m.c)) := by
  have hO : Off S w ((((w.setCell ⟨S, 64, none⟩ (.int .i64 m.o)).setCell ⟨S, 65, none⟩ (.int .i64 m.a)).setCell ⟨S, 66, none⟩ (.int .i64 m.b)).setCell ⟨S, 67, none⟩ (.int .i64 m.c)) := ((((Off.refl _ _).set _ _).set _ _).set _ _).set _ _
  have e : (((((stC x q i n).set 64 (.int .i64 m.o)).set 65 (.int .i64 m.a)).set 66 (.int .i64 m.b)).set 67 (.int .i64 m.c)) = stC x q m n := by
    unfold stC
    have hl := mc_len (q := q) h.r8
    rw [List.set_append_right _ _ (by omega), List.set_append_right _ _ (by omega), List.set_append_right _ _ (by omega), List.set_append_right _ _ (by omega), hl]
    rfl
  have hl := st_len (q := q) (i := i) (n := n) h.r8
  have b := (((h.box.setL (v := .int .i64 m.o) (j := 64) (by omega)).setL (v := .int .i64 m.a) (j := 65) (by simp only [List.length_set]; omega)).setL (v := .int .i64 m.b) (j := 66) (by simp only [List.length_set]; omega)).setL (v := .int .i64 m.c) (j := 67) (by simp only [List.length_set]; omega)
  rw [e] at b
  exact ⟨⟨b, hO.mc h.at_ h.far, h.far, h.r8, Nat.lt_of_lt_of_le h.lb hO.size⟩, hO⟩
/-- The key by which it runs is another one. -/
theorem St.setK (h : St w S bb x q i n) (m : K5) :
    St (((((w.setCell ⟨S, 56, none⟩ (.int .i64 m.p)).setCell ⟨S, 57, none⟩ (.int .i64 m.b)).setCell ⟨S, 58, none⟩ (.int .i64 m.l)).setCell ⟨S, 59, none⟩ (.int .i64 m.a)).setCell ⟨S, 60, none⟩ (.int .i64 m.s)) S bb { x with k := m } q i n ∧
    Off S w (((((w.setCell ⟨S, 56, none⟩ (.int .i64 m.p)).setCell ⟨S, 57, none⟩ (.int .i64 m.b)).setCell ⟨S, 58, none⟩ (.int .i64 m.l)).setCell ⟨S, 59, none⟩ (.int .i64 m.a)).setCell ⟨S, 60, none⟩ (.int .i64 m.s)) := by
  have hO : Off S w (((((w.setCell ⟨S, 56, none⟩ (.int .i64 m.p)).setCell ⟨S, 57, none⟩ (.int .i64 m.b)).setCell ⟨S, 58, none⟩ (.int .i64 m.l)).setCell ⟨S, 59, none⟩ (.int .i64 m.a)).setCell ⟨S, 60, none⟩ (.int .i64 m.s)) := (((((Off.refl _ _).set _ _).set _ _).set _ _).set _ _).set _ _
  have e : ((((((stC x q i n).set 56 (.int .i64 m.p)).set 57 (.int .i64 m.b)).set 58 (.int .i64 m.l)).set 59 (.int .i64 m.a)).set 60 (.int .i64 m.s)) = stC { x with k := m } q i n := by
    have hl : (x.r.flatMap mvC).length = 56 := by rw [mv_len, h.r8]
    unfold stC mcC
    simp only [List.append_assoc]
    rw [List.set_append_right _ _ (by omega), List.set_append_right _ _ (by omega), List.set_append_right _ _ (by omega), List.set_append_right _ _ (by omega), List.set_append_right _ _ (by omega), hl]
    rfl
  have hl := st_len (q := q) (i := i) (n := n) h.r8
  have b := ((((h.box.setL (v := .int .i64 m.p) (j := 56) (by omega)).setL (v := .int .i64 m.b) (j := 57) (by simp only [List.length_set]; omega)).setL (v := .int .i64 m.l) (j := 58) (by simp only [List.length_set]; omega)).setL (v := .int .i64 m.a) (j := 59) (by simp only [List.length_set]; omega)).setL (v := .int .i64 m.s) (j := 60) (by simp only [List.length_set]; omega)
  rw [e] at b
  exact ⟨⟨b, ⟨(hO.mc h.at_ h.far).m, (hO.mc h.at_ h.far).s, (hO.mc h.at_ h.far).o, h.at_.c⟩, h.far, h.r8, Nat.lt_of_lt_of_le h.lb hO.size⟩, hO⟩
theorem same_cells {w : World} {p : Addr} {u : Value} (h : w.cell? p = some u) (a : Addr) : (w.setCell p u).cell? a = w.cell? a := by
  by_cases e : p = a
  · subst e
    rw [World.cell?_setCell_same _ _ _ h, h]
  · exact World.cell?_setCell_other _ _ _ _ e
theorem RowAt.same {w : World} {p : Addr} {u : Value} {a : Option Addr} {cs : List Value} (h : w.cell? p = some u) (hr : RowAt w a cs) : RowAt (w.setCell p u) a cs := by
  rcases hr with hr | ⟨B, off, e, hB, hc⟩
  · exact .inl hr
  · exact .inr ⟨B, off, e, by simpa [World.setCell] using hB, fun j v hj => by rw [same_cells h]; exact hc j v hj⟩
theorem St.same {w : World} {S bb : Nat} {x : MC} {q : MA} {i : ID} {n : K5} {p : Addr} {u : Value} (h : w.cell? p = some u) (hs : St w S bb x q i n) : St (w.setCell p u) S bb x q i n :=
  ⟨⟨by simpa [World.setCell] using hs.box.lt, fun o => by rw [same_cells h]; exact hs.box.cell o, fun o => by rw [World.frozen?_setCell]; exact hs.box.free o⟩,
    ⟨RowAt.vals (RowAt.same h hs.at_.m.row), RowAt.same h hs.at_.s, RowAt.same h hs.at_.o, hs.at_.c⟩, hs.far, hs.r8, by simpa [World.setCell] using hs.lb⟩
/-- What is known behind one step. -/
def Steps (w : World) (S bb : Nat) (a : AR) (r : Ending) (w' : World) : Prop :=
  match a with
  | .no t => r = .returned (.int .i64 (thE t)) ∧ Off S w w'
  | .ok x' n' => r = .returned (.int .i64 0) ∧ Off S w w' ∧ ∃ q' i' n'', St w' S bb { x' with k := n' } q' i' n''
/-- The door, where something was thrown. -/
theorem door_no {w W : World} {S bb : Nat} {t : Th} (hO : Off S (w.alloc (.cells #[.int .i64 0] 32)) W) (hS : S < w.heap.size) (tm : Array Value) (ht : tm.getD 2 undef = .pointer (some ⟨w.heap.size, 0, none⟩)) {a : AR} (ha : a = .no t) :
    Leaves Tryd.prog Tryd.f20 tm (fun r w' => Steps w S bb a r w') [{ target := .fn (.func 39) #[.pointer (some ⟨w.heap.size, 0, none⟩)], args := #[] }] (.panicking [{ v := thV t, recovered := false }]) W := by
  have b := hO.box (Box.new w #[.int .i64 0] 32) (by omega)
  have hc : W.cell? ⟨w.heap.size, 0, none⟩ = some (.int .i64 0) := b.cell 0
  have hz := b.free 0
  have hlt := b.lt
  have ht' : tm[2]?.getD undef = .pointer (some ⟨w.heap.size, 0, none⟩) := by simpa using ht
  have hO' : Off S w W := ((Off.refl S w).alloc _).trans hO
  have key : ∀ w'' v, w''.cell? ⟨w.heap.size, 0, none⟩ = some (.int .i64 v) → (results Tryd.f20 tm).run Tryd.prog w'' = .ok (.int .i64 v) w'' := fun w'' v h => by
    simp [results, Tryd.results20, ht', go_sem, h]
  refine leaves_cons (f := 39) (args := #[.pointer (some ⟨w.heap.size, 0, none⟩)]) (by simp) (by simp [go_sem]) ?_
  subst ha
  have same : ∀ v : Value, (W.setCell ⟨w.heap.size, 0, none⟩ v).cell? ⟨w.heap.size, 0, none⟩ = some v := fun v => World.cell?_setCell_same _ _ _ hc
  have lts : ∀ v : Value, w.heap.size < (W.setCell ⟨w.heap.size, 0, none⟩ v).heap.size := fun v => by simpa [World.setCell] using hlt
  cases t with
  | e m =>
    refine (catch_err w.heap.size 0 m [] W hc hz hlt).mono ?_
    rintro e u' w'' ⟨rfl, rfl, rfl⟩
    exact ⟨_, key _ m (same _), rfl, hO'.setNew (p := ⟨w.heap.size, 0, none⟩) (Nat.le_refl _) _⟩
  | u =>
    refine (catch_u w.heap.size 0 [] W hc hz hlt).mono ?_
    rintro e u' w'' ⟨rfl, rfl, rfl⟩
    exact ⟨_, key _ 10 (by rw [cell_old _ _ _ _ (lts _)]; exact same _), rfl, (hO'.setNew (p := ⟨w.heap.size, 0, none⟩) (Nat.le_refl _) _).alloc _⟩
  | h =>
    refine (catch_h w.heap.size 0 [] W hc hz hlt).mono ?_
    rintro e u' w'' ⟨rfl, rfl, rfl⟩
    exact ⟨_, key _ 16 (by rw [cell_old _ _ _ _ (lts _)]; exact same _), rfl, (hO'.setNew (p := ⟨w.heap.size, 0, none⟩) (Nat.le_refl _) _).alloc _⟩
/-- The door, where it came to its end. -/
theorem door_yes {w W : World} {S bb : Nat} {x' : MC} {n' : K5} (hO : Off S w W) (hc : W.cell? ⟨w.heap.size, 0, none⟩ = some (.int .i64 0)) (hst : ∃ q' i' n'', St W S bb { x' with k := n' } q' i' n'') (tm : Array Value) (ht : tm.getD 2 undef = .pointer (some ⟨w.heap.size, 0, none⟩)) {a : AR} (ha : a = .ok x' n') :
    Leaves Tryd.prog Tryd.f20 tm (fun r w' => Steps w S bb a r w') [{ target := .fn (.func 39) #[.pointer (some ⟨w.heap.size, 0, none⟩)], args := #[] }] .returning W := by
  have ht' : tm[2]?.getD undef = .pointer (some ⟨w.heap.size, 0, none⟩) := by simpa using ht
  have key : (results Tryd.f20 tm).run Tryd.prog W = .ok (.int .i64 0) W := by
    simp [results, Tryd.results20, ht', go_sem, hc]
  refine leaves_cons (f := 39) (args := #[.pointer (some ⟨w.heap.size, 0, none⟩)]) (by simp) (by simp [go_sem]) ?_
  subst ha
  refine (catch_idle ⟨w.heap.size, 0, none⟩ W).mono ?_
  rintro e u' w'' ⟨rfl, rfl, rfl⟩
  exact ⟨_, key, rfl, hO, hst⟩
theorem mcE_parts {x : MC} (h : mcE x = 0) : chkL x.r = 0 ∧ chk5 x.k = 0 ∧ memE x.m = 0 ∧ stkE x.s = 0 ∧ outE x.o = 0 := by
  unfold mcE at h
  by_cases h1 : chkL x.r = 0
  · rw [if_pos h1] at h
    by_cases h2 : chk5 x.k = 0
    · rw [if_pos h2] at h
      by_cases h3 : memE x.m = 0
      · rw [if_pos h3] at h
        by_cases h4 : stkE x.s = 0
        · rw [if_pos h4] at h
          exact ⟨h1, h2, h3, h4, h⟩
        · rw [if_neg h4] at h
          exact absurd h h4
      · rw [if_neg h3] at h
        exact absurd h h3
    · rw [if_neg h2] at h
      exact absurd h h2
  · rw [if_neg h1] at h
    exact absurd h h1
theorem stk_small {s : List FR} (h : stkE s = 0) : s.length ≤ 16 := by
  unfold stkE at h
  split at h
  · cases h
  · omega
theorem out_small {s : List Int} (h : outE s = 0) : s.length ≤ 100 := by
  unfold outE at h
  split at h
  · cases h
  · omega
theorem ok_of_chk {k : K5} (h : chk5 k = 0) : ok5 k := by
  rcases chk5_cases k with ⟨ho, _⟩ | ⟨_, h1⟩
  · exact ho
  · rw [h] at h1; cases h1
set_option maxHeartbeats 4000000 in
theorem step_step (h : St w S bb x q i n) (hS : Shp w) (hE : mcE x = 0) (hr : mvsOk x.r) (hm : mvsOk x.m) (fs : q.cs = x.s.length) (fo : q.co = x.o.length) :
    Calls Tryd.prog 20 #[.pointer (some ⟨S, 0, none⟩)] w fun r w' => Steps w S bb (stepA x) r w' := by
  obtain ⟨_, e2, e3, e4, e5⟩ := mcE_parts hE
  have ho := ok_of_chk e2
  have hok := ok5_lit ho
  have hml := (mem_small e3).1
  have hsl := stk_small e4
  have hlt := h.box.lt
  have hb1 : Below w.heap.size w (w.alloc (.cells #[.int .i64 0] 32)) := (Below.refl _ _).alloc (Nat.le_refl _) _
  have h1 := h.below hb1
  have hS1 := hS.below hb1
  have hmf : ∀ (fn : Fn) (first cap : Array Value) (w : World), (Instr.makeFunc fn first cap).run Tryd.prog w = .ok (.func fn first cap) w := fun _ _ _ _ => rfl
  have n1 : ¬ S = w.heap.size := by omega
  have n2 : ¬ w.heap.size = S := by omega
  by_cases hf : fetI x = 0
  · have hA : stepA x = actR x (insAt x) (nextK x) := by unfold stepA; rw [if_pos hf]
    have cF := step_fetch_yes h1 hS1 ho hm hml hf
    have hoi := fet_ok hf
    obtain ⟨A, hAe⟩ : ∃ A, actR x (insAt x) (nextK x) = A := ⟨_, rfl⟩
    have HA : Hid (stepA x = A) := hA.trans hAe
    have cA := fun w q (h : St w S bb x q (insAt x) (nextK x)) fs fo => step_act h hoi hr hm ⟨hok.2.2.2.2.2.1, hok.2.2.2.2.2.2.1⟩ hsl fs fo
    rw [hAe] at cA
    have hka : IntKind.i64.wrap (x.k.a + 1) = x.k.a + 1 := by rw [IntKind.wrap_i64]; omega
    have HH : Hid (St (w.alloc (.cells #[.int .i64 0] 32)) S bb x q i n) := h1
    have HL : Hid (S < w.heap.size) := hlt
    generalize hI : insAt x = I at *
    clear h h1 hS hS1 hb1 e2 e3 e4 e5 hE hok ho hml hsl hf hA hAe hoi hI hr hm
    cases A with
    | no t =>
      go_enter_defers Tryd.func20, Tryd.ntmps20
      go_wp2_with (first | (go_at_call 40; refine cF.mono ?_; rintro e1 w1 ⟨rfl, hbb⟩; have hst := HH.out.below hbb; have hO1 := (Off.refl S (w.alloc (.cells #[.int .i64 0] 32))).below hbb; obtain ⟨k0, k1, k2, k3, k4, -, -, -, i0, i1, i2, i3, m0, m1, m2, m3, m4⟩ := hst.cells; have fz := hst.box.free; have s1 := hst.setI I; have s2 := s1.1.setN x.k; have s3 := s2.1.next (x.k.a + 1); have H3 : Hid (St _ S bb x q I (nextK x) ∧ Off S (w.alloc (.cells #[.int .i64 0] 32)) _) := ⟨s3.1, ((hO1.trans s1.2).trans s2.2).trans s3.2⟩; clear hst hO1 hbb cF s1 s2 s3) | (go_at_call 41; refine (cA _ q H3.out.1 fs fo).mono ?_; intro e1 w2 hp; have hp' : e1 = .panicked [{ v := thV t, recovered := false }] ∧ Off S _ w2 := hp; obtain ⟨rfl, hO⟩ := hp'; have HO : Hid (Off S (w.alloc (.cells #[.int .i64 0] 32)) w2) := H3.out.2.trans hO; clear hp hO H3))
      exact door_no HO.out HL.out _ rfl HA.out
    | ok x' n' =>
      go_enter_defers Tryd.func20, Tryd.ntmps20
      go_wp2_with (first | (go_at_call 40; refine cF.mono ?_; rintro e1 w1 ⟨rfl, hbb⟩; have hst := HH.out.below hbb; have hO1 := (Off.refl S (w.alloc (.cells #[.int .i64 0] 32))).below hbb; obtain ⟨k0, k1, k2, k3, k4, -, -, -, i0, i1, i2, i3, m0, m1, m2, m3, m4⟩ := hst.cells; have fz := hst.box.free; have s1 := hst.setI I; have s2 := s1.1.setN x.k; have s3 := s2.1.next (x.k.a + 1); have H3 : Hid (St _ S bb x q I (nextK x) ∧ Off S (w.alloc (.cells #[.int .i64 0] 32)) _) := ⟨s3.1, ((hO1.trans s1.2).trans s2.2).trans s3.2⟩; clear hst hO1 hbb cF s1 s2 s3) | (go_at_call 41; refine (cA _ q H3.out.1 fs fo).mono ?_; intro e1 w2 hp; have hp' : e1 = .returned (.tuple #[]) ∧ Off S _ w2 ∧ ∃ q', St w2 S bb x' q' I n' := hp; obtain ⟨rfl, hO, q', hst⟩ := hp'; have hO2 := H3.out.2.trans hO; have bE := hO2.box (Box.new w #[.int .i64 0] 32) n2; have cE : w2.cell? ⟨w.heap.size, 0, none⟩ = some (.int .i64 0) := bE.cell 0; have fE := bE.free 0; obtain ⟨y0, y1, y2, y3, y4, -, -, -, -, -, -, -, z0, z1, z2, z3, z4⟩ := hst.cells; have fy := hst.box.free; have s4 := hst.setK n'; have bE2 := s4.2.box bE n2; have s5 := s4.1.same (p := ⟨w.heap.size, 0, none⟩) (bE2.cell 0); have H5 : Hid (_ ∧ Off S (w.alloc (.cells #[.int .i64 0] 32)) _ ∧ _) := ⟨s5, hO2.trans s4.2, World.cell?_setCell_same _ _ (.int .i64 0) (bE2.cell 0)⟩; clear hst hO2 hO hp bE bE2 s4 s5 H3 k0 k1 k2 k3 k4 i0 i1 i2 i3 m0 m1 m2 m3 m4 fz))
      exact door_yes ((((Off.refl S w).alloc _).trans H5.out.2.1).setNew (p := ⟨w.heap.size, 0, none⟩) (Nat.le_refl _) _) H5.out.2.2 ⟨_, _, _, H5.out.1⟩ _ rfl HA.out
  · have hA : stepA x = .no (.e (fetI x)) := by unfold stepA; rw [if_neg hf]
    have cF := step_fetch_no h1 hS1 ho hm hml hf
    clear h h1 hS hS1 hb1 e2 e3 e4 e5 hE hok ho hml hsl
    go_enter_defers Tryd.func20, Tryd.ntmps20
    go_wp2_with (go_at_call 40; refine cF.mono ?_; unfold thrown; rintro e1 w1 ⟨rfl, hbb⟩)
    exact door_no ((Off.refl S _).below hbb) hlt _ rfl hA
end
end Go.Proofs.YthapfaohnliklaaDoor
