/- One step of a machine that may be: what it comes to, or what is told. step.Step answers what chapter 9 says of a machine, for whatever machine, and turns nothing that was in memory. Plain: what a step may do to a machine; a machine that may be may be behind it. -/
import Derived.Test.YtlfeglljpfihhaaGreatDoorRows
import Derived.Test.YtlfeglljpfihhaaGreatDoorCardBaseX
import Derived.Test.YtlfeglljpfihhaaGreatDoorValArgX
import Derived.Test.YtlfeglljpfihhaaGreatDoorMemPureX
import Derived.Test.YtlfeglljpfihhaaGreatDoorInstShapeX
import Derived.Test.YtlfeglljpfihhaaGreatDoorStepRowX
import Derived.Test.YtlfeglljpfihhaaGreatDoorStepChkX
import Derived.Test.YtlfeglljpfihhaaGreatDoorStepOffX
import Derived.Test.YtlfeglljpfihhaaGreatDoorStepOwnedX
import Derived.Test.YtlfeglljpfihhaaGreatDoorStepMidX
import Derived.Test.YtlfeglljpfihhaaGreatDoorStepMid2X
import Derived.Test.YtlfeglljpfihhaaGreatDoorStepFetchX
import Derived.Test.YtlfeglljpfihhaaGreatDoorStepActX
import Derived.Test.YtlfeglljpfihhaaGreatDoorStepActsX
import Derived.Test.YtlfeglljpfihhaaGreatDoorStepCatchX
import Derived.WalkKit
import Derived.ProofKit
import Derived.Defers
import Derived.Recover
import Derived.WalkLawsBesides
import Derived.OpenShut
import Derived.Deep.MidRow
import Derived.Laws.ResultCell
import Derived.Deep.CutBlock
import Derived.Test.YtlfeglljpfihhaaGreatDoorKeyCovX
import Derived.Test.YtlfeglljpfihhaaGreatDoorMemChkX
import Derived.Test.YtlfeglljpfihhaaGreatDoorStepBackX
import Derived.Test.YtlfeglljpfihhaaGreatDoorStepCallX
namespace Go.Proofs.YtlfeglljpfihhaaGreatDoor
section
open Go.ChangeShapes Go.WideShapes Go.ChangeAt Go.RowKit
set_option linter.unusedSimpArgs false
set_option linter.unusedVariables false
set_option maxRecDepth 100000

def nextK (x : MC) : K5 := { x.k with a := x.k.a + 1 }
/-- P19: one step of a machine that may be. -/
def stepA (x : MC) : AR := if fetI x = 0 then actR x (insAt x) (nextK x) else .no (.e (fetI x))
theorem readD_ok {n : Int} (h : (readD n).e = 0) : okI (readD n) := by
  unfold okI
  unfold readD at h ⊢
  by_cases hc : chkD (n % 32) (n / 32 % 8) (n / 256 % 8) (n / 2048 - 2048) = 0
  · rw [if_pos hc]
    exact hc
  · rw [if_neg hc] at h
    cases h
theorem fet_ok {x : MC} (h : fetI x = 0) : okI (insAt x) := by
  apply readD_ok
  unfold fetI at h
  split at h
  · split at h
    · split at h
      · split at h
        · cases h
        · exact h
      · cases h
    · cases h
  · cases h
section
variable {w : World} {S bb : Nat} {x : MC} {q : MA} {i : ID} {n : K5}
theorem st_hiset (h8 : x.r.length = 8) (j : Nat) (u : Value) : (stC x q i n).set (64 + j) u = mcC x q ++ (stT i n).set j u := by
  unfold stC
  rw [List.set_append_right _ _ (by rw [mc_len h8]; omega), mc_len h8, Nat.add_sub_cancel_left]
/-- The instruction is another one. -/
theorem St.setI (h : St w S bb x q i n) (m : ID) :
    St ((((w.setCell ⟨S, 64, none⟩ (.int .i64 m.o)).setCell ⟨S, 65, none⟩ (.int .i64 m.a)).setCell ⟨S, 66, none⟩ (.int .i64 m.b)).setCell ⟨S, 67, none⟩ (.int .i64 m.c)) S bb x q m n ∧
    Off S w ((((w.setCell ⟨S, 64, none⟩ (.int .i64 m.o)).setCell ⟨S, 65, none⟩ (.int .i64 m.a)).setCell ⟨S, 66, none⟩ (.int .i64 m.b)).setCell ⟨S, 67, none⟩ (.int .i64 m.c)) := by
  have hO : Off S w ((((w.setCell ⟨S, 64, none⟩ (.int .i64 m.o)).setCell ⟨S, 65, none⟩ (.int .i64 m.a)).setCell ⟨S, 66, none⟩ (.int .i64 m.b)).setCell ⟨S, 67, none⟩ (.int .i64 m.c)) := ((((Off.refl _ _).set _ _).set _ _).set _ _).set _ _
  have e : (((((stC x q i n).set 64 (.int .i64 m.o)).set 65 (.int .i64 m.a)).set 66 (.int .i64 m.b)).set 67 (.int .i64 m.c)) = stC x q m n := by
    unfold stC
    have hl := mc_len (q := q) h.r8
    rw [List.set_append_right _ _ (by omega), List.set_append_right _ _ (by omega), List.set_append_right _ _ (by omega), List.set_append_right _ _ (by omega), hl]
    rfl
  have hl := st_len (q := q) (i := i) (n := n) h.r8
  have b := (((h.box.setL (v := .int .i64 m.o) (j := 64) (by omega)).setL (v := .int .i64 m.a) (j := 65) (by simp only [List.length_set]; omega)).setL (v := .int .i64 m.b) (j := 66) (by simp only [List.length_set]; omega)).setL (v := .int .i64 m.c) (j := 67) (by simp only [List.length_set]; omega)
  rw [e] at b
  exact ⟨⟨b, hO.mc h.at_ h.far, h.far, h.r8, Nat.lt_of_lt_of_le h.lb hO.size⟩, hO⟩
/-- The key by which it runs is another one. -/
theorem St.setK (h : St w S bb x q i n) (m : K5) :
    St (((((w.setCell ⟨S, 56, none⟩ (.int .i64 m.p)).setCell ⟨S, 57, none⟩ (.int .i64 m.b)).setCell ⟨S, 58, none⟩ (.int .i64 m.l)).setCell ⟨S, 59, none⟩ (.int .i64 m.a)).setCell ⟨S, 60, none⟩ (.int .i64 m.s)) S bb { x with k := m } q i n ∧
    Off S w (((((w.setCell ⟨S, 56, none⟩ (.int .i64 m.p)).setCell ⟨S, 57, none⟩ (.int .i64 m.b)).setCell ⟨S, 58, none⟩ (.int .i64 m.l)).setCell ⟨S, 59, none⟩ (.int .i64 m.a)).setCell ⟨S, 60, none⟩ (.int .i64 m.s)) := by
  have hO : Off S w (((((w.setCell ⟨S, 56, none⟩ (.int .i64 m.p)).setCell ⟨S, 57, none⟩ (.int .i64 m.b)).setCell ⟨S, 58, none⟩ (.int .i64 m.l)).setCell ⟨S, 59, none⟩ (.int .i64 m.a)).setCell ⟨S, 60, none⟩ (.int .i64 m.s)) := (((((Off.refl _ _).set _ _).set _ _).set _ _).set _ _).set _ _
  have e : ((((((stC x q i n).set 56 (.int .i64 m.p)).set 57 (.int .i64 m.b)).set 58 (.int .i64 m.l)).set 59 (.int .i64 m.a)).set 60 (.int .i64 m.s)) = stC { x with k := m } q i n := by
    have hl : (x.r.flatMap mvC).length = 56 := by rw [mv_len, h.r8]
    unfold stC mcC
    simp only [List.append_assoc]
    rw [List.set_append_right _ _ (by omega), List.set_append_right _ _ (by omega), List.set_append_right _ _ (by omega), List.set_append_right _ _ (by omega), List.set_append_right _ _ (by omega), hl]
    rfl
  have hl := st_len (q := q) (i := i) (n := n) h.r8
  have b := ((((h.box.setL (v := .int .i64 m.p) (j := 56) (by omega)).setL (v := .int .i64 m.b) (j := 57) (by simp only [List.length_set]; omega)).setL (v := .int .i64 m.l) (j := 58) (by simp only [List.length_set]; omega)).setL (v := .int .i64 m.a) (j := 59) (by simp only [List.length_set]; omega)).setL (v := .int .i64 m.s) (j := 60) (by simp only [List.length_set]; omega)
  rw [e] at b
  exact ⟨⟨b, ⟨(hO.mc h.at_ h.far).m, (hO.mc h.at_ h.far).s, (hO.mc h.at_ h.far).o, h.at_.c⟩, h.far, h.r8, Nat.lt_of_lt_of_le h.lb hO.size⟩, hO⟩
theorem same_cells {w : World} {p : Addr} {u : Value} (h : w.cell? p = some u) (a : Addr) : (w.setCell p u).cell? a = w.cell? a := by
  by_cases e : p = a
  · subst e
    rw [World.cell?_setCell_same _ _ _ h, h]
  · exact World.cell?_setCell_other _ _ _ _ e
theorem RowAt.same {w : World} {p : Addr} {u : Value} {a : Option Addr} {cs : List Value} (h : w.cell? p = some u) (hr : RowAt w a cs) : RowAt (w.setCell p u) a cs := by
  rcases hr with hr | ⟨B, off, e, hB, hc⟩
  · exact .inl hr
  · exact .inr ⟨B, off, e, by simpa [World.setCell] using hB, fun j v hj => by rw [same_cells h]; exact hc j v hj⟩
theorem St.same {w : World} {S bb : Nat} {x : MC} {q : MA} {i : ID} {n : K5} {p : Addr} {u : Value} (h : w.cell? p = some u) (hs : St w S bb x q i n) : St (w.setCell p u) S bb x q i n :=
  ⟨⟨by simpa [World.setCell] using hs.box.lt, fun o => by rw [same_cells h]; exact hs.box.cell o, fun o => by rw [World.frozen?_setCell]; exact hs.box.free o⟩,
    ⟨RowAt.vals (RowAt.same h hs.at_.m.row), RowAt.same h hs.at_.s, RowAt.same h hs.at_.o, hs.at_.c⟩, hs.far, hs.r8, by simpa [World.setCell] using hs.lb⟩
/-- What is known behind one step. -/
def Steps (w : World) (S bb : Nat) (a : AR) (r : Ending) (w' : World) : Prop :=
  match a with
  | .no t => r = .returned (.int .i64 (thE t)) ∧ Off S w w'
  | .ok x' n' => r = .returned (.int .i64 0) ∧ Off S w w' ∧ ∃ q' i' n'', St w' S bb { x' with k := n' } q' i' n''
/-- The door, where something was thrown. -/
theorem door_no {w W : World} {S bb : Nat} {t : Th} (hO : Off S (w.alloc (.cells #[.int .i64 0] 35)) W) (hS : S < w.heap.size) (tm : Array Value) (ht : tm.getD 2 undef = .pointer (some ⟨w.heap.size, 0, none⟩)) {a : AR} (ha : a = .no t) :
    Leaves Tryz.prog Tryz.f26 tm (fun r w' => Steps w S bb a r w') [{ target := .fn (.func 49) #[.pointer (some ⟨w.heap.size, 0, none⟩)], args := #[] }] (.panicking [{ v := thV t, recovered := false }]) W := by
  have b := hO.box (Box.new w #[.int .i64 0] 35) (by omega)
  have hc : W.cell? ⟨w.heap.size, 0, none⟩ = some (.int .i64 0) := b.cell 0
  have hz := b.free 0
  have hlt := b.lt
  have ht' : tm[2]?.getD undef = .pointer (some ⟨w.heap.size, 0, none⟩) := by simpa using ht
  have hO' : Off S w W := ((Off.refl S w).alloc _).trans hO
  have key : ∀ w'' v, w''.cell? ⟨w.heap.size, 0, none⟩ = some (.int .i64 v) → (results Tryz.f26 tm).run Tryz.prog w'' = .ok (.int .i64 v) w'' := fun w'' v h => by
    simp [results, Tryz.results26, ht', go_sem, h]
  refine leaves_cons (f := 49) (args := #[.pointer (some ⟨w.heap.size, 0, none⟩)]) (by simp) (by simp [go_sem]) ?_
  subst ha
  have same : ∀ v : Value, (W.setCell ⟨w.heap.size, 0, none⟩ v).cell? ⟨w.heap.size, 0, none⟩ = some v := fun v => World.cell?_setCell_same _ _ _ hc
  have lts : ∀ v : Value, w.heap.size < (W.setCell ⟨w.heap.size, 0, none⟩ v).heap.size := fun v => by simpa [World.setCell] using hlt
  cases t with
  | e m =>
    refine (catch_err w.heap.size 0 m [] W hc hz hlt).mono ?_
    rintro e u' w'' ⟨rfl, rfl, rfl⟩
    exact ⟨_, key _ m (same _), rfl, hO'.setNew (p := ⟨w.heap.size, 0, none⟩) (Nat.le_refl _) _⟩
  | u =>
    refine (catch_u w.heap.size 0 [] W hc hz hlt).mono ?_
    rintro e u' w'' ⟨rfl, rfl, rfl⟩
    exact ⟨_, key _ 10 (by rw [cell_old _ _ _ _ (lts _)]; exact same _), rfl, (hO'.setNew (p := ⟨w.heap.size, 0, none⟩) (Nat.le_refl _) _).alloc _⟩
  | h =>
    refine (catch_h w.heap.size 0 [] W hc hz hlt).mono ?_
    rintro e u' w'' ⟨rfl, rfl, rfl⟩
    exact ⟨_, key _ 16 (by rw [cell_old _ _ _ _ (lts _)]; exact same _), rfl, (hO'.setNew (p := ⟨w.heap.size, 0, none⟩) (Nat.le_refl _) _).alloc _⟩
/-- The door, where it came to its end. -/
theorem door_yes {w W : World} {S bb : Nat} {x' : MC} {n' : K5} (hO : Off S w W) (hc : W.cell? ⟨w.heap.size, 0, none⟩ = some (.int .i64 0)) (hst : ∃ q' i' n'', St W S bb { x' with k := n' } q' i' n'') (tm : Array Value) (ht : tm.getD 2 undef = .pointer (some ⟨w.heap.size, 0, none⟩)) {a : AR} (ha : a = .ok x' n') :
    Leaves Tryz.prog Tryz.f26 tm (fun r w' => Steps w S bb a r w') [{ target := .fn (.func 49) #[.pointer (some ⟨w.heap.size, 0, none⟩)], args := #[] }] .returning W := by
  have ht' : tm[2]?.getD undef = .pointer (some ⟨w.heap.size, 0, none⟩) := by simpa using ht
  have key : (results Tryz.f26 tm).run Tryz.prog W = .ok (.int .i64 0) W := by
    simp [results, Tryz.results26, ht', go_sem, hc]
  refine leaves_cons (f := 49) (args := #[.pointer (some ⟨w.heap.size, 0, none⟩)]) (by simp) (by simp [go_sem]) ?_
  subst ha
  refine (catch_idle ⟨w.heap.size, 0, none⟩ W).mono ?_
  rintro e u' w'' ⟨rfl, rfl, rfl⟩
  exact ⟨_, key, rfl, hO, hst⟩
theorem mcE_parts {x : MC} (h : mcE x = 0) : chkL x.r = 0 ∧ chk5 x.k = 0 ∧ memE x.m = 0 ∧ stkE x.s = 0 ∧ outE x.o = 0 := by
  unfold mcE at h
  by_cases h1 : chkL x.r = 0
  · rw [if_pos h1] at h
    by_cases h2 : chk5 x.k = 0
    · rw [if_pos h2] at h
      by_cases h3 : memE x.m = 0
      · rw [if_pos h3] at h
        by_cases h4 : stkE x.s = 0
        · rw [if_pos h4] at h
          exact ⟨h1, h2, h3, h4, h⟩
        · rw [if_neg h4] at h
          exact absurd h h4
      · rw [if_neg h3] at h
        exact absurd h h3
    · rw [if_neg h2] at h
      exact absurd h h2
  · rw [if_neg h1] at h
    exact absurd h h1
theorem stk_small {s : List FR} (h : stkE s = 0) : s.length ≤ 16 := by
  unfold stkE at h
  split at h
  · cases h
  · omega
theorem out_small {s : List Int} (h : outE s = 0) : s.length ≤ 100 := by
  unfold outE at h
  split at h
  · cases h
  · omega
theorem ok_of_chk {k : K5} (h : chk5 k = 0) : ok5 k := by
  rcases chk5_cases k with ⟨ho, _⟩ | ⟨_, h1⟩
  · exact ho
  · rw [h] at h1; cases h1
set_option maxHeartbeats 4000000 in
theorem step_step (h : St w S bb x q i n) (hS : Shp w) (hE : mcE x = 0) (hr : mvsOk x.r) (hm : mvsOk x.m) (fs : q.cs = x.s.length) (fo : q.co = x.o.length) :
    Calls Tryz.prog 26 #[.pointer (some ⟨S, 0, none⟩)] w fun r w' => Steps w S bb (stepA x) r w' := by
  obtain ⟨_, e2, e3, e4, e5⟩ := mcE_parts hE
  have ho := ok_of_chk e2
  have hok := ok5_lit ho
  have hml := (mem_small e3).1
  have hsl := stk_small e4
  have hlt := h.box.lt
  have hb1 : Below w.heap.size w (w.alloc (.cells #[.int .i64 0] 35)) := (Below.refl _ _).alloc (Nat.le_refl _) _
  have h1 := h.below hb1
  have hS1 := hS.below hb1
  have hmf : ∀ (fn : Fn) (first cap : Array Value) (w : World), (Instr.makeFunc fn first cap).run Tryz.prog w = .ok (.func fn first cap) w := fun _ _ _ _ => rfl
  have n1 : ¬ S = w.heap.size := by omega
  have n2 : ¬ w.heap.size = S := by omega
  by_cases hf : fetI x = 0
  · have hA : stepA x = actR x (insAt x) (nextK x) := by unfold stepA; rw [if_pos hf]
    have cF := step_fetch_yes h1 hS1 ho hm hml hf
    have hoi := fet_ok hf
    obtain ⟨A, hAe⟩ : ∃ A, actR x (insAt x) (nextK x) = A := ⟨_, rfl⟩
    have HA : Hid (stepA x = A) := hA.trans hAe
    have cA := fun w q (h : St w S bb x q (insAt x) (nextK x)) fs fo => step_act h hoi hr hm ⟨hok.2.2.2.2.2.1, hok.2.2.2.2.2.2.1⟩ hsl fs fo
    rw [hAe] at cA
    have hka : IntKind.i64.wrap (x.k.a + 1) = x.k.a + 1 := by rw [IntKind.wrap_i64]; omega
    have HH : Hid (St (w.alloc (.cells #[.int .i64 0] 35)) S bb x q i n) := h1
    have HL : Hid (S < w.heap.size) := hlt
    generalize hI : insAt x = I at *
    clear h h1 hS hS1 hb1 e2 e3 e4 e5 hE hok ho hml hsl hf hA hAe hoi hI hr hm
    cases A with
    | no t =>
      go_enter_defers Tryz.func26, Tryz.ntmps26
      go_wp2_with (first | (go_at_call 50; refine cF.mono ?_; rintro e1 w1 ⟨rfl, hbb⟩; have hst := HH.out.below hbb; have hO1 := (Off.refl S (w.alloc (.cells #[.int .i64 0] 35))).below hbb; obtain ⟨k0, k1, k2, k3, k4, -, -, -, i0, i1, i2, i3, m0, m1, m2, m3, m4⟩ := hst.cells; have fz := hst.box.free; have s1 := hst.setI I; have s2 := s1.1.setN x.k; have s3 := s2.1.next (x.k.a + 1); have H3 : Hid (St _ S bb x q I (nextK x) ∧ Off S (w.alloc (.cells #[.int .i64 0] 35)) _) := ⟨s3.1, ((hO1.trans s1.2).trans s2.2).trans s3.2⟩; clear hst hO1 hbb cF s1 s2 s3) | (go_at_call 51; refine (cA _ q H3.out.1 fs fo).mono ?_; intro e1 w2 hp; have hp' : e1 = .panicked [{ v := thV t, recovered := false }] ∧ Off S _ w2 := hp; obtain ⟨rfl, hO⟩ := hp'; have HO : Hid (Off S (w.alloc (.cells #[.int .i64 0] 35)) w2) := H3.out.2.trans hO; clear hp hO H3))
      exact door_no HO.out HL.out _ rfl HA.out
    | ok x' n' =>
      go_enter_defers Tryz.func26, Tryz.ntmps26
      go_wp2_with (first | (go_at_call 50; refine cF.mono ?_; rintro e1 w1 ⟨rfl, hbb⟩; have hst := HH.out.below hbb; have hO1 := (Off.refl S (w.alloc (.cells #[.int .i64 0] 35))).below hbb; obtain ⟨k0, k1, k2, k3, k4, -, -, -, i0, i1, i2, i3, m0, m1, m2, m3, m4⟩ := hst.cells; have fz := hst.box.free; have s1 := hst.setI I; have s2 := s1.1.setN x.k; have s3 := s2.1.next (x.k.a + 1); have H3 : Hid (St _ S bb x q I (nextK x) ∧ Off S (w.alloc (.cells #[.int .i64 0] 35)) _) := ⟨s3.1, ((hO1.trans s1.2).trans s2.2).trans s3.2⟩; clear hst hO1 hbb cF s1 s2 s3) | (go_at_call 51; refine (cA _ q H3.out.1 fs fo).mono ?_; intro e1 w2 hp; have hp' : e1 = .returned (.tuple #[]) ∧ Off S _ w2 ∧ ∃ q', St w2 S bb x' q' I n' := hp; obtain ⟨rfl, hO, q', hst⟩ := hp'; have hO2 := H3.out.2.trans hO; have bE := hO2.box (Box.new w #[.int .i64 0] 35) n2; have cE : w2.cell? ⟨w.heap.size, 0, none⟩ = some (.int .i64 0) := bE.cell 0; have fE := bE.free 0; obtain ⟨y0, y1, y2, y3, y4, -, -, -, -, -, -, -, z0, z1, z2, z3, z4⟩ := hst.cells; have fy := hst.box.free; have s4 := hst.setK n'; have bE2 := s4.2.box bE n2; have s5 := s4.1.same (p := ⟨w.heap.size, 0, none⟩) (bE2.cell 0); have H5 : Hid (_ ∧ Off S (w.alloc (.cells #[.int .i64 0] 35)) _ ∧ _) := ⟨s5, hO2.trans s4.2, World.cell?_setCell_same _ _ (.int .i64 0) (bE2.cell 0)⟩; clear hst hO2 hO hp bE bE2 s4 s5 H3 k0 k1 k2 k3 k4 i0 i1 i2 i3 m0 m1 m2 m3 m4 fz))
      exact door_yes ((((Off.refl S w).alloc _).trans H5.out.2.1).setNew (p := ⟨w.heap.size, 0, none⟩) (Nat.le_refl _) _) H5.out.2.2 ⟨_, _, _, H5.out.1⟩ _ rfl HA.out
  · have hA : stepA x = .no (.e (fetI x)) := by unfold stepA; rw [if_neg hf]
    have cF := step_fetch_no h1 hS1 ho hm hml hf
    clear h h1 hS hS1 hb1 e2 e3 e4 e5 hE hok ho hml hsl
    go_enter_defers Tryz.func26, Tryz.ntmps26
    go_wp2_with (go_at_call 50; refine cF.mono ?_; unfold thrown; rintro e1 w1 ⟨rfl, hbb⟩)
    exact door_no ((Off.refl S _).below hbb) hlt _ rfl hA
end
end
section
open Go.ChangeShapes Go.WideShapes Go.ChangeAt Go.RowKit
set_option linter.unusedSimpArgs false
set_option linter.unusedVariables false
set_option maxRecDepth 100000

def z73 : Array Value := #[.bool false, .int .i64 0, .int .i64 0, .int .i64 0, .int .i64 0, .int .i64 0, .int .i64 0, .bool false, .int .i64 0, .int .i64 0, .int .i64 0, .int .i64 0, .int .i64 0, .int .i64 0, .bool false, .int .i64 0, .int .i64 0, .int .i64 0, .int .i64 0, .int .i64 0, .int .i64 0, .bool false, .int .i64 0, .int .i64 0, .int .i64 0, .int .i64 0, .int .i64 0, .int .i64 0, .bool false, .int .i64 0, .int .i64 0, .int .i64 0, .int .i64 0, .int .i64 0, .int .i64 0, .bool false, .int .i64 0, .int .i64 0, .int .i64 0, .int .i64 0, .int .i64 0, .int .i64 0, .bool false, .int .i64 0, .int .i64 0, .int .i64 0, .int .i64 0, .int .i64 0, .int .i64 0, .bool false, .int .i64 0, .int .i64 0, .int .i64 0, .int .i64 0, .int .i64 0, .int .i64 0, .int .i64 0, .int .i64 0, .int .i64 0, .int .i64 0, .int .i64 0, .slice none 0 0, .slice none 0 0, .slice none 0 0, .int .i64 0, .int .i64 0, .int .i64 0, .int .i64 0, .int .i64 0, .int .i64 0, .int .i64 0, .int .i64 0, .int .i64 0]
theorem z73_size : z73.size = 73 := rfl
def endE : AR → Int
  | .no t => thE t
  | .ok _ _ => 0
def endM : AR → MC
  | .no _ => zeroM
  | .ok x n => { x with k := n }
/-- P19: what is told of a step, and the machine behind it. -/
def stpE (x : MC) : Int := if mcE x = 0 then endE (stepA x) else mcE x
def stpM (x : MC) : MC := if mcE x = 0 then endM (stepA x) else zeroM
theorem key_no {x : MC} {a : Int} {K : KK} {n : K5} {t : Th} (h : keyR x a K n = .no t) : thE t ≠ 0 := by
  unfold keyR at h
  split at h
  · cases h
  · rename_i he
    cases h
    exact he
theorem jump_no {x : MC} {i : ID} {n : K5} {t : Th} (h : jumpR x i n = .no t) : thE t ≠ 0 := by
  unfold jumpR at h
  split at h
  · cases h
  · cases h
    decide
theorem calc_no {x : MC} {i : ID} {n : K5} {b c : MV} {t : Th} (h : calcR x i n b c = .no t) : thE t ≠ 0 := by
  unfold calcR at h
  split at h
  · cases h
    decide
  · split at h
    · cases h
      decide
    · split at h
      · rename_i hd
        cases h
        exact hd.2
      · cases h
theorem act_no {x : MC} {i : ID} {n : K5} {t : Th} (h : actR x i n = .no t) : thE t ≠ 0 := by
  unfold actR at h
  split at h
  all_goals first
    | exact calc_no h
    | exact jump_no h
    | (cases h; done)
    | (cases h; decide)
    | (repeat' split at h
       all_goals first
         | exact key_no h
         | exact jump_no h
         | (cases h; done)
         | (cases h; decide)
         | (cases h; assumption))
theorem step_no {x : MC} {t : Th} (h : stepA x = .no t) : thE t ≠ 0 := by
  unfold stepA at h
  split at h
  · exact act_no h
  · rename_i he
    cases h
    exact he
theorem build_st (x : MC) (q : MA) (h8 : x.r.length = 8) (w : World) : (Instr.build 71 #[(0, .agg (mcC x q).toArray)]).run Tryz.prog w = .ok (.agg (stC x q ⟨0, 0, 0, 0, 0⟩ ⟨0, 0, 0, 0, 0⟩).toArray) w := by
  obtain ⟨r, k, m, s, o⟩ := x
  obtain ⟨r0, r1, r2, r3, r4, r5, r6, r7, rfl⟩ := list8 h8
  kernel_rfl
theorem alloc_st (w : World) : (Instr.alloc 71 true (.tuple #[])).run Tryz.prog w = .ok (.pointer (some ⟨w.heap.size, 0, none⟩)) (w.alloc (.cells z73 71)) := by
  kernel_rfl
theorem wpList_build1 {ops : Array Oper} {rest : List Oper} {o : Oper} {a : Act} {w : World} {Q : Exit → Act → World → Prop} (hg : o.guard = none) (ty : TypeId) (x : Operand) (ho : o.op = .build ty #[(0, x)]) (u v : Value) (hx : a.eval x = u) (hr : (Instr.build ty #[(0, u)]).run Tryz.prog w = .ok v w)
    (h : wpList Tryz.prog ops Q rest (a.put o.dst v) w) : wpList Tryz.prog ops Q (o :: rest) a w :=
  wpList_plain hg fun K hK => by
    unfold Oper.wp
    simp [execOp, ho, hx, hr, Result.andThen]
    exact hK _ _ h
theorem info_st : (Tryz.prog.info? 71).map (·.size) = some 73 := by kernel_rfl
theorem st_one (x : MC) (q : MA) (i : ID) (n : K5) : ∀ u ∈ stC x q i n, u.oneCell' = true := fun u hu => by
  unfold stC at hu
  rcases List.mem_append.1 hu with h | h
  · exact mc_one _ _ u h
  · simp only [stT, List.mem_cons, List.not_mem_nil, or_false] at h
    rcases h with rfl | rfl | rfl | rfl | rfl | rfl | rfl | rfl | rfl <;> rfl
theorem zero_lit : (mcC zeroM zeroA).toArray = #[.bool false, .int .i64 0, .int .i64 0, .int .i64 0, .int .i64 0, .int .i64 0, .int .i64 0, .bool false, .int .i64 0, .int .i64 0, .int .i64 0, .int .i64 0, .int .i64 0, .int .i64 0, .bool false, .int .i64 0, .int .i64 0, .int .i64 0, .int .i64 0, .int .i64 0, .int .i64 0, .bool false, .int .i64 0, .int .i64 0, .int .i64 0, .int .i64 0, .int .i64 0, .int .i64 0, .bool false, .int .i64 0, .int .i64 0, .int .i64 0, .int .i64 0, .int .i64 0, .int .i64 0, .bool false, .int .i64 0, .int .i64 0, .int .i64 0, .int .i64 0, .int .i64 0, .int .i64 0, .bool false, .int .i64 0, .int .i64 0, .int .i64 0, .int .i64 0, .int .i64 0, .int .i64 0, .bool false, .int .i64 0, .int .i64 0, .int .i64 0, .int .i64 0, .int .i64 0, .int .i64 0, .int .i64 0, .int .i64 0, .int .i64 0, .int .i64 0, .int .i64 0, .slice none 0 0, .slice none 0 0, .slice none 0 0] := rfl
theorem box_pre {w : World} {S : Nat} {cs ds : List Value} (h : Box w S (cs ++ ds).toArray) : w.rangeAt S 0 cs := fun j u hj => by
  rw [Nat.zero_add, h.cell, List.getElem?_toArray, List.getElem?_append_left (List.getElem?_eq_some_iff.1 hj).1]
  exact hj
theorem rows_far {w : World} {b : Nat} {a : Option Addr} {cs : List Value} (hf : ∀ y ∈ a, y.block ≠ b) (h : RowAt w a cs) (vs : List Value) : RowAt (w.setCells b 0 vs) a cs := by
  rcases h with h | ⟨B, off, rfl, hB, hc⟩
  · exact .inl h
  · refine .inr ⟨B, off, rfl, by rw [size_cells]; exact hB, fun j u' hj => ?_⟩
    rw [World.cell?_setCells_out b vs 0 w ⟨B, off + j, none⟩ (fun e _ => absurd e (hf ⟨B, off, none⟩ rfl))]
    exact hc j u' hj
theorem st_sz {x : MC} {q1 : MA} {i : ID} {n : K5} (h8 : x.r.length = 8) : (stC x q1 i n).toArray.size = 73 := by
  rw [List.size_toArray]
  exact st_len h8
theorem st_inf {x : MC} {q1 : MA} {i : ID} {n : K5} (h8 : x.r.length = 8) : (Tryz.prog.info? 71).map (·.size) = some (stC x q1 i n).toArray.size := by
  rw [st_sz h8]
  exact info_st
theorem st_made {w2 : World} {b : Nat} {x : MC} {q1 : MA} (h8 : x.r.length = 8) (hA : McAt w2 x q1) (fm : ∀ y ∈ q1.m, b < y.block ∧ y.block < w2.heap.size) (fs : ∀ y ∈ q1.s, b < y.block ∧ y.block < w2.heap.size) (fo : ∀ y ∈ q1.o, b < y.block ∧ y.block < w2.heap.size) (hb : b < w2.heap.size) :
    St ((w2.alloc (.cells z73 71)).setCells w2.heap.size 0 (stC x q1 (⟨0, 0, 0, 0, 0⟩ : ID) (⟨0, 0, 0, 0, 0⟩ : K5)).toArray.toList) w2.heap.size b x q1 (⟨0, 0, 0, 0, 0⟩ : ID) (⟨0, 0, 0, 0, 0⟩ : K5) ∧
    Below w2.heap.size w2 ((w2.alloc (.cells z73 71)).setCells w2.heap.size 0 (stC x q1 (⟨0, 0, 0, 0, 0⟩ : ID) (⟨0, 0, 0, 0, 0⟩ : K5)).toArray.toList) := by
  have hB : Below w2.heap.size w2 ((w2.alloc (.cells z73 71)).setCells w2.heap.size 0 (stC x q1 (⟨0, 0, 0, 0, 0⟩ : ID) (⟨0, 0, 0, 0, 0⟩ : K5)).toArray.toList) := below_cells _ _ _ _ ((Below.refl _ _).alloc (Nat.le_refl _) _) (Nat.le_refl _)
  have bx := box_cells (Box.new w2 z73 71) (cs := stC x q1 (⟨0, 0, 0, 0, 0⟩ : ID) (⟨0, 0, 0, 0, 0⟩ : K5)) (by rw [st_len h8]; exact z73_size)
  refine ⟨⟨bx, hA.below hB, ⟨fun y hy => ?_, fun y hy => ?_, fun y hy => ?_⟩, h8, Nat.lt_of_lt_of_le hb hB.size⟩, hB⟩
  · have := fm y hy; omega
  · have := fs y hy; omega
  · have := fo y hy; omega
set_option maxHeartbeats 4000000 in
theorem step_top (x : MC) (q : MA) (w : World) (hA : McAt w x q) (hO : McB x) (hS : Shp w) :
    Calls Tryz.prog 13 #[.agg (mcC x q).toArray] w fun r w' => ∃ q', r = .returned (.tuple #[.agg (mcC (stpM x) q').toArray, .int .i64 (stpE x)]) ∧ Below w.heap.size w w' ∧ McAt w' (stpM x) q' ∧ FreshQ w.heap.size q' := by
  have cC := fun w hA => step_check x q w hA hO
  have cO := fun w hA => step_own x q w hA hO.r8
  have r8 := hO.r8
  obtain ⟨L, hL⟩ : ∃ L, mcC x q = L := ⟨_, rfl⟩
  have hlen : L.length = 64 := by rw [← hL]; exact mc_length r8
  have hi : (Tryz.prog.info? 31).map (·.size) = some L.length := by rw [hlen]; exact info_mach
  have HI : Hid ((Tryz.prog.info? 31).map (·.size) = some L.length) := hi
  have HA : Hid (∀ w', Below w.heap.size w w' → McAt w' x q) := fun w' hb => hA.below hb
  have HS : Hid (∀ w', Below w.heap.size w w' → Shp w') := fun w' hb => hS.below hb
  have HO : Hid (McB x) := hO
  have HR : Hid (x.r.length = 8) := r8
  rw [hL] at cC cO ⊢
  unfold stpM stpE
  clear hA hS hO r8 hi hlen hL
  by_cases hE : mcE x = 0
  · rw [if_pos hE, if_pos hE]
    obtain ⟨_, _, e3, e4, e5⟩ := mcE_parts hE
    rw [hE] at cC
    replace cO := fun w hA => cO w hA (mem_small e3).1 (stk_small e4) (out_small e5)
    obtain ⟨A, hAe⟩ : ∃ A, stepA x = A := ⟨_, rfl⟩
    have hno : ∀ t, A = .no t → ¬ thE t = 0 := fun t ht => step_no (hAe.trans ht)
    have cS : ∀ W S q', St W S (w.heap.size + 1) x q' (⟨0, 0, 0, 0, 0⟩ : ID) (⟨0, 0, 0, 0, 0⟩ : K5) → Shp W → q'.cs = x.s.length → q'.co = x.o.length → Calls Tryz.prog 26 #[.pointer (some ⟨S, 0, none⟩)] W fun r w' => Steps W S (w.heap.size + 1) A r w' := fun W S q' h hS fs fo => by
      rw [← hAe]
      exact step_step h hS hE HO.out.r HO.out.m fs fo
    rw [hAe]
    clear hE e3 e4 e5 hAe
    cases A with
    | no t =>
      show Calls _ _ _ _ fun r w' => ∃ q', r = .returned (.tuple #[.agg (mcC zeroM q').toArray, .int .i64 (thE t)]) ∧ _ ∧ McAt w' zeroM q' ∧ FreshQ w.heap.size q'
      have gT : (thE t != 0) = true := by simpa using hno t rfl
      replace cS : ∀ W S q', St W S (w.heap.size + 1) x q' (⟨0, 0, 0, 0, 0⟩ : ID) (⟨0, 0, 0, 0, 0⟩ : K5) → Shp W → q'.cs = x.s.length → q'.co = x.o.length → Calls Tryz.prog 26 #[.pointer (some ⟨S, 0, none⟩)] W fun r w' => r = .returned (.int .i64 (thE t)) ∧ Off S W w' := cS
      generalize thE t = E at *
      clear hno
      go_enter Tryz.func13, Tryz.ntmps13
      go_upto_region 1 with fail
      obtain ⟨w0, hw0⟩ : ∃ w0, w0 = (w.alloc (.cells L.toArray 31)).alloc (.cells #[.bool false, .int .i64 0, .int .i64 0, .int .i64 0, .int .i64 0, .int .i64 0, .int .i64 0, .bool false, .int .i64 0, .int .i64 0, .int .i64 0, .int .i64 0, .int .i64 0, .int .i64 0, .bool false, .int .i64 0, .int .i64 0, .int .i64 0, .int .i64 0, .int .i64 0, .int .i64 0, .bool false, .int .i64 0, .int .i64 0, .int .i64 0, .int .i64 0, .int .i64 0, .int .i64 0, .bool false, .int .i64 0, .int .i64 0, .int .i64 0, .int .i64 0, .int .i64 0, .int .i64 0, .bool false, .int .i64 0, .int .i64 0, .int .i64 0, .int .i64 0, .int .i64 0, .int .i64 0, .bool false, .int .i64 0, .int .i64 0, .int .i64 0, .int .i64 0, .int .i64 0, .int .i64 0, .bool false, .int .i64 0, .int .i64 0, .int .i64 0, .int .i64 0, .int .i64 0, .int .i64 0, .int .i64 0, .int .i64 0, .int .i64 0, .int .i64 0, .int .i64 0, .slice none 0 0, .slice none 0 0, .slice none 0 0] 31) := ⟨_, rfl⟩
      rw [← hw0]
      obtain ⟨Z, zZ, bZ⟩ : ∃ Z : Array Value, Z.size = 64 ∧ Box w0 (w.heap.size + 1) Z := by rw [hw0]; exact ⟨_, rfl, Box.new1 _ _ _ _⟩
      have bM : Box w0 w.heap.size L.toArray := by rw [hw0]; exact (Box.new _ _ _).alloc _
      have hB : Below w.heap.size w w0 := by rw [hw0]; exact two _ _
      have HZ : Hid (Z.size = 64) := zZ
      clear hw0 zZ
      go_wp2_with (first | (refine wpList_load_mid rfl 31 (.tmp 1) rfl w.heap.size 0 (by rfl) L _ (box_range bM) Tryz.underlying31 rfl HI.out ?_) | (go_at_call 24; refine (cC _ (HA.out _ hB)).mono ?_; rintro e1 w1 ⟨rfl, hbb⟩; replace bM := bM.below hbb; replace bZ := bZ.below hbb; replace hB := Below.step0 hB hbb; clear hbb cC) | (go_at_call 25; refine (cO _ (HA.out _ hB)).mono ?_; rintro e1 w2 ⟨q1, rfl, hbb, hA2, f1, f2, f3, fs, fo, u1, u2, u3⟩; have z1 := bZ.lt; replace bZ := bZ.below hbb; have hz1 := hbb.size; replace hB := Below.step0 hB hbb; have HQ : Hid (McAt w2 x q1 ∧ (∀ y ∈ q1.m, w.heap.size + 1 < y.block ∧ y.block < w2.heap.size) ∧ (∀ y ∈ q1.s, w.heap.size + 1 < y.block ∧ y.block < w2.heap.size) ∧ (∀ y ∈ q1.o, w.heap.size + 1 < y.block ∧ y.block < w2.heap.size)) := ⟨hA2, fun y hy => ⟨Nat.lt_of_lt_of_le z1 (f1 y hy), u1 y hy⟩, fun y hy => ⟨Nat.lt_of_lt_of_le z1 (f2 y hy), u2 y hy⟩, fun y hy => ⟨Nat.lt_of_lt_of_le z1 (f3 y hy), u3 y hy⟩⟩; clear hbb cO hA2 f1 f2 f3 u1 u2 u3 z1 hz1 bM) | (refine wpList_build1 rfl 71 (.tmp 14) rfl (.agg (mcC x q1).toArray) (.agg (stC x q1 (⟨0, 0, 0, 0, 0⟩ : ID) (⟨0, 0, 0, 0, 0⟩ : K5)).toArray) (by rfl) (build_st x q1 HR.out _) ?_) | (refine wpList_alloc1 rfl 71 rfl _ (alloc_st _) ?_) | (refine wpList_store_mid rfl 71 (.tmp 5) (.tmp 15) rfl w2.heap.size 0 (stC x q1 (⟨0, 0, 0, 0, 0⟩ : ID) (⟨0, 0, 0, 0, 0⟩ : K5)).toArray (by rfl) (by rfl) (box_there (Box.new w2 z73 71) (by rw [st_sz HR.out]; exact z73_size)) (st_inf HR.out) (all_oneCell_toArray (st_one _ _ _ _)) ?_; have hW := st_made HR.out HQ.out.1 HQ.out.2.1 HQ.out.2.2.1 HQ.out.2.2.2 bZ.lt; obtain ⟨W, hWe⟩ : ∃ W, W = (w2.alloc (.cells z73 71)).setCells w2.heap.size 0 (stC x q1 (⟨0, 0, 0, 0, 0⟩ : ID) (⟨0, 0, 0, 0, 0⟩ : K5)).toArray.toList := ⟨_, rfl⟩; rw [← hWe] at hW ⊢; obtain ⟨hst, hbW⟩ := hW; have hz3 := bZ.lt; replace bZ := bZ.below hbW; have hzz := hB.size; replace hB := Below.step0 hB hbW; clear hWe hbW HQ) | (go_at_call 26; refine (cS _ _ _ hst (HS.out _ hB) fs fo).mono ?_; rintro r w3 ⟨rfl, hO⟩; have hS1 := hst.box.lt; have hz2 := bZ.lt; replace bZ := hO.box bZ (by omega); replace hB := hB.trans (hO.to (n := w.heap.size) hzz (Nat.le_of_lt hS1)); clear hst hO cS) | (refine wpList_store_mid rfl 31 (.tmp 2) (.tmp 19) rfl (w.heap.size + 1) 0 (mcC zeroM zeroA).toArray (by rfl) (by rfl) (box_there bZ HZ.out) info_mach (all_oneCell_toArray (mc_one _ _)) ?_))
      have b7 := box_cells bZ (cs := mcC zeroM zeroA) HZ.out
      have hld := run_loadVar_mid (P := Tryz.prog) _ (w.heap.size + 1) 0 31 (mcC zeroM zeroA) _ (box_range b7) Tryz.underlying31 rfl info_mach
      exact bodyPost_ret (v := .tuple #[.agg (mcC zeroM zeroA).toArray, .int .i64 E]) (by rw [results_cell_tmp Tryz.results13]; simp [asAddr, Result.andThen, hld]) rfl ⟨zeroA, rfl, below_cells _ _ _ _ hB (by omega), ⟨.inl rfl, .inl rfl, .inl rfl, Nat.le_refl _, Nat.le_refl _, Nat.zero_le _⟩, fresh_zero _⟩
    | ok x' n' =>
      show Calls _ _ _ _ fun r w' => ∃ q', r = .returned (.tuple #[.agg (mcC { x' with k := n' } q').toArray, .int .i64 0]) ∧ _ ∧ McAt w' { x' with k := n' } q' ∧ FreshQ w.heap.size q'
      replace cS : ∀ W S q', St W S (w.heap.size + 1) x q' (⟨0, 0, 0, 0, 0⟩ : ID) (⟨0, 0, 0, 0, 0⟩ : K5) → Shp W → q'.cs = x.s.length → q'.co = x.o.length → Calls Tryz.prog 26 #[.pointer (some ⟨S, 0, none⟩)] W fun r w' => r = .returned (.int .i64 0) ∧ Off S W w' ∧ ∃ q' i' n'', St w' S (w.heap.size + 1) { x' with k := n' } q' i' n'' := cS
      generalize ({ x' with k := n' } : MC) = X at *
      clear hno
      go_enter Tryz.func13, Tryz.ntmps13
      go_upto_region 1 with fail
      obtain ⟨w0, hw0⟩ : ∃ w0, w0 = (w.alloc (.cells L.toArray 31)).alloc (.cells #[.bool false, .int .i64 0, .int .i64 0, .int .i64 0, .int .i64 0, .int .i64 0, .int .i64 0, .bool false, .int .i64 0, .int .i64 0, .int .i64 0, .int .i64 0, .int .i64 0, .int .i64 0, .bool false, .int .i64 0, .int .i64 0, .int .i64 0, .int .i64 0, .int .i64 0, .int .i64 0, .bool false, .int .i64 0, .int .i64 0, .int .i64 0, .int .i64 0, .int .i64 0, .int .i64 0, .bool false, .int .i64 0, .int .i64 0, .int .i64 0, .int .i64 0, .int .i64 0, .int .i64 0, .bool false, .int .i64 0, .int .i64 0, .int .i64 0, .int .i64 0, .int .i64 0, .int .i64 0, .bool false, .int .i64 0, .int .i64 0, .int .i64 0, .int .i64 0, .int .i64 0, .int .i64 0, .bool false, .int .i64 0, .int .i64 0, .int .i64 0, .int .i64 0, .int .i64 0, .int .i64 0, .int .i64 0, .int .i64 0, .int .i64 0, .int .i64 0, .int .i64 0, .slice none 0 0, .slice none 0 0, .slice none 0 0] 31) := ⟨_, rfl⟩
      rw [← hw0]
      obtain ⟨Z, zZ, bZ⟩ : ∃ Z : Array Value, Z.size = 64 ∧ Box w0 (w.heap.size + 1) Z := by rw [hw0]; exact ⟨_, rfl, Box.new1 _ _ _ _⟩
      have bM : Box w0 w.heap.size L.toArray := by rw [hw0]; exact (Box.new _ _ _).alloc _
      have hB : Below w.heap.size w w0 := by rw [hw0]; exact two _ _
      have HZ : Hid (Z.size = 64) := zZ
      clear hw0 zZ
      go_wp2_with (first | (refine wpList_load_mid rfl 31 (.tmp 1) rfl w.heap.size 0 (by rfl) L _ (box_range bM) Tryz.underlying31 rfl HI.out ?_) | (go_at_call 24; refine (cC _ (HA.out _ hB)).mono ?_; rintro e1 w1 ⟨rfl, hbb⟩; replace bM := bM.below hbb; replace bZ := bZ.below hbb; replace hB := Below.step0 hB hbb; clear hbb cC) | (go_at_call 25; refine (cO _ (HA.out _ hB)).mono ?_; rintro e1 w2 ⟨q1, rfl, hbb, hA2, f1, f2, f3, fs, fo, u1, u2, u3⟩; have z1 := bZ.lt; replace bZ := bZ.below hbb; have hz1 := hbb.size; replace hB := Below.step0 hB hbb; have HQ : Hid (McAt w2 x q1 ∧ (∀ y ∈ q1.m, w.heap.size + 1 < y.block ∧ y.block < w2.heap.size) ∧ (∀ y ∈ q1.s, w.heap.size + 1 < y.block ∧ y.block < w2.heap.size) ∧ (∀ y ∈ q1.o, w.heap.size + 1 < y.block ∧ y.block < w2.heap.size)) := ⟨hA2, fun y hy => ⟨Nat.lt_of_lt_of_le z1 (f1 y hy), u1 y hy⟩, fun y hy => ⟨Nat.lt_of_lt_of_le z1 (f2 y hy), u2 y hy⟩, fun y hy => ⟨Nat.lt_of_lt_of_le z1 (f3 y hy), u3 y hy⟩⟩; clear hbb cO hA2 f1 f2 f3 u1 u2 u3 z1 hz1 bM) | (refine wpList_build1 rfl 71 (.tmp 14) rfl (.agg (mcC x q1).toArray) (.agg (stC x q1 (⟨0, 0, 0, 0, 0⟩ : ID) (⟨0, 0, 0, 0, 0⟩ : K5)).toArray) (by rfl) (build_st x q1 HR.out _) ?_) | (refine wpList_alloc1 rfl 71 rfl _ (alloc_st _) ?_) | (refine wpList_store_mid rfl 71 (.tmp 5) (.tmp 15) rfl w2.heap.size 0 (stC x q1 (⟨0, 0, 0, 0, 0⟩ : ID) (⟨0, 0, 0, 0, 0⟩ : K5)).toArray (by rfl) (by rfl) (box_there (Box.new w2 z73 71) (by rw [st_sz HR.out]; exact z73_size)) (st_inf HR.out) (all_oneCell_toArray (st_one _ _ _ _)) ?_; have hW := st_made HR.out HQ.out.1 HQ.out.2.1 HQ.out.2.2.1 HQ.out.2.2.2 bZ.lt; obtain ⟨W, hWe⟩ : ∃ W, W = (w2.alloc (.cells z73 71)).setCells w2.heap.size 0 (stC x q1 (⟨0, 0, 0, 0, 0⟩ : ID) (⟨0, 0, 0, 0, 0⟩ : K5)).toArray.toList := ⟨_, rfl⟩; rw [← hWe] at hW ⊢; obtain ⟨hst, hbW⟩ := hW; have hz3 := bZ.lt; replace bZ := bZ.below hbW; have hzz := hB.size; replace hB := Below.step0 hB hbW; clear hWe hbW HQ) | (go_at_call 26; refine (cS _ _ _ hst (HS.out _ hB) fs fo).mono ?_; rintro r w3 ⟨rfl, hO, q2, i2, n2, hs3⟩; have hS1 := hst.box.lt; have hz2 := bZ.lt; replace bZ := hO.box bZ (by omega); replace hB := hB.trans (hO.to (n := w.heap.size) hzz (Nat.le_of_lt hS1)); have HP : Hid (w3.rangeAt w2.heap.size 0 (mcC X q2) ∧ (mcC X q2).length = 64 ∧ McAt w3 X q2 ∧ FarM w2.heap.size (w.heap.size + 1) q2) := ⟨box_pre hs3.box, mc_length hs3.r8, hs3.at_, hs3.far⟩; clear hst hO cS hs3) | (refine wpList_load_mid rfl 31 (.tmp 21) rfl w2.heap.size 0 (by rfl) (mcC X q2) _ HP.out.1 Tryz.underlying31 rfl (by rw [HP.out.2.1]; exact info_mach) ?_) | (refine wpList_store_mid rfl 31 (.tmp 2) (.tmp 22) rfl (w.heap.size + 1) 0 (mcC X q2).toArray (by rfl) (by rfl) (box_there bZ (by rw [HZ.out, List.size_toArray, HP.out.2.1])) (by rw [List.size_toArray, HP.out.2.1]; exact info_mach) (all_oneCell_toArray (mc_one _ _)) ?_))
      have b7 := box_cells bZ (cs := mcC X q2) (by rw [HZ.out, HP.out.2.1])
      have hld := run_loadVar_mid (P := Tryz.prog) _ (w.heap.size + 1) 0 31 (mcC X q2) _ (box_range b7) Tryz.underlying31 rfl (by rw [HP.out.2.1]; exact info_mach)
      obtain ⟨_, _, hm, hf⟩ := HP.out
      exact bodyPost_ret (v := .tuple #[.agg (mcC X q2).toArray, .int .i64 0]) (by rw [results_cell_tmp Tryz.results13]; simp [asAddr, Result.andThen, hld]) rfl ⟨q2, rfl, below_cells _ _ _ _ hB (by omega), ⟨RowAt.vals (rows_far (fun y hy => Nat.ne_of_gt (hf.m y hy).2) hm.m.row _), rows_far (fun y hy => Nat.ne_of_gt (hf.s y hy).2) hm.s _, rows_far (fun y hy => Nat.ne_of_gt (hf.o y hy).2) hm.o _, hm.c⟩, ⟨fun y hy => Nat.le_of_lt (Nat.lt_of_succ_lt (hf.m y hy).2), fun y hy => Nat.le_of_lt (Nat.lt_of_succ_lt (hf.s y hy).2), fun y hy => Nat.le_of_lt (Nat.lt_of_succ_lt (hf.o y hy).2)⟩⟩
  · rw [if_neg hE, if_neg hE]
    have gE : (mcE x != 0) = true := by simpa using hE
    generalize mcE x = E at *
    clear cO hE
    go_enter Tryz.func13, Tryz.ntmps13
    go_upto_region 1 with fail
    obtain ⟨w0, hw0⟩ : ∃ w0, w0 = (w.alloc (.cells L.toArray 31)).alloc (.cells #[.bool false, .int .i64 0, .int .i64 0, .int .i64 0, .int .i64 0, .int .i64 0, .int .i64 0, .bool false, .int .i64 0, .int .i64 0, .int .i64 0, .int .i64 0, .int .i64 0, .int .i64 0, .bool false, .int .i64 0, .int .i64 0, .int .i64 0, .int .i64 0, .int .i64 0, .int .i64 0, .bool false, .int .i64 0, .int .i64 0, .int .i64 0, .int .i64 0, .int .i64 0, .int .i64 0, .bool false, .int .i64 0, .int .i64 0, .int .i64 0, .int .i64 0, .int .i64 0, .int .i64 0, .bool false, .int .i64 0, .int .i64 0, .int .i64 0, .int .i64 0, .int .i64 0, .int .i64 0, .bool false, .int .i64 0, .int .i64 0, .int .i64 0, .int .i64 0, .int .i64 0, .int .i64 0, .bool false, .int .i64 0, .int .i64 0, .int .i64 0, .int .i64 0, .int .i64 0, .int .i64 0, .int .i64 0, .int .i64 0, .int .i64 0, .int .i64 0, .int .i64 0, .slice none 0 0, .slice none 0 0, .slice none 0 0] 31) := ⟨_, rfl⟩
    rw [← hw0]
    obtain ⟨Z, zZ, bZ⟩ : ∃ Z : Array Value, Z.size = 64 ∧ Box w0 (w.heap.size + 1) Z := by rw [hw0]; exact ⟨_, rfl, Box.new1 _ _ _ _⟩
    have bM : Box w0 w.heap.size L.toArray := by rw [hw0]; exact (Box.new _ _ _).alloc _
    have hB : Below w.heap.size w w0 := by rw [hw0]; exact two _ _
    have HZ : Hid (Z.size = 64) := zZ
    clear hw0 zZ
    go_wp2_with (first | (refine wpList_load_mid rfl 31 (.tmp 1) rfl w.heap.size 0 (by rfl) L _ (box_range bM) Tryz.underlying31 rfl HI.out ?_) | (go_at_call 24; refine (cC _ (HA.out _ hB)).mono ?_; rintro e1 w1 ⟨rfl, hbb⟩; replace bM := bM.below hbb; replace bZ := bZ.below hbb; replace hB := Below.step0 hB hbb; clear hbb cC) | (refine wpList_store_mid rfl 31 (.tmp 2) (.tmp 11) rfl (w.heap.size + 1) 0 (mcC zeroM zeroA).toArray (by rfl) (by rfl) (box_there bZ HZ.out) info_mach (all_oneCell_toArray (mc_one _ _)) ?_))
    have b7 := box_cells bZ (cs := mcC zeroM zeroA) HZ.out
    have hld := run_loadVar_mid (P := Tryz.prog) _ (w.heap.size + 1) 0 31 (mcC zeroM zeroA) _ (box_range b7) Tryz.underlying31 rfl info_mach
    exact bodyPost_ret (v := .tuple #[.agg (mcC zeroM zeroA).toArray, .int .i64 E]) (by rw [results_cell_tmp Tryz.results13]; simp [asAddr, Result.andThen, hld]) rfl ⟨zeroA, rfl, below_cells _ _ _ _ hB (by omega), ⟨.inl rfl, .inl rfl, .inl rfl, Nat.le_refl _, Nat.le_refl _, Nat.zero_le _⟩, fresh_zero _⟩
end
section
open Go.RowKit
set_option linter.unusedVariables false

/-- What an instruction that does something may do. -/
inductive Eff (x : MC) (i : ID) (n : K5) : MC → K5 → Prop
  | put (v : MV) (hv : chk1 v = 0) (ho : i.o ≠ 8 ∧ i.o ≠ 9 ∧ i.o ≠ 11 ∧ i.o ≠ 18 ∧ i.o ≠ 19 ∧ i.o ≠ 21 ∧ i.o ≠ 22) : Eff x i n (putR x i.a.toNat v) n
  | jump (ho : i.o = 8 ∨ i.o = 9) (hb : 0 ≤ x.k.a + i.c ∧ x.k.a + i.c ≤ 400) : Eff x i n x { n with a := x.k.a + i.c }
  | pass (ho : i.o = 9) : Eff x i n x n
  | store (ho : i.o = 11) (hi : (reg x i.b).i = true) (he : storeE x.m (kOf (reg x i.b)) i.c (reg x i.a) = 0) : Eff x i n { x with m := x.m.set (pl (kOf (reg x i.b)) i.c) (reg x i.a) } n
  | call (ho : i.o = 18) (ha : (reg x i.a).i = true) (hb : (reg x i.b).i = true) (he : callE (kOf (reg x i.a)) (kOf (reg x i.b)) x.s.length = 0) : Eff x i n (callM x n (kOf (reg x i.b)) (reg x 7)) (open5 (kOf (reg x i.a)))
  | back (ho : i.o = 19) (f : FR) (fs : List FR) (hs : x.s = fs ++ [f]) : Eff x i n (backM x f fs) f.c
  | clear (ho : i.o = 21) : Eff x i n { x with r := clrN i.c x.r 8 } n
  | tell (ho : i.o = 22) (hi : (reg x i.a).i = false) (hl : x.o.length < 100) : Eff x i n { x with o := x.o ++ [(reg x i.a).n] } n

theorem chk1_nV {m : Int} (h : -2147483648 ≤ m ∧ m ≤ 2147483647) : chk1 (nV m) = 0 := by
  show numE m 0 0 0 0 0 = 0
  unfold numE
  rw [if_pos h]
  rfl
theorem chk1_kV {k : K5} (h : ok5 k) : chk1 (kV k) = 0 := by
  show keyE 0 k.p k.b k.l k.a k.s = 0
  unfold keyE
  have h' : ok k.p k.b k.l k.a k.s := h
  rw [if_pos h', if_pos rfl]
theorem chk1_key {v : MV} (h : chk1 v = 0) (hi : v.i = true) : v.n = 0 ∧ ok5 (kOf v) := by
  obtain ⟨i, n, p, b, l, a, s⟩ := v
  cases hi
  exact keyE_ok h
theorem chk1_num {v : MV} (h : chk1 v = 0) (hi : v.i = false) : (-2147483648 ≤ v.n ∧ v.n ≤ 2147483647) ∧ v.p = 0 ∧ v.b = 0 ∧ v.l = 0 ∧ v.a = 0 ∧ v.s = 0 := by
  obtain ⟨i, n, p, b, l, a, s⟩ := v
  cases hi
  exact numE_ok h
theorem chk1_nil : chk1 nil0 = 0 := by decide
theorem reg_chk {x : MC} (h8 : x.r.length = 8) (hr : chkL x.r = 0) {k : Int} (hk : 0 ≤ k ∧ k ≤ 7) : chk1 (reg x k) = 0 := by
  unfold reg
  rw [List.getD_eq_getElem?_getD, List.getElem?_eq_getElem (by omega)]
  exact chkL_all.1 hr _ (List.getElem_mem _)
theorem kOf_kV (k : K5) : kOf (kV k) = k := rfl
theorem move_ok {p b l a s n : Int} (h : (moveK p b l a s n).e = 0) : ok (moveK p b l a s n).p (moveK p b l a s n).b (moveK p b l a s n).l (moveK p b l a s n).a (moveK p b l a s n).s := by
  unfold moveK at h ⊢
  by_cases hu : unsE p b l a s = 0
  · rw [if_pos hu] at h ⊢
    obtain ⟨⟨h1, h2, h3, h4, h5, h6, h7, h8, h9⟩, hs⟩ := ok_of_uns hu
    by_cases hb : 0 ≤ a + n ∧ a + n ≤ 400
    · rw [if_pos hb] at h ⊢
      exact ⟨h1, h2, h3, h4, h5, hb.1, hb.2, h8, h9⟩
    · rw [if_neg hb] at h
      cases h
  · rw [if_neg hu] at h
    exact absurd h hu
theorem narrow_ok' {p b l a s n : Int} (h : (narrowK p b l a s n).e = 0) : ok (narrowK p b l a s n).p (narrowK p b l a s n).b (narrowK p b l a s n).l (narrowK p b l a s n).a (narrowK p b l a s n).s := by
  unfold narrowK at h ⊢
  by_cases hu : unsE p b l a s = 0
  · rw [if_pos hu] at h ⊢
    obtain ⟨⟨h1, h2, h3, h4, h5, h6, h7, h8, h9⟩, hs⟩ := ok_of_uns hu
    by_cases hb : b ≤ a ∧ 0 ≤ n ∧ a + n ≤ b + l
    · rw [if_pos hb] at h ⊢
      refine ⟨h1, h2, ?_, ?_, ?_, h6, h7, h8, h9⟩ <;> dsimp only <;> omega
    · rw [if_neg hb] at h
      cases h
  · rw [if_neg hu] at h
    exact absurd h hu
theorem and_127 (p n : Int) (h : 0 ≤ p ∧ p ≤ 127) : 0 ≤ bits .and .i64 p n ∧ bits .and .i64 p n ≤ 127 := by
  have hb := and_b p n
  have hz : ∀ i : Nat, 7 ≤ i → i < 64 → bt p i = false := fun i h7 hi => by
    rw [bt_eq p i hi]
    have hp : p / 2 ^ i = 0 := by
      apply Int.ediv_eq_zero_of_lt h.1
      have : (2 : Int) ^ 7 ≤ 2 ^ i := by exact_mod_cast Nat.pow_le_pow_right (by omega) h7
      omega
    rw [hp]
    decide
  have hk : ∀ i : Nat, 7 ≤ i → i < 64 → bt (bits .and .i64 p n) i = false := fun i h7 hi => by rw [bt_and, hz i h7 hi]; rfl
  obtain ⟨q, hq⟩ : ∃ q, bits .and .i64 p n = q := ⟨_, rfl⟩
  rw [hq] at hb hk ⊢
  have hm : q = q % 128 := by
    apply bt_ext q (q % 128) hb (by omega)
    intro i hi
    rcases Nat.lt_or_ge i 7 with h7 | h7
    · rw [bt_eq q i hi, bt_eq _ i hi]
      have hi7 : i = 0 ∨ i = 1 ∨ i = 2 ∨ i = 3 ∨ i = 4 ∨ i = 5 ∨ i = 6 := by omega
      rcases hi7 with rfl | rfl | rfl | rfl | rfl | rfl | rfl <;> (congr 1; apply propext; omega)
    · rw [hk i h7 hi, bt_eq _ i hi]
      have : q % 128 / 2 ^ i = 0 := by
        apply Int.ediv_eq_zero_of_lt (by omega)
        have : (2 : Int) ^ 7 ≤ 2 ^ i := by exact_mod_cast Nat.pow_le_pow_right (by omega) h7
        omega
      rw [this]
      decide
  omega
theorem drop_ok {p b l a s n : Int} (h : (dropK p b l a s n).e = 0) : ok (dropK p b l a s n).p (dropK p b l a s n).b (dropK p b l a s n).l (dropK p b l a s n).a (dropK p b l a s n).s := by
  unfold dropK at h ⊢
  by_cases hu : unsE p b l a s = 0
  · rw [if_pos hu] at h ⊢
    obtain ⟨⟨h1, h2, h3, h4, h5, h6, h7, h8, h9⟩, hs⟩ := ok_of_uns hu
    have hb := and_127 p n ⟨h1, h2⟩
    exact ⟨hb.1, hb.2, h3, h4, h5, h6, h7, h8, h9⟩
  · rw [if_neg hu] at h
    exact absurd h hu
theorem seal_cases {p b l a s p' b' l' a' s' : Int} (h : (sealK p b l a s p' b' l' a' s').e = 0) :
    ok p b l a s ∧ ok p' b' l' a' s' ∧ s = 0 ∧ mayE p' b' l' a' s' 32 = 0 ∧ (1 ≤ a' ∧ a' ≤ 63) ∧ sealK p b l a s p' b' l' a' s' = ⟨p, b, l, a, a', 0⟩ := by
  unfold sealK at h ⊢
  rcases @Decidable.em (ok p b l a s ∧ ok p' b' l' a' s') (decBoth p b l a s p' b' l' a' s') with hb | hb
  · rw [if_pos hb] at h ⊢
    split at h
    · rename_i hs
      rw [if_pos hs]
      split at h
      · rename_i hm
        rw [if_pos hm]
        split at h
        · rename_i ha
          rw [if_pos ha]
          exact ⟨hb.1, hb.2, hs, hm, ha, rfl⟩
        · cases h
      · rename_i hm
        exact absurd h hm
    · cases h
  · rw [if_neg hb] at h
    cases h
theorem open_cases {p b l a s p' b' l' a' s' : Int} (h : (openK p b l a s p' b' l' a' s').e = 0) :
    ok p b l a s ∧ ok p' b' l' a' s' ∧ ¬ s = 0 ∧ mayE p' b' l' a' s' 64 = 0 ∧ s = a' ∧ openK p b l a s p' b' l' a' s' = ⟨p, b, l, a, 0, 0⟩ := by
  unfold openK at h ⊢
  rcases @Decidable.em (ok p b l a s ∧ ok p' b' l' a' s') (decBoth p b l a s p' b' l' a' s') with hb | hb
  · rw [if_pos hb] at h ⊢
    split at h
    · cases h
    · rename_i hs
      rw [if_neg hs]
      split at h
      · rename_i hm
        rw [if_pos hm]
        split at h
        · rename_i ha
          rw [if_pos ha]
          exact ⟨hb.1, hb.2, hs, hm, ha, rfl⟩
        · cases h
      · rename_i hm
        exact absurd h hm
  · rw [if_neg hb] at h
    cases h
theorem seal_ok {p b l a s p' b' l' a' s' : Int} (h : (sealK p b l a s p' b' l' a' s').e = 0) : ok (sealK p b l a s p' b' l' a' s').p (sealK p b l a s p' b' l' a' s').b (sealK p b l a s p' b' l' a' s').l (sealK p b l a s p' b' l' a' s').a (sealK p b l a s p' b' l' a' s').s := by
  obtain ⟨⟨h1, h2, h3, h4, h5, h6, h7, h8, h9⟩, _, _, _, ha, e⟩ := seal_cases h
  rw [e]
  refine ⟨h1, h2, h3, h4, h5, h6, h7, ?_, ?_⟩ <;> dsimp only <;> omega
theorem open_ok {p b l a s p' b' l' a' s' : Int} (h : (openK p b l a s p' b' l' a' s').e = 0) : ok (openK p b l a s p' b' l' a' s').p (openK p b l a s p' b' l' a' s').b (openK p b l a s p' b' l' a' s').l (openK p b l a s p' b' l' a' s').a (openK p b l a s p' b' l' a' s').s := by
  obtain ⟨⟨h1, h2, h3, h4, h5, h6, h7, h8, h9⟩, _, _, _, ha, e⟩ := open_cases h
  rw [e]
  refine ⟨h1, h2, h3, h4, h5, h6, h7, ?_, ?_⟩ <;> dsimp only <;> omega
/-- What is known of a machine that may be. -/
structure Good (x : MC) : Prop where
  r8 : x.r.length = 8
  r : chkL x.r = 0
  k : ok5 x.k
  m : memE x.m = 0
  s : stkE x.s = 0
  o : outE x.o = 0
theorem good_of {x : MC} (h8 : x.r.length = 8) (h : mcE x = 0) : Good x := by
  obtain ⟨h1, h2, h3, h4, h5⟩ := mcE_parts h
  exact ⟨h8, h1, ok_of_chk h2, h3, h4, h5⟩
theorem Good.e {x : MC} (h : Good x) : mcE x = 0 := by
  unfold mcE
  have h2 : chk5 x.k = 0 := chk_yes h.k
  rw [if_pos h.r, if_pos h2, if_pos h.m, if_pos h.s]
  exact h.o
theorem keyR_ok {x x' : MC} {a : Int} {K : KK} {n n' : K5} (h : keyR x a K n = .ok x' n') (hK : K.e = 0 → ok K.p K.b K.l K.a K.s) : ∃ v, chk1 v = 0 ∧ x' = putR x a.toNat v ∧ n' = n := by
  unfold keyR at h
  split at h
  · rename_i he
    cases h
    exact ⟨_, chk1_kV (k := ⟨K.p, K.b, K.l, K.a, K.s⟩) (hK he), rfl, rfl⟩
  · cases h
theorem recI_b (o a b : Int) : -2147483648 ≤ recI o a b ∧ recI o a b ≤ 2147483647 := by
  unfold recI
  split
  · exact wb _
  · split
    · exact wb _
    · split
      · exact wb _
      · split
        · unfold divI
          split
          · decide
          · exact wb _
        · unfold lessI
          split <;> decide
theorem calcR_ok {x x' : MC} {i : ID} {n n' : K5} {b c : MV} (h : calcR x i n b c = .ok x' n') : ∃ v, chk1 v = 0 ∧ x' = putR x i.a.toNat v ∧ n' = n := by
  unfold calcR at h
  split at h
  · cases h
  · split at h
    · cases h
    · split at h
      · cases h
      · cases h
        exact ⟨_, chk1_nV (recI_b _ _ _), rfl, rfl⟩
theorem jumpR_ok {x x' : MC} {i : ID} {n n' : K5} (h : jumpR x i n = .ok x' n') : (0 ≤ x.k.a + i.c ∧ x.k.a + i.c ≤ 400) ∧ x' = x ∧ n' = { n with a := x.k.a + i.c } := by
  unfold jumpR at h
  split at h
  · rename_i hb
    cases h
    exact ⟨hb, rfl, rfl⟩
  · cases h
theorem mem_chk {vs : List MV} (h : memE vs = 0) (k : Nat) : chk1 (vs.getD k nil0) = 0 := by
  rw [List.getD_eq_getElem?_getD]
  rcases Nat.lt_or_ge k vs.length with hk | hk
  · rw [List.getElem?_eq_getElem hk]
    exact chkL_all.1 (mem_small h).2 _ (List.getElem_mem _)
  · rw [List.getElem?_eq_none hk]
    exact chk1_nil
theorem loadV_chk {vs : List MV} {k : K5} {off : Int} (h : memE vs = 0) : chk1 (loadV vs k off) = 0 := by
  unfold loadV
  split
  · split
    · exact chk1_nil
    · exact mem_chk h _
  · exact chk1_nil
theorem askI_b {v : MV} (h : chk1 v = 0) (hi : v.i = true) (c : Int) : -2147483648 ≤ askI v c ∧ askI v c ≤ 2147483647 := by
  have := ok5_lit (chk1_key h hi).2
  unfold kOf at this
  dsimp only at this
  unfold askI
  split
  · omega
  · split
    · omega
    · split
      · omega
      · split <;> omega
/-- Whatever it does is one of these. -/
theorem act_eff {x x' : MC} {i : ID} {n n' : K5} (hG : Good x) (hi : okI i) (h : actR x i n = .ok x' n') : Eff x i n x' n' := by
  obtain ⟨⟨o1, o2⟩, a1, a2, b1, b2, c1, c2⟩ := chkD_ok hi
  obtain ⟨c3, c4, c5⟩ := okI_c hi
  obtain ⟨O, hO⟩ := Int.eq_ofNat_of_zero_le o1
  have ra := reg_chk hG.r8 hG.r ⟨a1, a2⟩
  have rb := reg_chk hG.r8 hG.r ⟨b1, b2⟩
  have hO23 : O = 0 ∨ O = 1 ∨ O = 2 ∨ O = 3 ∨ O = 4 ∨ O = 5 ∨ O = 6 ∨ O = 7 ∨ O = 8 ∨ O = 9 ∨ O = 10 ∨ O = 11 ∨ O = 12 ∨ O = 13 ∨ O = 14 ∨ O = 15 ∨ O = 16 ∨ O = 17 ∨ O = 18 ∨ O = 19 ∨ O = 20 ∨ O = 21 ∨ O = 22 := by omega
  unfold actR at h
  rw [hO, Int.toNat_natCast] at h
  rcases hO23 with rfl | rfl | rfl | rfl | rfl | rfl | rfl | rfl | rfl | rfl | rfl | rfl | rfl | rfl | rfl | rfl | rfl | rfl | rfl | rfl | rfl | rfl | rfl
  all_goals simp only at h
  · cases h
  · cases h
    exact .put _ (chk1_nV (by omega)) (by omega)
  · cases h
    exact .put _ rb (by omega)
  · obtain ⟨v, hv, rfl, rfl⟩ := calcR_ok h
    exact .put _ hv (by omega)
  · obtain ⟨v, hv, rfl, rfl⟩ := calcR_ok h
    exact .put _ hv (by omega)
  · obtain ⟨v, hv, rfl, rfl⟩ := calcR_ok h
    exact .put _ hv (by omega)
  · obtain ⟨v, hv, rfl, rfl⟩ := calcR_ok h
    exact .put _ hv (by omega)
  · obtain ⟨v, hv, rfl, rfl⟩ := calcR_ok h
    exact .put _ hv (by omega)
  · obtain ⟨hb, rfl, rfl⟩ := jumpR_ok h
    exact .jump (by omega) hb
  · split at h
    · cases h
    · split at h
      · cases h
        exact .pass (by omega)
      · obtain ⟨hb, rfl, rfl⟩ := jumpR_ok h
        exact .jump (by omega) hb
  · split at h
    · split at h
      · cases h
        exact .put _ (loadV_chk hG.m) (by omega)
      · cases h
    · cases h
  · split at h
    · rename_i hbi
      split at h
      · rename_i he
        cases h
        rw [store_set he]
        exact .store (by omega) hbi he
      · cases h
    · cases h
  · split at h
    · split at h
      · cases h
      · obtain ⟨v, hv, rfl, rfl⟩ := keyR_ok h (by unfold shiftK; split; exact move_ok; exact narrow_ok')
        exact .put _ hv (by omega)
    · cases h
  · split at h
    · split at h
      · cases h
      · obtain ⟨v, hv, rfl, rfl⟩ := keyR_ok h (by unfold shiftK; split; exact move_ok; exact narrow_ok')
        exact .put _ hv (by omega)
    · cases h
  · split at h
    · obtain ⟨v, hv, rfl, rfl⟩ := keyR_ok h drop_ok
      exact .put _ hv (by omega)
    · cases h
  · split at h
    · split at h
      · obtain ⟨v, hv, rfl, rfl⟩ := keyR_ok h seal_ok
        exact .put _ hv (by omega)
      · cases h
    · cases h
  · split at h
    · split at h
      · obtain ⟨v, hv, rfl, rfl⟩ := keyR_ok h open_ok
        exact .put _ hv (by omega)
      · cases h
    · cases h
  · split at h
    · cases h
      exact .put _ (chk1_nV (by split <;> omega)) (by omega)
    · split at h
      · rename_i hbi
        cases h
        exact .put _ (chk1_nV (askI_b rb hbi _)) (by omega)
      · cases h
  · split at h
    · rename_i hai
      split at h
      · rename_i hbi
        split at h
        · rename_i he
          cases h
          exact .call (by omega) hai hbi he
        · cases h
      · cases h
    · cases h
  · split at h
    · cases h
    · rename_i f hf
      cases h
      obtain ⟨hne, hl⟩ := List.getLast?_eq_some_iff.1 hf
      rw [hl]
      simp only [List.dropLast_concat]
      exact .back (by omega) f _ hl
  · cases h
    exact .put _ (chk1_kV hG.k) (by omega)
  · cases h
    exact .clear (by omega)
  · split at h
    · cases h
    · rename_i hai
      split at h
      · cases h
      · rename_i hl
        cases h
        exact .tell (by omega) (by simpa using hai) (by omega)
theorem frsE_all {fs : List FR} : frsE fs = 0 ↔ ∀ f ∈ fs, frE f = 0 := by
  induction fs with
  | nil => exact ⟨fun _ f h => by simp at h, fun _ => rfl⟩
  | cons f fs ih =>
    unfold frsE
    split
    · rename_i h
      rw [ih]
      exact ⟨fun hh u hu => by rcases List.mem_cons.1 hu with rfl | hu; exact h; exact hh u hu, fun hh u hu => hh u (List.mem_cons_of_mem _ hu)⟩
    · rename_i h
      exact ⟨fun hh => absurd hh h, fun hh => absurd (hh f List.mem_cons_self) h⟩
theorem frE_iff {f : FR} : frE f = 0 ↔ ok5 f.c ∧ chk1 f.d = 0 := by
  unfold frE
  rcases chk5_cases f.c with ⟨h, e⟩ | ⟨h, e⟩
  · rw [if_pos e]
    exact ⟨fun hh => ⟨h, hh⟩, fun hh => hh.2⟩
  · rw [if_neg (by rw [e]; decide), e]
    exact ⟨fun hh => (by cases hh), fun hh => absurd hh.1 h⟩
theorem stk_iff {fs : List FR} : stkE fs = 0 ↔ fs.length ≤ 16 ∧ ∀ f ∈ fs, ok5 f.c ∧ chk1 f.d = 0 := by
  unfold stkE
  split
  · rename_i h
    exact ⟨fun hh => (by cases hh), fun hh => by omega⟩
  · rename_i h
    rw [frsE_all]
    exact ⟨fun hh => ⟨by omega, fun f hf => frE_iff.1 (hh f hf)⟩, fun hh f hf => frE_iff.2 (hh.2 f hf)⟩
theorem toldE_all {ns : List Int} : toldE ns = 0 ↔ ∀ n ∈ ns, wrap32 n = n := by
  induction ns with
  | nil => exact ⟨fun _ f h => by simp at h, fun _ => rfl⟩
  | cons f fs ih =>
    unfold toldE
    split
    · rename_i h
      rw [ih]
      exact ⟨fun hh u hu => by rcases List.mem_cons.1 hu with rfl | hu; exact h; exact hh u hu, fun hh u hu => hh u (List.mem_cons_of_mem _ hu)⟩
    · rename_i h
      exact ⟨fun hh => (by cases hh), fun hh => absurd (hh f List.mem_cons_self) h⟩
theorem out_iff {ns : List Int} : outE ns = 0 ↔ ns.length ≤ 100 ∧ ∀ n ∈ ns, wrap32 n = n := by
  unfold outE
  split
  · rename_i h
    exact ⟨fun hh => (by cases hh), fun hh => by omega⟩
  · rename_i h
    rw [toldE_all]
    exact ⟨fun hh => ⟨by omega, hh⟩, fun hh => hh.2⟩
theorem regs_set {r : List MV} {k : Nat} {v : MV} (hr : chkL r = 0) (hv : chk1 v = 0) : chkL (r.set k v) = 0 := by
  rw [chkL_all] at hr ⊢
  intro u hu
  rcases List.mem_or_eq_of_mem_set hu with h | rfl
  · exact hr u h
  · exact hv
theorem clr_chk {c : Int} {r : List MV} (hr : chkL r = 0) (k : Nat) : chkL (clrN c r k) = 0 := by
  induction k with
  | zero => exact hr
  | succ k ih =>
    unfold clrN
    split
    · exact regs_set ih chk1_nil
    · exact ih
theorem open_good {k : K5} (h : ok5 k) : ok5 (open5 k) := by
  obtain ⟨h1, h2, h3, h4, h5, h6, h7, h8, h9⟩ := ok5_lit h
  exact ⟨h1, h2, h3, h4, h5, h6, h7, Int.le_refl _, (by show (0 : Int) ≤ 63; decide)⟩
/-- P19: a machine that may be may be behind the step. -/
theorem eff_good {x x' : MC} {i : ID} {n n' : K5} (hG : Good x) (hi : okI i) (hn : ok5 n) (h : Eff x i n x' n') : Good { x' with k := n' } := by
  obtain ⟨⟨o1, o2⟩, a1, a2, b1, b2, c1, c2⟩ := chkD_ok hi
  have ra := reg_chk hG.r8 hG.r ⟨a1, a2⟩
  have rb := reg_chk hG.r8 hG.r ⟨b1, b2⟩
  have r7 := reg_chk hG.r8 hG.r (k := 7) (by omega)
  cases h with
  | put v hv ho => exact ⟨by show (x.r.set _ _).length = 8; rw [List.length_set]; exact hG.r8, regs_set hG.r hv, hn, hG.m, hG.s, hG.o⟩
  | jump ho hb =>
    obtain ⟨h1, h2, h3, h4, h5, h6, h7, h8, h9⟩ := ok5_lit hn
    exact ⟨hG.r8, hG.r, ⟨h1, h2, h3, h4, h5, hb.1, hb.2, h8, h9⟩, hG.m, hG.s, hG.o⟩
  | pass ho => exact ⟨hG.r8, hG.r, hn, hG.m, hG.s, hG.o⟩
  | store ho hi he => exact ⟨hG.r8, hG.r, hn, mem_set hG.m ra, hG.s, hG.o⟩
  | call ho ha hb he =>
    have k1 := (chk1_key ra ha).2
    have k2 := (chk1_key rb hb).2
    have hl : x.s.length < 16 := by
      unfold callE at he
      split at he
      · cases he
      · split at he
        · cases he
        · split at he
          · cases he
          · omega
    obtain ⟨s1, s2⟩ := stk_iff.1 hG.s
    refine ⟨by show (x.r.set _ _).length = 8; rw [List.length_set]; exact hG.r8, regs_set hG.r (chk1_kV (open_good k2)), open_good k1, hG.m, stk_iff.2 ⟨by show (x.s ++ [_]).length ≤ 16; simp; omega, fun f hf => ?_⟩, hG.o⟩
    rcases List.mem_append.1 hf with hf | hf
    · exact s2 f hf
    · obtain rfl := List.mem_singleton.1 hf
      exact ⟨hn, r7⟩
  | back ho f fs hs =>
    obtain ⟨s1, s2⟩ := stk_iff.1 hG.s
    have hf := s2 f (by rw [hs]; simp)
    refine ⟨by show (x.r.set _ _).length = 8; rw [List.length_set]; exact hG.r8, regs_set hG.r hf.2, hf.1, hG.m, stk_iff.2 ⟨by rw [hs] at s1; simp at s1; show fs.length ≤ 16; omega, fun g hg => s2 g (by rw [hs]; exact List.mem_append_left _ hg)⟩, hG.o⟩
  | clear ho => exact ⟨by show (clrN _ _ _).length = 8; rw [clr_len]; exact hG.r8, clr_chk hG.r 8, hn, hG.m, hG.s, hG.o⟩
  | tell ho hi hl =>
    obtain ⟨s1, s2⟩ := out_iff.1 hG.o
    refine ⟨hG.r8, hG.r, hn, hG.m, hG.s, out_iff.2 ⟨by show (x.o ++ [_]).length ≤ 100; simp; omega, fun m hm => ?_⟩⟩
    rcases List.mem_append.1 hm with hm | hm
    · exact s2 m hm
    · obtain rfl := List.mem_singleton.1 hm
      exact w_in _ (chk1_num ra hi).1
/-- What is known of where it runs. -/
theorem fet_at {x : MC} (hm : memE x.m = 0) (h : fetI x = 0) : x.k.s = 0 ∧ inB 4 x.k.p = true ∧ cov5 x.k x.k.a = true ∧ x.k.a < x.m.length ∧ x.m.length ≤ 400 ∧ (cellAt x).i = false ∧ okI (insAt x) := by
  have ho := fet_ok h
  unfold fetI at h
  split at h
  · rename_i h1
    split at h
    · rename_i h2
      split at h
      · rename_i h3
        split at h
        · cases h
        · rename_i h4
          exact ⟨h1, h2, h3.1, h3.2, (mem_small hm).1, by simpa using h4, ho⟩
      · cases h
    · cases h
  · cases h
theorem next_ok {x : MC} (hG : Good x) (h : fetI x = 0) : ok5 (nextK x) := by
  obtain ⟨_, _, _, h4, h5, _, _⟩ := fet_at hG.m h
  obtain ⟨k1, k2, k3, k4, k5, k6, k7, k8, k9⟩ := ok5_lit hG.k
  refine ⟨k1, k2, k3, k4, k5, ?_, ?_, k8, k9⟩
  · show 0 ≤ x.k.a + 1
    omega
  · show x.k.a + 1 ≤ 400
    omega
/-- A step that is done: what it does. -/
theorem step_eff {x : MC} (h8 : x.r.length = 8) (h : stpE x = 0) : Good x ∧ fetI x = 0 ∧ okI (insAt x) ∧ ∃ x' n', Eff x (insAt x) (nextK x) x' n' ∧ stpM x = { x' with k := n' } ∧ stepA x = .ok x' n' := by
  unfold stpE at h
  split at h
  · rename_i he
    have hG := good_of h8 he
    unfold stpM
    rw [if_pos he]
    cases hA : stepA x with
    | no t =>
      rw [hA] at h
      exact absurd h (step_no hA)
    | ok x' n' =>
      have hA' := hA
      unfold stepA at hA
      split at hA
      · rename_i hf
        exact ⟨hG, hf, fet_ok hf, x', n', act_eff hG (fet_ok hf) hA, rfl, rfl⟩
      · cases hA
  · rename_i he
    exact absurd h he
theorem step_good {x : MC} (h8 : x.r.length = 8) (h : stpE x = 0) : Good (stpM x) := by
  obtain ⟨hG, hf, hi, x', n', hE, e, _⟩ := step_eff h8 h
  rw [e]
  exact eff_good hG hi (next_ok hG hf) hE
theorem stp_no {x : MC} (h : ¬ stpE x = 0) : stpM x = zeroM := by
  unfold stpE at h
  unfold stpM
  split
  · rename_i he
    rw [if_pos he] at h
    cases hA : stepA x with
    | no t => rfl
    | ok x' n' => rw [hA] at h; exact absurd rfl h
  · rfl
theorem stp_r8 {x : MC} (h8 : x.r.length = 8) : (stpM x).r.length = 8 := by
  by_cases h : stpE x = 0
  · exact (step_good h8 h).r8
  · rw [stp_no h]
    rfl
theorem kb_of_ok {k : K5} (h : ok5 k) : k5b k := by
  obtain ⟨h1, h2, h3, h4, h5, h6, h7, h8, h9⟩ := ok5_lit h
  unfold k5b kb
  omega
theorem mv_of_chk {v : MV} (h : chk1 v = 0) : mvOk v := by
  cases hi : v.i
  · obtain ⟨h1, h2, h3, h4, h5, h6⟩ := chk1_num h hi
    unfold mvOk vb kb
    omega
  · obtain ⟨h1, h2⟩ := chk1_key h hi
    have h3 := kb_of_ok h2
    unfold k5b kOf at h3
    exact ⟨by omega, h3⟩
theorem Good.b {x : MC} (h : Good x) : McB x := by
  refine ⟨h.r8, fun v hv => mv_of_chk (chkL_all.1 h.r v hv), kb_of_ok h.k, fun v hv => mv_of_chk (chkL_all.1 (mem_small h.m).2 v hv), fun f hf => ?_, fun n hn => ?_⟩
  · have := (stk_iff.1 h.s).2 f hf
    exact ⟨kb_of_ok this.1, mv_of_chk this.2⟩
  · have h1 := (out_iff.1 h.o).2 n hn
    have h2 := wb n
    unfold nmOk
    omega
end
end Go.Proofs.YtlfeglljpfihhaaGreatDoor
