/- Plain: one block alone is turned, and what else there was stands; the cells of a machine that steps. mem.Load and mem.Store answer what chapter 8 says of them, for whatever memory, key and value, and turn nothing that was in memory. step.fresh: a list of the same values, in memory of its own. -/
import Derived.Test.YtlfeglljpfihhaaGreatDoorRows
import Derived.Test.YtlfeglljpfihhaaGreatDoorCardBaseX
import Derived.Test.YtlfeglljpfihhaaGreatDoorValArgX
import Derived.Test.YtlfeglljpfihhaaGreatDoorMemPureX
import Derived.Test.YtlfeglljpfihhaaGreatDoorInstShapeX
import Derived.Test.YtlfeglljpfihhaaGreatDoorStepRowX
import Derived.Test.YtlfeglljpfihhaaGreatDoorStepChkX
import Derived.WalkKit
import Derived.Below
import Derived.Test.YtlfeglljpfihhaaGreatDoorCellChkX
import Derived.Test.YtlfeglljpfihhaaGreatDoorKeyChkX
import Derived.Test.YtlfeglljpfihhaaGreatDoorKeyCovX
import Derived.Test.YtlfeglljpfihhaaGreatDoorMemChkX
import Derived.ProofKit
import Derived.OpenShut
import Derived.Deep.CutBlock
import Derived.Laws.CopyOwn
import Derived.Laws.OwnMore
import Derived.Laws.Rows
namespace Go.Proofs.YtlfeglljpfihhaaGreatDoor
section
open Go.RowKit
set_option linter.unusedVariables false
set_option maxRecDepth 100000

def stT (i : ID) (n : K5) : List Value := [.int .i64 i.o, .int .i64 i.a, .int .i64 i.b, .int .i64 i.c, .int .i64 n.p, .int .i64 n.b, .int .i64 n.l, .int .i64 n.a, .int .i64 n.s]
/-- The cells of a machine that steps: the machine, its instruction, and the key by which it goes on. -/
def stC (x : MC) (q : MA) (i : ID) (n : K5) : List Value := mcC x q ++ stT i n
/-- It lies in block S. -/
structure St (w : World) (S bb : Nat) (x : MC) (q : MA) (i : ID) (n : K5) : Prop where
  box : Box w S (stC x q i n).toArray
  at_ : McAt w x q
  far : FarM S bb q
  r8 : x.r.length = 8
  lb : bb < w.heap.size
theorem St.below {w w' : World} {S bb : Nat} {x : MC} {q : MA} {i : ID} {n : K5} (h : St w S bb x q i n) (hb : Below w.heap.size w w') : St w' S bb x q i n := ⟨h.box.below hb, h.at_.below hb, h.far, h.r8, Nat.lt_of_lt_of_le h.lb hb.size⟩
theorem St.drew {w : World} {S bb : Nat} {x : MC} {q : MA} {i : ID} {n : K5} (h : St w S bb x q i n) : St w.drew S bb x q i n := h.below (below_drew w)
/-- The cells, one by one. -/
structure StCells (w : World) (S : Nat) (x : MC) (q : MA) (i : ID) (n : K5) : Prop where
  k0 : w.cell? ⟨S, 56, none⟩ = some (.int .i64 x.k.p)
  k1 : w.cell? ⟨S, 57, none⟩ = some (.int .i64 x.k.b)
  k2 : w.cell? ⟨S, 58, none⟩ = some (.int .i64 x.k.l)
  k3 : w.cell? ⟨S, 59, none⟩ = some (.int .i64 x.k.a)
  k4 : w.cell? ⟨S, 60, none⟩ = some (.int .i64 x.k.s)
  lm : w.cell? ⟨S, 61, none⟩ = some (.slice q.m x.m.length q.cm)
  ls : w.cell? ⟨S, 62, none⟩ = some (.slice q.s x.s.length q.cs)
  lo : w.cell? ⟨S, 63, none⟩ = some (.slice q.o x.o.length q.co)
  io : w.cell? ⟨S, 64, none⟩ = some (.int .i64 i.o)
  ia : w.cell? ⟨S, 65, none⟩ = some (.int .i64 i.a)
  ib : w.cell? ⟨S, 66, none⟩ = some (.int .i64 i.b)
  ic : w.cell? ⟨S, 67, none⟩ = some (.int .i64 i.c)
  n0 : w.cell? ⟨S, 68, none⟩ = some (.int .i64 n.p)
  n1 : w.cell? ⟨S, 69, none⟩ = some (.int .i64 n.b)
  n2 : w.cell? ⟨S, 70, none⟩ = some (.int .i64 n.l)
  n3 : w.cell? ⟨S, 71, none⟩ = some (.int .i64 n.a)
  n4 : w.cell? ⟨S, 72, none⟩ = some (.int .i64 n.s)
theorem st_cell {w : World} {S bb : Nat} {x : MC} {q : MA} {i : ID} {n : K5} (h : St w S bb x q i n) (o : Nat) : w.cell? ⟨S, o, none⟩ = (stC x q i n)[o]? := by rw [h.box.cell, List.getElem?_toArray]
theorem st_lo {x : MC} {q : MA} {i : ID} {n : K5} (h8 : x.r.length = 8) {j : Nat} {u : Value} (hj : (mcT x q)[j]? = some u) : (stC x q i n)[56 + j]? = some u := by
  have hl : (x.r.flatMap mvC).length = 56 := by rw [mv_len, h8]
  unfold stC mcC
  rw [List.append_assoc, List.getElem?_append_right (by omega), hl, Nat.add_sub_cancel_left, List.getElem?_append_left (List.getElem?_eq_some_iff.1 hj).1]
  exact hj
theorem st_hi {x : MC} {q : MA} {i : ID} {n : K5} (h8 : x.r.length = 8) {j : Nat} {u : Value} (hj : (stT i n)[j]? = some u) : (stC x q i n)[64 + j]? = some u := by
  unfold stC
  rw [List.getElem?_append_right (by rw [mc_len h8]; omega), mc_len h8, Nat.add_sub_cancel_left]
  exact hj
theorem St.cells {w : World} {S bb : Nat} {x : MC} {q : MA} {i : ID} {n : K5} (h : St w S bb x q i n) : StCells w S x q i n := by
  have g : ∀ j u, (mcT x q)[j]? = some u → w.cell? ⟨S, 56 + j, none⟩ = some u := fun j u hj => by rw [st_cell h]; exact st_lo h.r8 hj
  have f : ∀ j u, (stT i n)[j]? = some u → w.cell? ⟨S, 64 + j, none⟩ = some u := fun j u hj => by rw [st_cell h]; exact st_hi h.r8 hj
  exact ⟨g 0 _ rfl, g 1 _ rfl, g 2 _ rfl, g 3 _ rfl, g 4 _ rfl, g 5 _ rfl, g 6 _ rfl, g 7 _ rfl, f 0 _ rfl, f 1 _ rfl, f 2 _ rfl, f 3 _ rfl, f 4 _ rfl, f 5 _ rfl, f 6 _ rfl, f 7 _ rfl, f 8 _ rfl⟩
theorem St.reg {w : World} {S bb : Nat} {x : MC} {q : MA} {i : ID} {n : K5} {k : Nat} {v : MV} (h : St w S bb x q i n) (hv : x.r[k]? = some v) : At7 w S (k * 7) v := by
  have hk : k < 8 := by have := (List.getElem?_eq_some_iff.1 hv).1; have := h.r8; omega
  have hl : (x.r.flatMap mvC).length = 56 := by rw [mv_len, h.r8]
  have g : ∀ j u, j < 7 → (mvC v)[j]? = some u → w.cell? ⟨S, k * 7 + j, none⟩ = some u := fun j u hj hu => by
    rw [st_cell h]
    unfold stC mcC
    rw [List.append_assoc, List.getElem?_append_left (by omega), mv_cell x.r k v j hv hj]
    exact hu
  exact ⟨g 0 _ (by omega) rfl, g 1 _ (by omega) rfl, g 2 _ (by omega) rfl, g 3 _ (by omega) rfl, g 4 _ (by omega) rfl, g 5 _ (by omega) rfl, g 6 _ (by omega) rfl⟩
/-- One register is another value. -/
theorem set_reg (x : MC) (q : MA) (i : ID) (n : K5) (k : Nat) (v : MV) (h8 : x.r.length = 8) (hk : k < 8) :
    ((((((((stC x q i n).set (k * 7) (.bool v.i)).set (k * 7 + 1) (.int .i64 v.n)).set (k * 7 + 2) (.int .i64 v.p)).set (k * 7 + 3) (.int .i64 v.b)).set (k * 7 + 4) (.int .i64 v.l)).set (k * 7 + 5) (.int .i64 v.a)).set (k * 7 + 6) (.int .i64 v.s)) = stC { x with r := x.r.set k v } q i n := by
  have hl : (x.r.flatMap mvC).length = 56 := by rw [mv_len, h8]
  have e := set_flatM x.r k v (by omega)
  unfold stC mcC mcT
  simp only [List.append_assoc]
  rw [← e]
  have hs : ∀ (A B : List Value) (j : Nat) (u : Value), j < A.length → (A ++ B).set j u = A.set j u ++ B := fun A B j u hj => List.set_append_left _ _ hj
  rw [hs _ _ _ _ (by omega), hs _ _ _ _ (by rw [List.length_set]; omega), hs _ _ _ _ (by simp only [List.length_set]; omega), hs _ _ _ _ (by simp only [List.length_set]; omega), hs _ _ _ _ (by simp only [List.length_set]; omega), hs _ _ _ _ (by simp only [List.length_set]; omega), hs _ _ _ _ (by simp only [List.length_set]; omega)]
end
section
open Go.ChangeShapes Go.WideShapes Go.ChangeAt Go.RowKit
set_option maxRecDepth 100000
set_option linter.unusedSimpArgs false

theorem run_copy_rows {P : Program} (w : World) (dT sT ty elem : TypeId) (size g dLen dCap : Nat) (a : Addr) (sLen sCap n : Nat) (cur : Array Value) (t : TypeId) (cs : List Value)
    (hu : P.underlying dT = some (.slice elem)) (hs : (P.info? elem).map (·.size) = some size)
    (hg : w.heap[g]? = some (.cells cur t (0, 0))) (hn : n = Nat.min sLen dLen) (hcs : cs.length = n * size)
    (hsrc : ∀ j v, cs[j]? = some v → w.cell? (a.add j) = some v) (hfit : cs.length ≤ cur.size) (h1 : ∀ v ∈ cs, v.oneCell' = true) :
    (Builtin.copy_ #[dT, sT] ty #[.slice (some ⟨g, 0, none⟩) dLen dCap, .slice (some a) sLen sCap]).run P w =
      .ok (goInt n) (w.setRow g (cs ++ cur.toList.drop cs.length).toArray) := by
  have hl := run_loadCells_list (P := P) w a cs hsrc
  have hst := run_storeCells_at P g 0 t cs 0 cur w hg (by simpa using hfit) h1
  rw [hcs] at hl
  cases hq : P.info? elem with
  | none => simp [hq] at hs
  | some i =>
    have hi : i.size = size := by simpa [hq] using hs
    simp [Builtin.copy_, run_underlying hu, Builtin.lenOf, Builtin.firstCells, sizeOf, typeInfo, hq, hi, ← hn, hl, hst]
theorem copy_rows {P : Program} (w : World) (dT sT ty elem : TypeId) (size g dLen dCap : Nat) (a : Addr) (sLen sCap n : Nat) (cur : Array Value) (t : TypeId) (cs : List Value)
    (hu : P.underlying dT = some (.slice elem)) (hs : (P.info? elem).map (·.size) = some size)
    (hg : w.heap[g]? = some (.cells cur t (0, 0))) (hn : n = Nat.min sLen dLen) (hcs : cs.length = n * size)
    (hsrc : ∀ j v, cs[j]? = some v → w.cell? (a.add j) = some v) (hfit : cs.length = cur.size) (h1 : ∀ v ∈ cs, v.oneCell' = true) :
    ∃ w', (Builtin.copy_ #[dT, sT] ty #[.slice (some ⟨g, 0, none⟩) dLen dCap, .slice (some a) sLen sCap]).run P w = .ok (goInt n) w' ∧ w'.heap[g]? = some (.cells cs.toArray t (0, 0)) ∧ Below g w w' := by
  have hrun := run_copy_rows (P := P) w dT sT ty elem size g dLen dCap a sLen sCap n cur t cs hu hs hg hn hcs hsrc (by omega) h1
  rw [show cur.toList.drop cs.length = [] from List.drop_of_length_le (by simp [hfit]), List.append_nil] at hrun
  exact ⟨_, hrun, setRow_heap w g _ _ t _ hg, below_setRow (Below.refl _ _) (Nat.le_refl _) _⟩
theorem set_flat (vs : List MV) (k : Nat) (v : MV) (hk : k < vs.length) :
    (((((((vs.flatMap mvC).set (k * 7) (.bool v.i)).set (k * 7 + 1) (.int .i64 v.n)).set (k * 7 + 2) (.int .i64 v.p)).set (k * 7 + 3) (.int .i64 v.b)).set (k * 7 + 4) (.int .i64 v.l)).set (k * 7 + 5) (.int .i64 v.a)).set (k * 7 + 6) (.int .i64 v.s) = (vs.set k v).flatMap mvC := by
  apply List.ext_getElem?
  intro j
  rcases Nat.lt_or_ge j (vs.length * 7) with hj | hj
  · have e : j = j / 7 * 7 + j % 7 := by omega
    have hq : j / 7 < vs.length := by omega
    have h7 : j % 7 < 7 := by omega
    generalize j / 7 = q at *
    generalize j % 7 = r at *
    subst e
    by_cases hqk : q = k
    · subst hqk
      rw [mv_cell (vs.set q v) q v r (by rw [List.getElem?_set_self hq]) h7]
      have hl : q * 7 + 6 < (vs.flatMap mvC).length := by rw [mv_len]; omega
      generalize vs.flatMap mvC = L at *
      have hr : r = 0 ∨ r = 1 ∨ r = 2 ∨ r = 3 ∨ r = 4 ∨ r = 5 ∨ r = 6 := by omega
      rcases hr with rfl | rfl | rfl | rfl | rfl | rfl | rfl 
      · rw [Nat.add_zero]
        repeat rw [List.getElem?_set_ne (by omega)]
        exact List.getElem?_set_self (by omega)
      all_goals
        repeat rw [List.getElem?_set_ne (by omega)]
        exact List.getElem?_set_self (by simp only [List.length_set]; omega)
    · obtain ⟨x, hx⟩ : ∃ x, vs[q]? = some x := ⟨_, List.getElem?_eq_getElem hq⟩
      rw [mv_cell (vs.set k v) q x r (by rw [List.getElem?_set_ne (Ne.symm hqk)]; exact hx) h7]
      repeat rw [List.getElem?_set_ne (by omega)]
      exact mv_cell vs q x r hx h7
  · rw [List.getElem?_eq_none (by simp only [List.length_set]; rw [mv_len]; omega), List.getElem?_eq_none (by rw [mv_len, List.length_set]; omega)]
theorem set_row {w : World} {g o : Nat} {L : List Value} {t : TypeId} (u : Value) (hg : w.heap[g]? = some (.cells L.toArray t (0, 0))) : (w.setCell ⟨g, o, none⟩ u).heap[g]? = some (.cells (L.set o u).toArray t (0, 0)) := by
  rw [setCell_eq_setRow w g o _ t _ u hg, setRow_heap w g _ _ t _ hg]
  simp
theorem vals_row {w : World} {g : Nat} {vs : List MV} {t : TypeId} (hg : w.heap[g]? = some (.cells (vs.flatMap mvC).toArray t (0, 0))) : ValsAt w (some ⟨g, 0, none⟩) vs := by
  refine .inr ⟨g, 0, rfl, (Array.getElem?_eq_some_iff.1 hg).1, fun j u hj => ?_⟩
  rw [cell_of_row w g _ _ t _ hg, Nat.zero_add]
  simpa using hj
theorem frozen_row {w : World} {g o : Nat} {cs : Array Value} {t : TypeId} (hg : w.heap[g]? = some (.cells cs t (0, 0))) : w.frozen? ⟨g, o, none⟩ = false := by simp [World.frozen?, hg]
theorem at7_row {w : World} {g : Nat} {vs : List MV} {t : TypeId} {k : Nat} {v : MV} (hg : w.heap[g]? = some (.cells (vs.flatMap mvC).toArray t (0, 0))) (hk : vs[k]? = some v) : At7 w g (k * 7) v := by
  obtain ⟨B, off, e, _, h⟩ := (vals_row hg).at hk
  injection e with e
  injection e with e1 e2
  subst e1
  subst e2
  rwa [Nat.zero_add] at h
theorem box_low {w w' : World} {k g : Nat} {c : Array Value} (h : Box w k c) (hb : Below g w w') (hk : k < g) : Box w' k c :=
  ⟨Nat.lt_of_lt_of_le h.1 hb.size, fun o => by rw [hb.cell (p := ⟨k, o, none⟩) hk]; exact h.2.1 o, fun o => by rw [hb.frozen (p := ⟨k, o, none⟩) hk]; exact h.2.2 o⟩
theorem info_val : ∃ i, Tryz.prog.info? 25 = some i ∧ i.zero = some (.agg #[.bool false, .int .i64 0, .int .i64 0, .int .i64 0, .int .i64 0, .int .i64 0, .int .i64 0]) ∧ i.size = 7 ∧ i.bytes = 56 := by
  refine ⟨_, rfl, ?_, ?_, ?_⟩ <;> kernel_rfl
set_option maxHeartbeats 2000000 in
theorem mem_with (s : Option Addr) (c : Nat) (vs : List MV) (k : Nat) (v : MV) (w : World) (hA : ValsAt w s vs) (hk : k < vs.length) (hl : vs.length ≤ 400) :
    Calls Tryz.prog 109 #[.slice s vs.length c, .int .i64 (k : Int), .agg (mvA v)] w
      fun e w' => ∃ g, e = .returned (.slice (some ⟨g, 0, none⟩) vs.length vs.length) ∧ Below w.heap.size w w' ∧ w.heap.size ≤ g ∧ ValsAt w' (some ⟨g, 0, none⟩) (vs.set k v) := by
  obtain ⟨i0, hi, hz0, hz1, hz2⟩ := info_val
  unfold mvA
  go_enter Tryz.func109, Tryz.ntmps109
  go_upto_region 1 with fail
  obtain ⟨w1, hw1⟩ : ∃ w1, w1 = w.alloc (.cells #[.bool v.i, .int .i64 v.n, .int .i64 v.p, .int .i64 v.b, .int .i64 v.l, .int .i64 v.a, .int .i64 v.s] 25) := ⟨_, rfl⟩
  rw [← hw1]
  have hr := run_make (P := Tryz.prog) w1 27 25 i0 _ Tryz.underlying27 hi hz0 .i64 .i64 (vs.length : Int) (vs.length : Int) (by omega) (Int.le_refl _) (by rw [hz2]; omega) (by omega)
  have hb1 : Below w.heap.size w w1 := by rw [hw1]; exact (Below.refl _ _).alloc (Nat.le_refl _) _
  have B1 : Box w1 w.heap.size #[.bool v.i, .int .i64 v.n, .int .i64 v.p, .int .i64 v.b, .int .i64 v.l, .int .i64 v.a, .int .i64 v.s] := by rw [hw1]; exact Box.new _ _ _
  have hA1 := hA.below hb1
  clear hw1
  simp only [Int.toNat_natCast, hz1] at hr
  obtain ⟨C, hC⟩ : ∃ C, madeCells (Value.agg #[.bool false, .int .i64 0, .int .i64 0, .int .i64 0, .int .i64 0, .int .i64 0, .int .i64 0]).cells (vs.length * 7) = C := ⟨_, rfl⟩
  have zC : C.size = vs.length * 7 := by rw [← hC]; exact size_madeCells _ _
  rw [hC] at hr
  go_upto_region 2 with fail
  obtain ⟨w2, hw2⟩ : ∃ w2, w2 = w1.alloc (.cells C 25) := ⟨_, rfl⟩
  rw [← hw2]
  have hb2 : Below w1.heap.size w1 w2 := by rw [hw2]; exact (Below.refl _ _).alloc (Nat.le_refl _) _
  have hg2 : w2.heap[w1.heap.size]? = some (.cells C 25 (0, 0)) := by rw [hw2]; exact heap_alloc_new _ _
  have hA2 := hA1.below hb2
  have lt1 := B1.lt
  clear hr hC hw2 hA1
  generalize w1.heap.size = g at *
  rcases hA2 with rfl | ⟨B, off, rfl, hB, hcells⟩
  · simp at hk
  have zm : (vs.flatMap mvC).length = vs.length * 7 := mv_len vs
  have om := mv_one vs
  obtain ⟨v0, hv0⟩ : ∃ v0, vs[k]? = some v0 := ⟨_, List.getElem?_eq_getElem hk⟩
  have kk : (k : Int) < (vs.length : Int) := by omega
  have ne1 : ¬ w.heap.size = g := by omega
  have ne2 : ¬ g = w.heap.size := by omega
  obtain ⟨w3, hc3, hg3, hb3⟩ := copy_rows (P := Tryz.prog) w2 27 27 3 25 7 g vs.length vs.length ⟨B, off, none⟩ vs.length c vs.length C 25 (vs.flatMap mvC) Tryz.underlying27 (by rw [hi]; simp [hz1]) hg2 (by simp) zm (fun j u hj => by rw [addr_add]; exact hcells j u hj) (by rw [zm, zC]) om
  have B3 := box_low B1 (hb2.trans hb3) lt1
  have q3 := B3.cell
  have f3 : ∀ o, w3.frozen? ⟨g, o, none⟩ = false := fun o => frozen_row hg3
  obtain ⟨c0, c1, c2, c3, c4, c5, c6⟩ := at7_row hg3 hv0
  have HG : Hid (w3.heap[g]? = some (.cells (vs.flatMap mvC).toArray 25 (0, 0))) := hg3
  have HB : Hid (Below w.heap.size w w3) := hb1.trans ((hb2.trans hb3).mono (by omega))
  clear hv0 zm hg2 hg3 hcells om zC hA
  go_wp2
  go_ret
  have e := set_flat vs k v hk
  have hg4 := set_row (.int .i64 v.s) (o := k * 7 + 6) (set_row (.int .i64 v.a) (o := k * 7 + 5) (set_row (.int .i64 v.l) (o := k * 7 + 4) (set_row (.int .i64 v.b) (o := k * 7 + 3) (set_row (.int .i64 v.p) (o := k * 7 + 2) (set_row (.int .i64 v.n) (o := k * 7 + 1) (set_row (.bool v.i) (o := k * 7) HG.out))))))
  rw [e] at hg4
  have hle : w.heap.size ≤ g := by omega
  exact ⟨g, rfl, ((((((HB.out.setCell hle _).setCell hle _).setCell hle _).setCell hle _).setCell hle _).setCell hle _).setCell hle _, hle, vals_row hg4⟩
theorem below7 {w w2 : World} {u0 u1 u2 u3 u4 u5 u6 : Value} (hb : Below w.heap.size w w2) : Below w.heap.size w (((((((w2.setCell ⟨w.heap.size + 1, 0, none⟩ u0).setCell ⟨w.heap.size + 1, 1, none⟩ u1).setCell ⟨w.heap.size + 1, 2, none⟩ u2).setCell ⟨w.heap.size + 1, 3, none⟩ u3).setCell ⟨w.heap.size + 1, 4, none⟩ u4).setCell ⟨w.heap.size + 1, 5, none⟩ u5).setCell ⟨w.heap.size + 1, 6, none⟩ u6) := by
  have hle : w.heap.size ≤ w.heap.size + 1 := by omega
  exact ((((((hb.setCell hle _).setCell hle _).setCell hle _).setCell hle _).setCell hle _).setCell hle _).setCell hle _
set_option maxHeartbeats 4000000 in
theorem mem_load (s : Option Addr) (c : Nat) (vs : List MV) (k : K5) (off : Int) (w : World) (hA : ValsAt w s vs) (hn : mvsOk vs) (hk : k5b k) (ho : -9223372036854775808 ≤ off ∧ off ≤ 9223372036854775807) :
    Calls Tryz.prog 81 #[.slice s vs.length c, .agg #[.int .i64 k.p, .int .i64 k.b, .int .i64 k.l, .int .i64 k.a, .int .i64 k.s], .int .i64 off] w
      fun e w' => e = .returned (.tuple #[.agg #[.bool (loadV vs k off).i, .int .i64 (loadV vs k off).n, .int .i64 (loadV vs k off).p, .int .i64 (loadV vs k off).b, .int .i64 (loadV vs k off).l, .int .i64 (loadV vs k off).a, .int .i64 (loadV vs k off).s], .int .i64 (loadE vs k off)]) ∧ Below w.heap.size w w' := by
  have cM := fun w hA => mem_check s c vs w hA hn
  have cP := fun w => mem_place s c vs.length k off 1 w hk ho
  have HA : Hid (∀ w', Below w.heap.size w w' → ValsAt w' s vs) := fun w' hb => hA.below hb
  by_cases hm : memE vs = 0
  · rw [hm] at cM
    by_cases hp : plE vs.length k off 1 = 0
    · have hE : loadE vs k off = 0 := load_mk hm hp
      obtain ⟨_, P⟩ := load_yes hE
      rw [if_pos hp, hp] at cP
      have hlt := P.lt
      obtain ⟨v, hv⟩ : ∃ v, vs[pl k off]? = some v := ⟨_, List.getElem?_eq_getElem hlt⟩
      have hD : vs.getD (pl k off) nil0 = v := by rw [List.getD_eq_getElem?_getD, hv]; rfl
      have hV : loadV vs k off = if v.i = true ∧ inB 8 k.p = false then nil0 else v := by unfold loadV; rw [if_pos hE, hD]
      rw [hE, hV]
      have hl4 := (mem_small hm).1
      have HV : Hid (vs[pl k off]? = some v) := hv
      generalize pl k off = j at *
      have gj : (j : Int) < (vs.length : Int) := by omega
      clear hE hm hp P hD hV hv
      cases hi : v.i
      · rw [if_neg (by simp)]
        go_enter Tryz.func81, Tryz.ntmps81
        go_wp2_with (first | (go_at_call 43; refine (cM _ (HA.out _ (two _ _))).mono ?_; rintro e w1 ⟨rfl, hbb⟩; have B1 := ((Box.new _ _ _).alloc _).below hbb; have B2 := (Box.new1 _ _ _ _).below hbb; have q1 := B1.cell; have q2 := B2.cell; have f2 := B2.free; have hB1 := Below.step0 (two _ _) hbb; clear hbb cM) | (go_at_call 108; refine (cP _).mono ?_; rintro e w2 ⟨rfl, hbb⟩; replace B1 := B1.below hbb; replace B2 := B2.below hbb; replace q1 := B1.cell; replace q2 := B2.cell; replace f2 := B2.free; have hB2 := Below.step0 hB1 hbb; obtain ⟨Bm, om, rfl, hBm, c0, c1, c2, c3, c4, c5, c6⟩ := (HA.out _ hB2).at HV.out; clear hbb cP) | (go_at_call 35; refine (perm_within _ _ _).mono ?_; simp only [hp8]; rintro e w3 ⟨rfl, rfl⟩))
        exact bodyPost_ret (v := .tuple #[.agg #[.bool false, .int .i64 v.n, .int .i64 v.p, .int .i64 v.b, .int .i64 v.l, .int .i64 v.a, .int .i64 v.s], .int .i64 0]) (by simp [results, Tryz.results81, go_sem, q2]) rfl ⟨by rw [hi], below7 hB2⟩
      · cases hp8 : inB 8 k.p
        · rw [if_pos ⟨rfl, rfl⟩]
          go_enter Tryz.func81, Tryz.ntmps81
          go_wp2_with (first | (go_at_call 43; refine (cM _ (HA.out _ (two _ _))).mono ?_; rintro e w1 ⟨rfl, hbb⟩; have B1 := ((Box.new _ _ _).alloc _).below hbb; have B2 := (Box.new1 _ _ _ _).below hbb; have q1 := B1.cell; have q2 := B2.cell; have f2 := B2.free; have hB1 := Below.step0 (two _ _) hbb; clear hbb cM) | (go_at_call 108; refine (cP _).mono ?_; rintro e w2 ⟨rfl, hbb⟩; replace B1 := B1.below hbb; replace B2 := B2.below hbb; replace q1 := B1.cell; replace q2 := B2.cell; replace f2 := B2.free; have hB2 := Below.step0 hB1 hbb; obtain ⟨Bm, om, rfl, hBm, c0, c1, c2, c3, c4, c5, c6⟩ := (HA.out _ hB2).at HV.out; clear hbb cP) | (go_at_call 35; refine (perm_within _ _ _).mono ?_; simp only [hp8]; rintro e w3 ⟨rfl, rfl⟩))
          exact bodyPost_ret (v := .tuple #[.agg #[.bool false, .int .i64 0, .int .i64 0, .int .i64 0, .int .i64 0, .int .i64 0, .int .i64 0], .int .i64 0]) (by simp [results, Tryz.results81, go_sem, q2]) rfl ⟨rfl, below7 hB2⟩
        · rw [if_neg (by simp)]
          go_enter Tryz.func81, Tryz.ntmps81
          go_wp2_with (first | (go_at_call 43; refine (cM _ (HA.out _ (two _ _))).mono ?_; rintro e w1 ⟨rfl, hbb⟩; have B1 := ((Box.new _ _ _).alloc _).below hbb; have B2 := (Box.new1 _ _ _ _).below hbb; have q1 := B1.cell; have q2 := B2.cell; have f2 := B2.free; have hB1 := Below.step0 (two _ _) hbb; clear hbb cM) | (go_at_call 108; refine (cP _).mono ?_; rintro e w2 ⟨rfl, hbb⟩; replace B1 := B1.below hbb; replace B2 := B2.below hbb; replace q1 := B1.cell; replace q2 := B2.cell; replace f2 := B2.free; have hB2 := Below.step0 hB1 hbb; obtain ⟨Bm, om, rfl, hBm, c0, c1, c2, c3, c4, c5, c6⟩ := (HA.out _ hB2).at HV.out; clear hbb cP) | (go_at_call 35; refine (perm_within _ _ _).mono ?_; simp only [hp8]; rintro e w3 ⟨rfl, rfl⟩))
          exact bodyPost_ret (v := .tuple #[.agg #[.bool true, .int .i64 v.n, .int .i64 v.p, .int .i64 v.b, .int .i64 v.l, .int .i64 v.a, .int .i64 v.s], .int .i64 0]) (by simp [results, Tryz.results81, go_sem, q2]) rfl ⟨by rw [hi], below7 hB2⟩
    · have hE : loadE vs k off = plE vs.length k off 1 := by unfold loadE; rw [if_pos hm]
      have hV := load_no (show ¬ loadE vs k off = 0 by rw [hE]; exact hp)
      rw [if_neg hp] at cP
      rw [hE, hV]
      have ge : (plE vs.length k off 1 != 0) = true := by simpa using hp
      generalize plE vs.length k off 1 = E at *
      clear hE hV hp hm
      go_enter Tryz.func81, Tryz.ntmps81
      go_wp2_with (first | (go_at_call 43; refine (cM _ (HA.out _ (two _ _))).mono ?_; rintro e w1 ⟨rfl, hbb⟩; have B1 := ((Box.new _ _ _).alloc _).below hbb; have B2 := (Box.new1 _ _ _ _).below hbb; have q1 := B1.cell; have q2 := B2.cell; have f2 := B2.free; have hB1 := Below.step0 (two _ _) hbb; clear hbb cM) | (go_at_call 108; refine (cP _).mono ?_; rintro e w2 ⟨rfl, hbb⟩; replace B1 := B1.below hbb; replace B2 := B2.below hbb; replace q1 := B1.cell; replace q2 := B2.cell; replace f2 := B2.free; have hB2 := Below.step0 hB1 hbb; clear hbb cP) | (go_at_call 35; refine (perm_within _ _ _).mono ?_; simp only [hp8]; rintro e w3 ⟨rfl, rfl⟩))
      exact bodyPost_ret (v := .tuple #[.agg #[.bool false, .int .i64 0, .int .i64 0, .int .i64 0, .int .i64 0, .int .i64 0, .int .i64 0], .int .i64 E]) (by simp [results, Tryz.results81, go_sem, q2]) rfl ⟨rfl, below7 hB2⟩
  · have hE : loadE vs k off = memE vs := by unfold loadE; rw [if_neg hm]
    have hV := load_no (show ¬ loadE vs k off = 0 by rw [hE]; exact hm)
    rw [hE, hV]
    have ge : (memE vs != 0) = true := by simpa using hm
    generalize memE vs = E at *
    clear hE hV hm
    go_enter Tryz.func81, Tryz.ntmps81
    go_wp2_with (first | (go_at_call 43; refine (cM _ (HA.out _ (two _ _))).mono ?_; rintro e w1 ⟨rfl, hbb⟩; have B1 := ((Box.new _ _ _).alloc _).below hbb; have B2 := (Box.new1 _ _ _ _).below hbb; have q1 := B1.cell; have q2 := B2.cell; have f2 := B2.free; have hB1 := Below.step0 (two _ _) hbb; clear hbb cM) | (go_at_call 108; refine (cP _).mono ?_; rintro e w2 ⟨rfl, hbb⟩; replace B1 := B1.below hbb; replace B2 := B2.below hbb; replace q1 := B1.cell; replace q2 := B2.cell; replace f2 := B2.free; have hB2 := Below.step0 hB1 hbb; clear hbb cP) | (go_at_call 35; refine (perm_within _ _ _).mono ?_; simp only [hp8]; rintro e w3 ⟨rfl, rfl⟩))
    exact bodyPost_ret (v := .tuple #[.agg #[.bool false, .int .i64 0, .int .i64 0, .int .i64 0, .int .i64 0, .int .i64 0, .int .i64 0], .int .i64 E]) (by simp [results, Tryz.results81, go_sem, q2]) rfl ⟨rfl, below7 hB1⟩
set_option maxHeartbeats 4000000 in
theorem mem_store (s : Option Addr) (c : Nat) (vs : List MV) (k : K5) (off : Int) (v : MV) (w : World) (hA : ValsAt w s vs) (hn : mvsOk vs) (hk : k5b k) (ho : -9223372036854775808 ≤ off ∧ off ≤ 9223372036854775807) (hv : mvOk v) :
    Calls Tryz.prog 84 #[.slice s vs.length c, .agg #[.int .i64 k.p, .int .i64 k.b, .int .i64 k.l, .int .i64 k.a, .int .i64 k.s], .int .i64 off, .agg #[.bool v.i, .int .i64 v.n, .int .i64 v.p, .int .i64 v.b, .int .i64 v.l, .int .i64 v.a, .int .i64 v.s]] w
      fun e w' => ∃ a d, e = .returned (.tuple #[.slice a (storeL vs k off v).length d, .int .i64 (storeE vs k off v)]) ∧ Below w.heap.size w w' ∧ ValsAt w' a (storeL vs k off v) ∧ (storeL vs k off v).length ≤ d := by
  have cM := fun w hA => mem_check s c vs w hA hn
  have cV := fun w => cell_check v.i v.n v.p v.b v.l v.a v.s w hv
  have eV : chkV v.i v.n v.p v.b v.l v.a v.s = chk1 v := rfl
  rw [eV] at cV
  have cP := fun w => mem_place s c vs.length k off 2 w hk ho
  have HA : Hid (∀ w', Below w.heap.size w w' → ValsAt w' s vs) := fun w' hb => hA.below hb
  clear eV
  by_cases hm : memE vs = 0
  · rw [hm] at cM
    by_cases hc : chk1 v = 0
    · rw [hc] at cV
      by_cases hp : plE vs.length k off 2 = 0
      · have P := plE_yes hp
        have hlt := P.lt
        rw [if_pos hp, hp] at cP
        have cW := fun w hA => mem_with s c vs (pl k off) v w hA hlt (mem_small hm).1
        unfold mvA at cW
        by_cases hx : v.i = true ∧ inB 16 k.p = false
        · have hE : storeE vs k off v = 12 := by unfold storeE; rw [if_pos hm, if_pos hc, if_pos hp, if_pos hx]
          have hL := store_no (show ¬ storeE vs k off v = 0 by rw [hE]; decide)
          rw [hE, hL]
          obtain ⟨hi, hp16⟩ := hx
          rw [hi] at cV
          generalize pl k off = j at *
          clear hE hL hm hc hp P cW
          go_enter Tryz.func84, Tryz.ntmps84
          go_wp2_with (first | (go_at_call 43; refine (cM _ (HA.out _ (two _ _))).mono ?_; rintro e w1 ⟨rfl, hbb⟩; have B1 := ((Box.new _ _ _).alloc _).below hbb; have B2 := (Box.new1 _ _ _ _).below hbb; have q1 := B1.cell; have q2 := B2.cell; have hB1 := Below.step0 (two _ _) hbb; clear hbb cM) | (go_at_call 41; refine (cV _).mono ?_; rintro e w2 ⟨rfl, hbb⟩; replace B1 := B1.below hbb; replace B2 := B2.below hbb; replace q1 := B1.cell; replace q2 := B2.cell; have hB2 := Below.step0 hB1 hbb; clear hbb cV) | (go_at_call 108; refine (cP _).mono ?_; rintro e w3 ⟨rfl, hbb⟩; replace B1 := B1.below hbb; replace B2 := B2.below hbb; replace q1 := B1.cell; replace q2 := B2.cell; have hB3 := Below.step0 hB2 hbb; clear hbb cP) | (go_at_call 35; refine (perm_within _ _ _).mono ?_; simp only [hp16]; rintro e w4 ⟨rfl, rfl⟩) | (go_at_call 109; refine (cW _ (HA.out _ hB3)).mono ?_; rintro e w5 ⟨g, rfl, hbb, hg, hA5⟩; have hB4 := Below.step0 hB3 hbb; clear hbb cW))
          exact bodyPost_ret (v := .tuple #[.slice none 0 0, .int .i64 12]) (by simp [results, Tryz.results84, go_sem]) rfl ⟨none, 0, rfl, hB3, .inl rfl, Nat.le_refl _⟩
        · have hE : storeE vs k off v = 0 := by unfold storeE; rw [if_pos hm, if_pos hc, if_pos hp, if_neg hx]
          have hL := store_set hE
          rw [hE, hL]
          generalize pl k off = j at *
          clear hE hL hm hc hp P
          cases hi : v.i
          · rw [hi] at cW cV
            go_enter Tryz.func84, Tryz.ntmps84
            go_wp2_with (first | (go_at_call 43; refine (cM _ (HA.out _ (two _ _))).mono ?_; rintro e w1 ⟨rfl, hbb⟩; have B1 := ((Box.new _ _ _).alloc _).below hbb; have B2 := (Box.new1 _ _ _ _).below hbb; have q1 := B1.cell; have q2 := B2.cell; have hB1 := Below.step0 (two _ _) hbb; clear hbb cM) | (go_at_call 41; refine (cV _).mono ?_; rintro e w2 ⟨rfl, hbb⟩; replace B1 := B1.below hbb; replace B2 := B2.below hbb; replace q1 := B1.cell; replace q2 := B2.cell; have hB2 := Below.step0 hB1 hbb; clear hbb cV) | (go_at_call 108; refine (cP _).mono ?_; rintro e w3 ⟨rfl, hbb⟩; replace B1 := B1.below hbb; replace B2 := B2.below hbb; replace q1 := B1.cell; replace q2 := B2.cell; have hB3 := Below.step0 hB2 hbb; clear hbb cP) | (go_at_call 35; refine (perm_within _ _ _).mono ?_; simp only [hp16]; rintro e w4 ⟨rfl, rfl⟩) | (go_at_call 109; refine (cW _ (HA.out _ hB3)).mono ?_; rintro e w5 ⟨g, rfl, hbb, hg, hA5⟩; have hB4 := Below.step0 hB3 hbb; clear hbb cW))
            exact bodyPost_ret (v := .tuple #[.slice (some ⟨g, 0, none⟩) vs.length vs.length, .int .i64 0]) (by simp [results, Tryz.results84, go_sem]) rfl ⟨some ⟨g, 0, none⟩, vs.length, by rw [List.length_set], hB4, hA5, by rw [List.length_set]; exact Nat.le_refl _⟩
          · have hp16 : inB 16 k.p = true := by
              cases h : inB 16 k.p
              · exact absurd ⟨hi, h⟩ hx
              · rfl
            rw [hi] at cW cV
            clear hx
            go_enter Tryz.func84, Tryz.ntmps84
            go_wp2_with (first | (go_at_call 43; refine (cM _ (HA.out _ (two _ _))).mono ?_; rintro e w1 ⟨rfl, hbb⟩; have B1 := ((Box.new _ _ _).alloc _).below hbb; have B2 := (Box.new1 _ _ _ _).below hbb; have q1 := B1.cell; have q2 := B2.cell; have hB1 := Below.step0 (two _ _) hbb; clear hbb cM) | (go_at_call 41; refine (cV _).mono ?_; rintro e w2 ⟨rfl, hbb⟩; replace B1 := B1.below hbb; replace B2 := B2.below hbb; replace q1 := B1.cell; replace q2 := B2.cell; have hB2 := Below.step0 hB1 hbb; clear hbb cV) | (go_at_call 108; refine (cP _).mono ?_; rintro e w3 ⟨rfl, hbb⟩; replace B1 := B1.below hbb; replace B2 := B2.below hbb; replace q1 := B1.cell; replace q2 := B2.cell; have hB3 := Below.step0 hB2 hbb; clear hbb cP) | (go_at_call 35; refine (perm_within _ _ _).mono ?_; simp only [hp16]; rintro e w4 ⟨rfl, rfl⟩) | (go_at_call 109; refine (cW _ (HA.out _ hB3)).mono ?_; rintro e w5 ⟨g, rfl, hbb, hg, hA5⟩; have hB4 := Below.step0 hB3 hbb; clear hbb cW))
            exact bodyPost_ret (v := .tuple #[.slice (some ⟨g, 0, none⟩) vs.length vs.length, .int .i64 0]) (by simp [results, Tryz.results84, go_sem]) rfl ⟨some ⟨g, 0, none⟩, vs.length, by rw [List.length_set], hB4, hA5, by rw [List.length_set]; exact Nat.le_refl _⟩
      · have hE : storeE vs k off v = plE vs.length k off 2 := by unfold storeE; rw [if_pos hm, if_pos hc, if_neg hp]
        have hL := store_no (show ¬ storeE vs k off v = 0 by rw [hE]; exact hp)
        rw [if_neg hp] at cP
        rw [hE, hL]
        have ge : (plE vs.length k off 2 != 0) = true := by simpa using hp
        generalize plE vs.length k off 2 = E at *
        clear hE hL hp hm hc
        go_enter Tryz.func84, Tryz.ntmps84
        go_wp2_with (first | (go_at_call 43; refine (cM _ (HA.out _ (two _ _))).mono ?_; rintro e w1 ⟨rfl, hbb⟩; have B1 := ((Box.new _ _ _).alloc _).below hbb; have B2 := (Box.new1 _ _ _ _).below hbb; have q1 := B1.cell; have q2 := B2.cell; have hB1 := Below.step0 (two _ _) hbb; clear hbb cM) | (go_at_call 41; refine (cV _).mono ?_; rintro e w2 ⟨rfl, hbb⟩; replace B1 := B1.below hbb; replace B2 := B2.below hbb; replace q1 := B1.cell; replace q2 := B2.cell; have hB2 := Below.step0 hB1 hbb; clear hbb cV) | (go_at_call 108; refine (cP _).mono ?_; rintro e w3 ⟨rfl, hbb⟩; replace B1 := B1.below hbb; replace B2 := B2.below hbb; replace q1 := B1.cell; replace q2 := B2.cell; have hB3 := Below.step0 hB2 hbb; clear hbb cP) | (go_at_call 35; refine (perm_within _ _ _).mono ?_; simp only [hp16]; rintro e w4 ⟨rfl, rfl⟩) | (go_at_call 109; refine (cW _ (HA.out _ hB3)).mono ?_; rintro e w5 ⟨g, rfl, hbb, hg, hA5⟩; have hB4 := Below.step0 hB3 hbb; clear hbb cW))
        exact bodyPost_ret (v := .tuple #[.slice none 0 0, .int .i64 E]) (by simp [results, Tryz.results84, go_sem]) rfl ⟨none, 0, rfl, hB3, .inl rfl, Nat.le_refl _⟩
    · have hE : storeE vs k off v = chk1 v := by unfold storeE; rw [if_pos hm, if_neg hc]
      have hL := store_no (show ¬ storeE vs k off v = 0 by rw [hE]; exact hc)
      rw [hE, hL]
      have ge : (chk1 v != 0) = true := by simpa using hc
      generalize chk1 v = E at *
      clear hE hL hm hc
      go_enter Tryz.func84, Tryz.ntmps84
      go_wp2_with (first | (go_at_call 43; refine (cM _ (HA.out _ (two _ _))).mono ?_; rintro e w1 ⟨rfl, hbb⟩; have B1 := ((Box.new _ _ _).alloc _).below hbb; have B2 := (Box.new1 _ _ _ _).below hbb; have q1 := B1.cell; have q2 := B2.cell; have hB1 := Below.step0 (two _ _) hbb; clear hbb cM) | (go_at_call 41; refine (cV _).mono ?_; rintro e w2 ⟨rfl, hbb⟩; replace B1 := B1.below hbb; replace B2 := B2.below hbb; replace q1 := B1.cell; replace q2 := B2.cell; have hB2 := Below.step0 hB1 hbb; clear hbb cV) | (go_at_call 108; refine (cP _).mono ?_; rintro e w3 ⟨rfl, hbb⟩; replace B1 := B1.below hbb; replace B2 := B2.below hbb; replace q1 := B1.cell; replace q2 := B2.cell; have hB3 := Below.step0 hB2 hbb; clear hbb cP) | (go_at_call 35; refine (perm_within _ _ _).mono ?_; simp only [hp16]; rintro e w4 ⟨rfl, rfl⟩) | (go_at_call 109; refine (cW _ (HA.out _ hB3)).mono ?_; rintro e w5 ⟨g, rfl, hbb, hg, hA5⟩; have hB4 := Below.step0 hB3 hbb; clear hbb cW))
      exact bodyPost_ret (v := .tuple #[.slice none 0 0, .int .i64 E]) (by simp [results, Tryz.results84, go_sem]) rfl ⟨none, 0, rfl, hB2, .inl rfl, Nat.le_refl _⟩
  · have hE : storeE vs k off v = memE vs := by unfold storeE; rw [if_neg hm]
    have hL := store_no (show ¬ storeE vs k off v = 0 by rw [hE]; exact hm)
    rw [hE, hL]
    have ge : (memE vs != 0) = true := by simpa using hm
    generalize memE vs = E at *
    clear hE hL hm
    go_enter Tryz.func84, Tryz.ntmps84
    go_wp2_with (first | (go_at_call 43; refine (cM _ (HA.out _ (two _ _))).mono ?_; rintro e w1 ⟨rfl, hbb⟩; have B1 := ((Box.new _ _ _).alloc _).below hbb; have B2 := (Box.new1 _ _ _ _).below hbb; have q1 := B1.cell; have q2 := B2.cell; have hB1 := Below.step0 (two _ _) hbb; clear hbb cM) | (go_at_call 41; refine (cV _).mono ?_; rintro e w2 ⟨rfl, hbb⟩; replace B1 := B1.below hbb; replace B2 := B2.below hbb; replace q1 := B1.cell; replace q2 := B2.cell; have hB2 := Below.step0 hB1 hbb; clear hbb cV) | (go_at_call 108; refine (cP _).mono ?_; rintro e w3 ⟨rfl, hbb⟩; replace B1 := B1.below hbb; replace B2 := B2.below hbb; replace q1 := B1.cell; replace q2 := B2.cell; have hB3 := Below.step0 hB2 hbb; clear hbb cP) | (go_at_call 35; refine (perm_within _ _ _).mono ?_; simp only [hp16]; rintro e w4 ⟨rfl, rfl⟩) | (go_at_call 109; refine (cW _ (HA.out _ hB3)).mono ?_; rintro e w5 ⟨g, rfl, hbb, hg, hA5⟩; have hB4 := Below.step0 hB3 hbb; clear hbb cW))
    exact bodyPost_ret (v := .tuple #[.slice none 0 0, .int .i64 E]) (by simp [results, Tryz.results84, go_sem]) rfl ⟨none, 0, rfl, hB1, .inl rfl, Nat.le_refl _⟩
end
section
open Go.ChangeShapes Go.WideShapes Go.ChangeAt Go.RowKit
set_option linter.unusedSimpArgs false
set_option maxRecDepth 100000

set_option maxHeartbeats 1000000
theorem fresh_vals (s : Option Addr) (c : Nat) (vs : List MV) (w : World) (hA : RowAt w s (vs.flatMap mvC)) (hl : vs.length ≤ 400) :
    Calls Tryz.prog 46 #[.slice s vs.length c] w fun e w' => ∃ g, e = .returned (.slice (some ⟨g, 0, none⟩) vs.length vs.length) ∧ Below w.heap.size w w' ∧ (w.heap.size ≤ g ∧ g < w'.heap.size) ∧ RowAt w' (some ⟨g, 0, none⟩) (vs.flatMap mvC) := by
  obtain ⟨i0, hi, hz0, hz1, hz2⟩ := info_vals
  have hr := run_make (P := Tryz.prog) w 27 25 i0 _ Tryz.underlying27 hi hz0 .i64 .i64 (vs.length : Int) (vs.length : Int) (by omega) (Int.le_refl _) (by rw [hz2]; omega) (by omega)
  simp only [Int.toNat_natCast, hz1] at hr
  obtain ⟨C, hC⟩ : ∃ C, madeCells (Value.cells (.agg #[.bool false, .int .i64 0, .int .i64 0, .int .i64 0, .int .i64 0, .int .i64 0, .int .i64 0])) (vs.length * 7) = C := ⟨_, rfl⟩
  have zC : C.size = vs.length * 7 := by rw [← hC]; exact size_madeCells _ _
  rw [hC] at hr
  have zm : (vs.flatMap mvC).length = vs.length * 7 := mv_len vs
  have om : ∀ u ∈ vs.flatMap mvC, u.oneCell' = true := mv_one vs
  generalize hL : vs.flatMap mvC = L at *
  clear hC
  have hne : w.heap.size ≤ w.heap.size := Nat.le_refl _
  have hg2 : (w.alloc (.cells C 25)).heap[w.heap.size]? = some (.cells C 25 (0, 0)) := heap_alloc_new _ _
  have hb2 : Below w.heap.size w (w.alloc (.cells C 25)) := (Below.refl _ _).alloc (Nat.le_refl _) _
  rcases hA with h0 | ⟨B, off, rfl, hB, hcells⟩
  · have hv0 : vs = [] := by
      rw [h0] at zm
      exact List.length_eq_zero_iff.1 (by simp at zm; omega)
    subst hv0
    have HL : Hid (L = []) := h0
    have hr0 : (Instr.makeSlice 27 (.int .i64 0) (.int .i64 0)).run Tryz.prog w = .ok (.slice (some ⟨w.heap.size, 0, none⟩) 0 0) (w.alloc (.cells C 25)) := hr
    have hcp := fun s => copy_none (P := Tryz.prog) (w.alloc (.cells C 25)) 27 27 3 25 7 w.heap.size s c Tryz.underlying27 (by rw [hi]; simp [hz1])
    clear hg2 om zm hL h0 hi hz0 hr
    cases s
    all_goals
      go_enter Tryz.func46, Tryz.ntmps46
      go_wp2
      go_ret
      refine ⟨w.heap.size, rfl, hb2, ⟨Nat.le_refl _, by simp⟩, .inl HL.out⟩
  · obtain ⟨w3, hc3, hg3, hb3⟩ := copy_rows (P := Tryz.prog) (w.alloc (.cells C 25)) 27 27 3 25 7 w.heap.size vs.length vs.length ⟨B, off, none⟩ vs.length c vs.length C 25 L Tryz.underlying27 (by rw [hi]; simp [hz1]) hg2 (by simp) zm (fun j u hj => by rw [addr_add, hb2.cell (p := ⟨B, off + j, none⟩) hB]; exact hcells j u hj) (by rw [zm, zC]) om
    have HU : Hid (w.heap.size < w3.heap.size) := (Array.getElem?_eq_some_iff.1 hg3).1
    have HW : Hid (Below w.heap.size w w3 ∧ RowAt w3 (some ⟨w.heap.size, 0, none⟩) L) := ⟨hb2.trans hb3, .inr ⟨w.heap.size, 0, rfl, (Array.getElem?_eq_some_iff.1 hg3).1, fun j u hj => by rw [cell_of_row w3 w.heap.size _ _ 25 _ hg3, Nat.zero_add]; simpa using hj⟩⟩
    clear hg2 hg3 hb3 hb2 hcells om zm zC hi hz0 hL
    go_enter Tryz.func46, Tryz.ntmps46
    go_wp2
    go_ret
    exact ⟨w.heap.size, rfl, HW.out.1, ⟨Nat.le_refl _, HU.out⟩, HW.out.2⟩
theorem fresh_frames (s : Option Addr) (c : Nat) (vs : List FR) (w : World) (hA : RowAt w s (vs.flatMap frC)) (hl : vs.length ≤ 16) :
    Calls Tryz.prog 47 #[.slice s vs.length c] w fun e w' => ∃ g, e = .returned (.slice (some ⟨g, 0, none⟩) vs.length vs.length) ∧ Below w.heap.size w w' ∧ (w.heap.size ≤ g ∧ g < w'.heap.size) ∧ RowAt w' (some ⟨g, 0, none⟩) (vs.flatMap frC) := by
  obtain ⟨i0, hi, hz0, hz1, hz2⟩ := info_frames
  have hr := run_make (P := Tryz.prog) w 28 76 i0 _ Tryz.underlying28 hi hz0 .i64 .i64 (vs.length : Int) (vs.length : Int) (by omega) (Int.le_refl _) (by rw [hz2]; omega) (by omega)
  simp only [Int.toNat_natCast, hz1] at hr
  obtain ⟨C, hC⟩ : ∃ C, madeCells (Value.cells (.agg #[.int .i64 0, .int .i64 0, .int .i64 0, .int .i64 0, .int .i64 0, .bool false, .int .i64 0, .int .i64 0, .int .i64 0, .int .i64 0, .int .i64 0, .int .i64 0])) (vs.length * 12) = C := ⟨_, rfl⟩
  have zC : C.size = vs.length * 12 := by rw [← hC]; exact size_madeCells _ _
  rw [hC] at hr
  have zm : (vs.flatMap frC).length = vs.length * 12 := flat_len frC_len vs
  have om : ∀ u ∈ vs.flatMap frC, u.oneCell' = true := fr_one vs
  generalize hL : vs.flatMap frC = L at *
  clear hC
  have hne : w.heap.size ≤ w.heap.size := Nat.le_refl _
  have hg2 : (w.alloc (.cells C 76)).heap[w.heap.size]? = some (.cells C 76 (0, 0)) := heap_alloc_new _ _
  have hb2 : Below w.heap.size w (w.alloc (.cells C 76)) := (Below.refl _ _).alloc (Nat.le_refl _) _
  rcases hA with h0 | ⟨B, off, rfl, hB, hcells⟩
  · have hv0 : vs = [] := by
      rw [h0] at zm
      exact List.length_eq_zero_iff.1 (by simp at zm; omega)
    subst hv0
    have HL : Hid (L = []) := h0
    have hr0 : (Instr.makeSlice 28 (.int .i64 0) (.int .i64 0)).run Tryz.prog w = .ok (.slice (some ⟨w.heap.size, 0, none⟩) 0 0) (w.alloc (.cells C 76)) := hr
    have hcp := fun s => copy_none (P := Tryz.prog) (w.alloc (.cells C 76)) 28 28 3 76 12 w.heap.size s c Tryz.underlying28 (by rw [hi]; simp [hz1])
    clear hg2 om zm hL h0 hi hz0 hr
    cases s
    all_goals
      go_enter Tryz.func47, Tryz.ntmps47
      go_wp2
      go_ret
      refine ⟨w.heap.size, rfl, hb2, ⟨Nat.le_refl _, by simp⟩, .inl HL.out⟩
  · obtain ⟨w3, hc3, hg3, hb3⟩ := copy_rows (P := Tryz.prog) (w.alloc (.cells C 76)) 28 28 3 76 12 w.heap.size vs.length vs.length ⟨B, off, none⟩ vs.length c vs.length C 76 L Tryz.underlying28 (by rw [hi]; simp [hz1]) hg2 (by simp) zm (fun j u hj => by rw [addr_add, hb2.cell (p := ⟨B, off + j, none⟩) hB]; exact hcells j u hj) (by rw [zm, zC]) om
    have HU : Hid (w.heap.size < w3.heap.size) := (Array.getElem?_eq_some_iff.1 hg3).1
    have HW : Hid (Below w.heap.size w w3 ∧ RowAt w3 (some ⟨w.heap.size, 0, none⟩) L) := ⟨hb2.trans hb3, .inr ⟨w.heap.size, 0, rfl, (Array.getElem?_eq_some_iff.1 hg3).1, fun j u hj => by rw [cell_of_row w3 w.heap.size _ _ 76 _ hg3, Nat.zero_add]; simpa using hj⟩⟩
    clear hg2 hg3 hb3 hb2 hcells om zm zC hi hz0 hL
    go_enter Tryz.func47, Tryz.ntmps47
    go_wp2
    go_ret
    exact ⟨w.heap.size, rfl, HW.out.1, ⟨Nat.le_refl _, HU.out⟩, HW.out.2⟩
theorem fresh_ints (s : Option Addr) (c : Nat) (vs : List Int) (w : World) (hA : RowAt w s (vs.map nmC)) (hl : vs.length ≤ 100) :
    Calls Tryz.prog 48 #[.slice s vs.length c] w fun e w' => ∃ g, e = .returned (.slice (some ⟨g, 0, none⟩) vs.length vs.length) ∧ Below w.heap.size w w' ∧ (w.heap.size ≤ g ∧ g < w'.heap.size) ∧ RowAt w' (some ⟨g, 0, none⟩) (vs.map nmC) := by
  obtain ⟨i0, hi, hz0, hz1, hz2⟩ := info_ints
  have hr := run_make (P := Tryz.prog) w 29 3 i0 _ Tryz.underlying29 hi hz0 .i64 .i64 (vs.length : Int) (vs.length : Int) (by omega) (Int.le_refl _) (by rw [hz2]; omega) (by omega)
  simp only [Int.toNat_natCast, hz1] at hr
  obtain ⟨C, hC⟩ : ∃ C, madeCells (Value.cells (.int .i64 0)) (vs.length * 1) = C := ⟨_, rfl⟩
  have zC : C.size = vs.length * 1 := by rw [← hC]; exact size_madeCells _ _
  rw [hC] at hr
  have zm : (vs.map nmC).length = vs.length * 1 := by rw [List.length_map, Nat.mul_one]
  have om : ∀ u ∈ vs.map nmC, u.oneCell' = true := nm_one vs
  generalize hL : vs.map nmC = L at *
  clear hC
  have hne : w.heap.size ≤ w.heap.size := Nat.le_refl _
  have hg2 : (w.alloc (.cells C 3)).heap[w.heap.size]? = some (.cells C 3 (0, 0)) := heap_alloc_new _ _
  have hb2 : Below w.heap.size w (w.alloc (.cells C 3)) := (Below.refl _ _).alloc (Nat.le_refl _) _
  rcases hA with h0 | ⟨B, off, rfl, hB, hcells⟩
  · have hv0 : vs = [] := by
      rw [h0] at zm
      exact List.length_eq_zero_iff.1 (by simp at zm; omega)
    subst hv0
    have HL : Hid (L = []) := h0
    have hr0 : (Instr.makeSlice 29 (.int .i64 0) (.int .i64 0)).run Tryz.prog w = .ok (.slice (some ⟨w.heap.size, 0, none⟩) 0 0) (w.alloc (.cells C 3)) := hr
    have hcp := fun s => copy_none (P := Tryz.prog) (w.alloc (.cells C 3)) 29 29 3 3 1 w.heap.size s c Tryz.underlying29 (by rw [hi]; simp [hz1])
    clear hg2 om zm hL h0 hi hz0 hr
    cases s
    all_goals
      go_enter Tryz.func48, Tryz.ntmps48
      go_wp2
      go_ret
      refine ⟨w.heap.size, rfl, hb2, ⟨Nat.le_refl _, by simp⟩, .inl HL.out⟩
  · obtain ⟨w3, hc3, hg3, hb3⟩ := copy_rows (P := Tryz.prog) (w.alloc (.cells C 3)) 29 29 3 3 1 w.heap.size vs.length vs.length ⟨B, off, none⟩ vs.length c vs.length C 3 L Tryz.underlying29 (by rw [hi]; simp [hz1]) hg2 (by simp) zm (fun j u hj => by rw [addr_add, hb2.cell (p := ⟨B, off + j, none⟩) hB]; exact hcells j u hj) (by rw [zm, zC]) om
    have HU : Hid (w.heap.size < w3.heap.size) := (Array.getElem?_eq_some_iff.1 hg3).1
    have HW : Hid (Below w.heap.size w w3 ∧ RowAt w3 (some ⟨w.heap.size, 0, none⟩) L) := ⟨hb2.trans hb3, .inr ⟨w.heap.size, 0, rfl, (Array.getElem?_eq_some_iff.1 hg3).1, fun j u hj => by rw [cell_of_row w3 w.heap.size _ _ 3 _ hg3, Nat.zero_add]; simpa using hj⟩⟩
    clear hg2 hg3 hb3 hb2 hcells om zm zC hi hz0 hL
    go_enter Tryz.func48, Tryz.ntmps48
    go_wp2
    go_ret
    exact ⟨w.heap.size, rfl, HW.out.1, ⟨Nat.le_refl _, HU.out⟩, HW.out.2⟩
end
end Go.Proofs.YtlfeglljpfihhaaGreatDoor
