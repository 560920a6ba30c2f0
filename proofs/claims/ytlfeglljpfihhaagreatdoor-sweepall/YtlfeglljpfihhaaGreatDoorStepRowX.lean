/- Rows that a call made: where they lie. Plain: a machine in a block of its own: the block alone is turned, loaded, stored; registers read and put. Plain: a machine in a block: its key and its lists are others. package inst: Check, Pack and Read, in one def each: what chapter 6 says of them; they turn nothing that was in memory. -/
import Derived.Test.YtlfeglljpfihhaaGreatDoorRows
import Derived.Test.YtlfeglljpfihhaaGreatDoorCardBaseX
import Derived.Test.YtlfeglljpfihhaaGreatDoorValArgX
import Derived.Test.YtlfeglljpfihhaaGreatDoorMemPureX
import Derived.WalkKit
import Derived.ProofKit
import Derived.OpenShut
import Derived.Laws.OwnMore
import Derived.Laws.Rows
import Derived.Deep.AppendLies
import Derived.Deep.MidRow
import Derived.Test.YtlfeglljpfihhaaGreatDoorStepChkX
import Derived.Below
import Derived.Laws.ResultCell
import Derived.Laws.CopyOwn
import Derived.Test.YtlfeglljpfihhaaGreatDoorInstShapeX
namespace Go.Proofs.YtlfeglljpfihhaaGreatDoor
section
open Go.ChangeShapes Go.WideShapes Go.ChangeAt Go.RowKit
set_option maxRecDepth 100000
theorem info_v : ∃ i, Tryz.prog.info? 25 = some i ∧ i.zero = some (.agg #[.bool false, .int .i64 0, .int .i64 0, .int .i64 0, .int .i64 0, .int .i64 0, .int .i64 0]) ∧ i.size = 7 ∧ i.bytes = 56 := by
  refine ⟨_, rfl, ?_, ?_, ?_⟩ <;> kernel_rfl
theorem own_row {w : World} {base : Nat} {e : TypeId} {size : Nat} {v : Value} {n : Nat} {xs : List Value} (h : w.ownsRow base e size v n xs) : ∃ a c, v = .slice a n c ∧ n ≤ c ∧ RowAt w a xs ∧ (∀ x ∈ a, base ≤ x.block) := by
  obtain ⟨hl, h⟩ := h
  rcases h with ⟨rfl, h0⟩ | ⟨g, cap, cur, rfl, hb, hc, hcap, _, hcur, htk⟩
  · exact ⟨none, 0, by rw [h0], by omega, .inl (List.length_eq_zero_iff.1 (by rw [hl, h0, Nat.zero_mul])), fun x hx => by cases hx⟩
  · refine ⟨_, _, rfl, hcap, .inr ⟨g, 0, rfl, (Array.getElem?_eq_some_iff.1 hc).1, fun j u hj => ?_⟩, fun x hx => by cases hx; exact hb⟩
    rw [Nat.zero_add, World.cell?, hc]
    rw [← htk] at hj
    have hj2 : j < n * size := by
      rcases Nat.lt_or_ge j (n * size) with h1 | h1
      · exact h1
      · rw [List.getElem?_eq_none (by rw [List.length_take]; omega)] at hj; cases hj
    rw [List.getElem?_take_of_lt hj2] at hj
    simpa using hj
theorem row_box {w : World} {g : Nat} {cs : List Value} (hb : Box w g cs.toArray) : RowAt w (some ⟨g, 0, none⟩) cs := by
  refine .inr ⟨g, 0, rfl, hb.lt, fun j u hj => ?_⟩
  rw [Nat.zero_add, hb.cell, List.getElem?_toArray]
  exact hj
theorem one_mv (vs : List MV) : ∀ u ∈ vs.flatMap mvC, u.oneCell' = true := mv_one vs
theorem set_flatM (vs : List MV) (k : Nat) (v : MV) (hk : k < vs.length) :
    (((((((vs.flatMap mvC).set (k * 7) (.bool v.i)).set (k * 7 + 1) (.int .i64 v.n)).set (k * 7 + 2) (.int .i64 v.p)).set (k * 7 + 3) (.int .i64 v.b)).set (k * 7 + 4) (.int .i64 v.l)).set (k * 7 + 5) (.int .i64 v.a)).set (k * 7 + 6) (.int .i64 v.s) = (vs.set k v).flatMap mvC := by
  apply List.ext_getElem?
  intro j
  rcases Nat.lt_or_ge j (vs.length * 7) with hj | hj
  · have e : j = j / 7 * 7 + j % 7 := by omega
    have hq : j / 7 < vs.length := by omega
    have h7 : j % 7 < 7 := by omega
    generalize j / 7 = q at *
    generalize j % 7 = r at *
    subst e
    by_cases hqk : q = k
    · subst hqk
      rw [mv_cell (vs.set q v) q v r (by rw [List.getElem?_set_self hq]) h7]
      have hl : q * 7 + 6 < (vs.flatMap mvC).length := by rw [mv_len]; omega
      generalize vs.flatMap mvC = L at *
      have hr : r = 0 ∨ r = 1 ∨ r = 2 ∨ r = 3 ∨ r = 4 ∨ r = 5 ∨ r = 6 := by omega
      rcases hr with rfl | rfl | rfl | rfl | rfl | rfl | rfl 
      · rw [Nat.add_zero]
        repeat rw [List.getElem?_set_ne (by omega)]
        exact List.getElem?_set_self (by omega)
      all_goals
        repeat rw [List.getElem?_set_ne (by omega)]
        exact List.getElem?_set_self (by simp only [List.length_set]; omega)
    · obtain ⟨x, hx⟩ : ∃ x, vs[q]? = some x := ⟨_, List.getElem?_eq_getElem hq⟩
      rw [mv_cell (vs.set k v) q x r (by rw [List.getElem?_set_ne (Ne.symm hqk)]; exact hx) h7]
      repeat rw [List.getElem?_set_ne (by omega)]
      exact mv_cell vs q x r hx h7
  · rw [List.getElem?_eq_none (by simp only [List.length_set]; rw [mv_len]; omega), List.getElem?_eq_none (by rw [mv_len, List.length_set]; omega)]
end
section
open Go.ChangeShapes Go.WideShapes Go.ChangeAt Go.RowKit
set_option linter.unusedSimpArgs false
set_option linter.unusedVariables false
set_option maxRecDepth 100000

/-- Of what there was in w the block S alone may be another one in w'. -/
structure Off (S : Nat) (w w' : World) : Prop where
  os : w'.os = w.os
  tape : w'.tape = w.tape
  output : w'.output = w.output
  size : w.heap.size ≤ w'.heap.size
  block : ∀ k, k < w.heap.size → k ≠ S → w'.heap[k]? = w.heap[k]?
theorem Off.refl (S : Nat) (w : World) : Off S w w := ⟨rfl, rfl, rfl, Nat.le_refl _, fun _ _ _ => rfl⟩
theorem Off.trans {S : Nat} {a b c : World} (h : Off S a b) (k : Off S b c) : Off S a c :=
  ⟨k.os.trans h.os, k.tape.trans h.tape, k.output.trans h.output, Nat.le_trans h.size k.size, fun i hi hn => (k.block i (Nat.lt_of_lt_of_le hi h.size) hn).trans (h.block i hi hn)⟩
theorem Off.below {S : Nat} {a b c : World} (h : Off S a b) (k : Below b.heap.size b c) : Off S a c :=
  h.trans ⟨k.os, k.tape, k.output, k.size, fun i hi _ => k.block i hi⟩
theorem Off.drew {S : Nat} {a b : World} (h : Off S a b) : Off S a b.drew := ⟨h.os, h.tape, h.output, h.size, h.block⟩
theorem Off.alloc {S : Nat} {a b : World} (h : Off S a b) (o : Obj) : Off S a (b.alloc o) := h.below ((Below.refl _ _).alloc (Nat.le_refl _) o)
theorem Off.set {S : Nat} {a b : World} (h : Off S a b) (o : Nat) (u : Value) : Off S a (b.setCell ⟨S, o, none⟩ u) :=
  h.trans ⟨rfl, rfl, rfl, by simp [World.setCell], fun k _ hn => Below.heap_setCell _ _ _ _ hn⟩
/-- A store into a block that was not there. -/
theorem Off.setNew {S : Nat} {a b : World} (h : Off S a b) {p : Addr} (hp : a.heap.size ≤ p.block) (u : Value) : Off S a (b.setCell p u) :=
  ⟨h.os, h.tape, h.output, by simpa [World.setCell] using h.size, fun k hk hn => by rw [Below.heap_setCell _ _ _ _ (by omega)]; exact h.block k hk hn⟩
theorem Off.to {S n : Nat} {a b : World} (h : Off S a b) (hn : n ≤ S) (hS : S ≤ a.heap.size) : Below n a b := ⟨h.os, h.tape, h.output, h.size, fun k hk => h.block k (by omega) (by omega)⟩
theorem Off.box {S k : Nat} {a b : World} {c : Array Value} (h : Off S a b) (hb : Box a k c) (hk : k ≠ S) : Box b k c := by
  have e := h.block k hb.lt hk
  refine ⟨Nat.lt_of_lt_of_le hb.1 h.size, fun o => ?_, fun o => ?_⟩
  · rw [World.cell?_of_block (w := a) (a := ⟨k, o, none⟩) e]; exact hb.2.1 o
  · rw [World.frozen?_of_block (w := a) (a := ⟨k, o, none⟩) e]; exact hb.2.2 o
def Far (S bb : Nat) (a : Option Addr) : Prop := ∀ x ∈ a, x.block ≠ S ∧ bb < x.block
theorem Off.row {S bb : Nat} {a b : World} {p : Option Addr} {cs : List Value} (h : Off S a b) (hr : RowAt a p cs) (hf : Far S bb p) : RowAt b p cs := by
  rcases hr with h0 | ⟨B, off, rfl, hB, hc⟩
  · exact .inl h0
  · have hne : B ≠ S := (hf ⟨B, off, none⟩ rfl).1
    refine .inr ⟨B, off, rfl, Nat.lt_of_lt_of_le hB h.size, fun j u hj => ?_⟩
    rw [World.cell?_of_block (w := a) (a := ⟨B, off + j, none⟩) (h.block B hB hne)]
    exact hc j u hj
structure FarM (S bb : Nat) (q : MA) : Prop where
  m : Far S bb q.m
  s : Far S bb q.s
  o : Far S bb q.o
theorem Off.mc {S bb : Nat} {a b : World} {x : MC} {q : MA} (h : Off S a b) (hr : McAt a x q) (hf : FarM S bb q) : McAt b x q :=
  ⟨RowAt.vals (h.row hr.m.row hf.m), h.row hr.s hf.s, h.row hr.o hf.o, hr.c⟩
theorem Box.drew {w : World} {k : Nat} {c : Array Value} (h : Box w k c) : Box w.drew k c := ⟨h.1, h.2.1, h.2.2⟩
theorem below_drew (w : World) : Below w.heap.size w w.drew := (Below.refl _ _).drew
theorem mc_len {x : MC} {q : MA} (h8 : x.r.length = 8) : (mcC x q).length = 64 := by
  unfold mcC
  rw [List.length_append, mv_len, h8]
  rfl
theorem Box.setL {w : World} {k : Nat} {L : List Value} {j : Nat} {v : Value} (h : Box w k L.toArray) (hj : j < L.length) : Box (w.setCell ⟨k, j, none⟩ v) k (L.set j v).toArray := by
  have hc : w.cell? ⟨k, j, none⟩ = some (L[j]'hj) := by rw [h.cell, List.getElem?_toArray]; exact List.getElem?_eq_getElem hj
  refine ⟨by simpa [World.setCell] using h.lt, fun o => ?_, fun o => ?_⟩
  · rw [List.getElem?_toArray]
    by_cases e : j = o
    · subst e
      rw [World.cell?_setCell_same _ _ _ hc, List.getElem?_set_self hj]
    · rw [World.cell?_setCell_other _ _ _ _ (fun x => e (by injection x)), List.getElem?_set_ne e, h.cell, List.getElem?_toArray]
  · rw [World.frozen?_setCell]
    exact h.free o
theorem box_range {w : World} {k : Nat} {cs : List Value} (h : Box w k cs.toArray) : w.rangeAt k 0 cs := fun j u hj => by
  rw [Nat.zero_add, h.cell, List.getElem?_toArray]
  exact hj
theorem box_there {w : World} {k n : Nat} {c : Array Value} (h : Box w k c) (hn : c.size = n) : w.there k 0 n := fun j hj => by
  rw [Nat.zero_add, h.cell]
  exact ⟨by rw [Array.getElem?_eq_getElem (by omega)]; rfl, h.free j⟩
theorem below_cells {B : Nat} {a : World} (b : Nat) : ∀ (vs : List Value) (o : Nat) (w : World), Below B a w → B ≤ b → Below B a (w.setCells b o vs)
  | [], _, _, h, _ => h
  | v :: r, o, w, h, hb => by
    rw [World.setCells]
    exact below_cells b r (o + 1) _ (h.setCell (p := ⟨b, o, none⟩) hb _) hb
theorem size_cells (b : Nat) : ∀ (vs : List Value) (o : Nat) (w : World), (w.setCells b o vs).heap.size = w.heap.size
  | [], _, _ => rfl
  | v :: r, o, w => by
    rw [World.setCells, size_cells b r (o + 1) _]
    simp [World.setCell]
theorem box_cells {w : World} {k : Nat} {c : Array Value} {cs : List Value} (h : Box w k c) (hn : c.size = cs.length) : Box (w.setCells k 0 cs) k cs.toArray := by
  refine ⟨by rw [size_cells]; exact h.lt, fun o => ?_, fun o => by rw [World.frozen?_setCells]; exact h.free o⟩
  rw [List.getElem?_toArray]
  by_cases ho : o < cs.length
  · have := World.cell?_setCells_in k cs 0 w (fun i hi => by rw [Nat.zero_add, h.cell, Array.getElem?_eq_getElem (by omega)]; rfl) o ho
    rw [Nat.zero_add] at this
    rw [this, List.getElem?_eq_getElem ho]
  · rw [World.cell?_setCells_out k cs 0 w ⟨k, o, none⟩ (fun _ _ => by right; show 0 + cs.length ≤ o; omega), h.cell, Array.getElem?_eq_none (by omega), List.getElem?_eq_none (by omega)]
theorem Box.setL' {w : World} {k : Nat} {L : List Value} {j : Nat} {v : Value} (h : Box w k L.toArray) (hj : j < L.length) : Box (w.setCell ⟨k, j, none⟩ v) k (L.set j v).toArray := by
  have hc : w.cell? ⟨k, j, none⟩ = some (L[j]'hj) := by rw [h.cell, List.getElem?_toArray]; exact List.getElem?_eq_getElem hj
  refine ⟨by simpa [World.setCell] using h.lt, fun o => ?_, fun o => ?_⟩
  · rw [List.getElem?_toArray]
    by_cases e : j = o
    · subst e
      rw [World.cell?_setCell_same _ _ _ hc, List.getElem?_set_self hj]
    · rw [World.cell?_setCell_other _ _ _ _ (fun x => e (by injection x)), List.getElem?_set_ne e, h.cell, List.getElem?_toArray]
  · rw [World.frozen?_setCell]
    exact h.free o
theorem Box.aside' {w : World} {k : Nat} {c : Array Value} (h : Box w k c) {p : Addr} (hp : p.block ≠ k) (u : Value) : Box (w.setCell p u) k c :=
  ⟨by simpa [World.setCell] using h.1, fun o => by rw [World.cell?_setCell_other _ _ _ _ (fun e => hp (by rw [e]))]; exact h.2.1 o, fun o => by rw [World.frozen?_setCell]; exact h.2.2 o⟩
theorem row_set {w : World} {g k o : Nat} {cs : List Value} (h : RowAt w (some ⟨g, 0, none⟩) cs) (hp : g ≠ k) (u : Value) : RowAt (w.setCell ⟨k, o, none⟩ u) (some ⟨g, 0, none⟩) cs := by
  rcases h with h | ⟨B, off, e, hB, hc⟩
  · exact .inl h
  · injection e with e
    injection e with e1 e2
    subst e1
    refine .inr ⟨g, off, by rw [← e2], by simpa [World.setCell] using hB, fun j u' hj => ?_⟩
    rw [World.cell?_setCell_other _ _ _ _ (fun e => hp (by injection e with e _ _; exact e.symm))]
    exact hc j u' hj
theorem three_rows {w : World} {b g : Nat} {cs : List Value} (hg : b + 1 < g) (h : RowAt w (some ⟨g, 0, none⟩) cs) (u1 u2 u3 : Value) : RowAt (((w.setCell ⟨b, 61, none⟩ u1).setCell ⟨b, 62, none⟩ u2).setCell ⟨b, 63, none⟩ u3) (some ⟨g, 0, none⟩) cs :=
  row_set (row_set (row_set h (by omega) _) (by omega) _) (by omega) _
theorem rows_cells {w : World} {b g : Nat} {cs : List Value} (hg : b + 1 < g) (h : RowAt w (some ⟨g, 0, none⟩) cs) (vs : List Value) : RowAt (w.setCells (b + 1) 0 vs) (some ⟨g, 0, none⟩) cs := by
  rcases h with h | ⟨B, off, e, hB, hc⟩
  · exact .inl h
  · injection e with e
    injection e with e1 e2
    subst e1
    refine .inr ⟨g, off, by rw [← e2], by rw [size_cells]; exact hB, fun j u' hj => ?_⟩
    rw [World.cell?_setCells_out (b + 1) vs 0 w ⟨g, off + j, none⟩ (fun e _ => by have e' : g = b + 1 := e; omega)]
    exact hc j u' hj
theorem mc_one (x : MC) (q : MA) : ∀ u ∈ mcC x q, u.oneCell' = true := fun u hu => by
  unfold mcC at hu
  rcases List.mem_append.1 hu with h | h
  · exact mv_one _ u h
  · simp only [mcT, List.mem_cons, List.not_mem_nil, or_false] at h
    rcases h with rfl | rfl | rfl | rfl | rfl | rfl | rfl | rfl <;> rfl
theorem mc_length {x : MC} {q : MA} (h8 : x.r.length = 8) : (mcC x q).length = 64 := by
  unfold mcC
  rw [List.length_append, mv_len, h8]
  rfl
theorem mc_sets {x : MC} {q : MA} (h8 : x.r.length = 8) (a b c : Option Addr) (l m n : Nat) : (((mcC x q).set 61 (.slice a x.m.length l)).set 62 (.slice b x.s.length m)).set 63 (.slice c x.o.length n) = mcC x ⟨a, l, b, m, c, n⟩ := by
  have hl : (x.r.flatMap mvC).length = 56 := by rw [mv_len, h8]
  unfold mcC
  rw [List.set_append_right _ _ (by omega), List.set_append_right _ _ (by omega), List.set_append_right _ _ (by omega), hl]
  rfl
theorem info_mach : (Tryz.prog.info? 31).map (·.size) = some 64 := by kernel_rfl
theorem info_vals : ∃ i, Tryz.prog.info? 25 = some i ∧ i.zero = some (.agg #[.bool false, .int .i64 0, .int .i64 0, .int .i64 0, .int .i64 0, .int .i64 0, .int .i64 0]) ∧ i.size = 7 ∧ i.bytes = 56 := by
  refine ⟨_, rfl, ?_, ?_, ?_⟩ <;> kernel_rfl
theorem info_frames : ∃ i, Tryz.prog.info? 76 = some i ∧ i.zero = some (.agg #[.int .i64 0, .int .i64 0, .int .i64 0, .int .i64 0, .int .i64 0, .bool false, .int .i64 0, .int .i64 0, .int .i64 0, .int .i64 0, .int .i64 0, .int .i64 0]) ∧ i.size = 12 ∧ i.bytes = 96 := by
  refine ⟨_, rfl, ?_, ?_, ?_⟩ <;> kernel_rfl
theorem info_ints : ∃ i, Tryz.prog.info? 3 = some i ∧ i.zero = some (.int .i64 0) ∧ i.size = 1 ∧ i.bytes = 8 := by
  refine ⟨_, rfl, ?_, ?_, ?_⟩ <;> kernel_rfl
theorem fr_one (fs : List FR) : ∀ u ∈ fs.flatMap frC, u.oneCell' = true := fun u hu => by
  obtain ⟨f, _, hv⟩ := List.mem_flatMap.1 hu
  simp only [frC, List.mem_cons, List.not_mem_nil, or_false] at hv
  rcases hv with rfl | rfl | rfl | rfl | rfl | rfl | rfl | rfl | rfl | rfl | rfl | rfl <;> rfl
theorem nm_one (ns : List Int) : ∀ u ∈ ns.map nmC, u.oneCell' = true := fun u hu => by
  obtain ⟨n, _, rfl⟩ := List.mem_map.1 hu
  rfl
theorem copy_none {P : Program} (w : World) (dT sT ty elem : TypeId) (size g : Nat) (s : Option Addr) (c : Nat) (hu : P.underlying dT = some (.slice elem)) (hs : (P.info? elem).map (·.size) = some size) :
    (Builtin.copy_ #[dT, sT] ty #[.slice (some ⟨g, 0, none⟩) 0 0, .slice s 0 c]).run P w = .ok (goInt 0) w := by
  cases hq : P.info? elem with
  | none => simp [hq] at hs
  | some i =>
    cases s <;> simp [Builtin.copy_, run_underlying hu, Builtin.lenOf, Builtin.firstCells, sizeOf, typeInfo, hq, loadCells, loadCellsFrom, storeCells]
def zeroM : MC := ⟨[nil0, nil0, nil0, nil0, nil0, nil0, nil0, nil0], ⟨0, 0, 0, 0, 0⟩, [], [], []⟩
def zeroA : MA := ⟨none, 0, none, 0, none, 0⟩
/-- Its lists lie from block b on. -/
structure FreshQ (b : Nat) (q : MA) : Prop where
  m : ∀ y ∈ q.m, b ≤ y.block
  s : ∀ y ∈ q.s, b ≤ y.block
  o : ∀ y ∈ q.o, b ≤ y.block
theorem fresh_zero (b : Nat) : FreshQ b zeroA := ⟨fun y hy => (by cases hy), fun y hy => (by cases hy), fun y hy => (by cases hy)⟩
def vK (v : MV) : K5 := ⟨v.p, v.b, v.l, v.a, v.s⟩
def key0 : K5 := ⟨0, 0, 0, 0, 0⟩
def nV (m : Int) : MV := ⟨false, m, 0, 0, 0, 0, 0⟩
def kV (k : K5) : MV := ⟨true, 0, k.p, k.b, k.l, k.a, k.s⟩
def putR (x : MC) (k : Nat) (v : MV) : MC := { x with r := x.r.set k v }
section
variable {n : Nat} {P : Program} {ops : Array Oper} {rest : List Oper} {o : Oper} {a : Act} {w : World} {Q : Exit → Act → World → Prop}
theorem at_load {d : Option Tmp} {t : TypeId} {p : String} {af : Array Edge} {g : Option (Nat × Bool)} {ty : TypeId} {x : Operand} (h : wpList P ops Q ({ dst := d, op := .load ty x, type := t, pos := p, after := af, guard := g } :: rest) a w) : wpList P ops Q ({ dst := d, op := .load ty x, type := t, pos := p, after := af, guard := g } :: rest) a w := h
theorem at_store {d : Option Tmp} {t : TypeId} {p : String} {af : Array Edge} {g : Option (Nat × Bool)} {ty : TypeId} {x y : Operand} (h : wpList P ops Q ({ dst := d, op := .store ty x y, type := t, pos := p, after := af, guard := g } :: rest) a w) : wpList P ops Q ({ dst := d, op := .store ty x y, type := t, pos := p, after := af, guard := g } :: rest) a w := h
theorem at_alloc {d : Option Tmp} {t : TypeId} {p : String} {af : Array Edge} {g : Option (Nat × Bool)} {ty : TypeId} (h : wpList P ops Q ({ dst := d, op := .alloc ty, type := t, pos := p, after := af, guard := g } :: rest) a w) : wpList P ops Q ({ dst := d, op := .alloc ty, type := t, pos := p, after := af, guard := g } :: rest) a w := h
theorem pl_load_box (hg : Region.wanted o (yielded ops a.tmps) = true) (ty : TypeId) (x : Operand) (ho : o.op = .load ty x) (k : Nat) (hx : a.eval x = .pointer (some ⟨k, 0, none⟩)) (L : List Value) (hb : Box w k L.toArray) (d : TypeDesc)
    (hu : P.underlying ty = some d) (hd : d.isRow = true) (hi : (P.info? ty).map (·.size) = some L.length)
    (h : wpList P ops Q rest (a.put o.dst (.agg L.toArray)) w) : wpList P ops Q (o :: rest) a w :=
  BigFrame.wpList_want hg fun _ hK => wp_load_mid ty x ho k 0 hx L d (box_range hb) hu hd hi (hK _ _ h)
theorem pl_store_box (hg : o.guard = none) (ty : TypeId) (x y : Operand) (ho : o.op = .store ty x y) (k : Nat) (L : List Value) (hx : a.eval x = .pointer (some ⟨k, 0, none⟩)) (hy : a.eval y = .agg L.toArray) (Z : Array Value) (hb : Box w k Z) (hz : Z.size = L.length)
    (hi : (P.info? ty).map (·.size) = some L.length) (h1 : ∀ u ∈ L, u.oneCell' = true)
    (h : Box (w.setCells k 0 L) k L.toArray → wpList P ops Q rest (a.put o.dst undef) (w.setCells k 0 L)) : wpList P ops Q (o :: rest) a w :=
  wpList_plain hg fun _ hK => wp_store_mid ty x y ho k 0 L.toArray hx hy (box_there hb (by rw [hz, List.size_toArray])) (by rw [List.size_toArray]; exact hi) (all_oneCell_toArray h1) (hK _ _ (h (box_cells hb hz)))
end
theorem wpList_alloc1 {ops : Array Oper} {rest : List Oper} {o : Oper} {a : Act} {w w' : World} {Q : Exit → Act → World → Prop} (hg : o.guard = none) (ty : TypeId) (ho : o.op = .alloc ty) (v : Value) (hr : (Instr.alloc ty true (.tuple #[])).run Tryz.prog w = .ok v w')
    (h : wpList Tryz.prog ops Q rest (a.put o.dst v) w') : wpList Tryz.prog ops Q (o :: rest) a w :=
  wpList_plain hg fun K hK => by
    unfold Oper.wp
    simp [execOp, ho, hr, Result.andThen]
    exact hK _ _ h
def z64 : List Value := mcC zeroM zeroA
theorem z64_len : z64.length = 64 := rfl
theorem alloc_mach (w : World) : (Instr.alloc 31 true (.tuple #[])).run Tryz.prog w = .ok (.pointer (some ⟨w.heap.size, 0, none⟩)) (w.alloc (.cells z64.toArray 31)) := by
  kernel_rfl
theorem mach_info {x : MC} {q : MA} (h8 : x.r.length = 8) : (Tryz.prog.info? 31).map (·.size) = some (mcC x q).length := by rw [mc_length h8]; exact info_mach
theorem Off.cells {S : Nat} {a : World} (k : Nat) : ∀ (vs : List Value) (o : Nat) (w : World), Off S a w → (k = S ∨ a.heap.size ≤ k) → Off S a (w.setCells k o vs)
  | [], _, _, h, _ => h
  | v :: r, o, w, h, hk => Off.cells k r (o + 1) _ (by rcases hk with rfl | hk; exact h.set o v; exact h.setNew (p := ⟨k, o, none⟩) hk v) hk
theorem set_regM (x : MC) (q : MA) (k : Nat) (v : MV) (h8 : x.r.length = 8) (hk : k < 8) :
    ((((((((mcC x q).set (k * 7) (.bool v.i)).set (k * 7 + 1) (.int .i64 v.n)).set (k * 7 + 2) (.int .i64 v.p)).set (k * 7 + 3) (.int .i64 v.b)).set (k * 7 + 4) (.int .i64 v.l)).set (k * 7 + 5) (.int .i64 v.a)).set (k * 7 + 6) (.int .i64 v.s)) = mcC (putR x k v) q := by
  have hl : (x.r.flatMap mvC).length = 56 := by rw [mv_len, h8]
  have e := set_flatM x.r k v (by omega)
  unfold mcC mcT putR
  rw [← e]
  have hs : ∀ (A B : List Value) (j : Nat) (u : Value), j < A.length → (A ++ B).set j u = A.set j u ++ B := fun A B j u hj => List.set_append_left _ _ hj
  rw [hs _ _ _ _ (by omega), hs _ _ _ _ (by rw [List.length_set]; omega), hs _ _ _ _ (by simp only [List.length_set]; omega), hs _ _ _ _ (by simp only [List.length_set]; omega), hs _ _ _ _ (by simp only [List.length_set]; omega), hs _ _ _ _ (by simp only [List.length_set]; omega), hs _ _ _ _ (by simp only [List.length_set]; omega)]
theorem put_r8 {x : MC} {k : Nat} {v : MV} (h8 : x.r.length = 8) : (putR x k v).r.length = 8 := by
  unfold putR
  rw [List.length_set]
  exact h8
theorem mc_len64 {x : MC} {q : MA} (h8 : x.r.length = 8) : (mcC x q).length = 64 := by
  unfold mcC
  rw [List.length_append, mv_len, h8]
  rfl
section
variable {w : World} {S : Nat} {x : MC} {q : MA} {k : Nat}
theorem box_put (h : Box w S (mcC x q).toArray) (h8 : x.r.length = 8) (hk : k < 8) (u : MV) : Box (w.setCells S (k * 7) (mvC u)) S (mcC (putR x k u) q).toArray := by
  have hl := mc_len64 (q := q) h8
  have b := ((((((h.setL (v := .bool u.i) (j := k * 7) (by omega)).setL (v := .int .i64 u.n) (j := k * 7 + 1) (by simp only [List.length_set]; omega)).setL (v := .int .i64 u.p) (j := k * 7 + 2) (by simp only [List.length_set]; omega)).setL (v := .int .i64 u.b) (j := k * 7 + 3) (by simp only [List.length_set]; omega)).setL (v := .int .i64 u.l) (j := k * 7 + 4) (by simp only [List.length_set]; omega)).setL (v := .int .i64 u.a) (j := k * 7 + 5) (by simp only [List.length_set]; omega)).setL (v := .int .i64 u.s) (j := k * 7 + 6) (by simp only [List.length_set]; omega)
  rw [set_regM x q k u h8 hk] at b
  exact b
theorem box_reg {v : MV} (h : Box w S (mcC x q).toArray) (h8 : x.r.length = 8) (hv : x.r[k]? = some v) : At7 w S (k * 7) v := by
  have hk : k < 8 := by have := (List.getElem?_eq_some_iff.1 hv).1; omega
  have hl : (x.r.flatMap mvC).length = 56 := by rw [mv_len, h8]
  have g : ∀ j u, j < 7 → (mvC v)[j]? = some u → w.cell? ⟨S, k * 7 + j, none⟩ = some u := fun j u hj hu => by
    rw [h.cell, List.getElem?_toArray]
    unfold mcC
    rw [List.getElem?_append_left (by omega), mv_cell x.r k v j hv hj]
    exact hu
  exact ⟨g 0 _ (by omega) rfl, g 1 _ (by omega) rfl, g 2 _ (by omega) rfl, g 3 _ (by omega) rfl, g 4 _ (by omega) rfl, g 5 _ (by omega) rfl, g 6 _ (by omega) rfl⟩
theorem info_val7 : (Tryz.prog.info? 25).map (·.size) = some 7 := by kernel_rfl
theorem val_one (v : MV) : ∀ u ∈ mvC v, u.oneCell' = true := by
  intro u hu
  simp only [mvC, List.mem_cons, List.not_mem_nil, or_false] at hu
  rcases hu with rfl | rfl | rfl | rfl | rfl | rfl | rfl <;> rfl
/-- A register is stored, by a plain statement. -/
theorem pl_store_reg {ops : Array Oper} {rest : List Oper} {o : Oper} {a : Act} {Q : Exit → Act → World → Prop} (hg : o.guard = none) (y z : Operand) (ho : o.op = .store 25 y z) (u : MV)
    (hy : a.eval y = .pointer (some ⟨S, k * 7, none⟩)) (hz : a.eval z = .agg (mvC u).toArray) (hb : Box w S (mcC x q).toArray) (h8 : x.r.length = 8) (hk : k < 8)
    (h : ∀ W, Off S w W → Box W S (mcC (putR x k u) q).toArray → wpList Tryz.prog ops Q rest (a.put o.dst undef) W) : wpList Tryz.prog ops Q (o :: rest) a w := by
  have hl := mc_len64 (q := q) h8
  have ht : w.there S (k * 7) (mvC u).toArray.size := fun j hj => by
    have hj7 : j < 7 := hj
    rw [hb.cell]
    exact ⟨by rw [List.getElem?_toArray, List.getElem?_eq_getElem (by omega)]; rfl, hb.free _⟩
  exact wpList_plain hg fun _ hK => wp_store_mid _ y z ho S (k * 7) (mvC u).toArray hy hz ht (by rw [info_val7]; rfl) (all_oneCell_toArray (val_one u)) (hK _ _ (h _ (Off.cells S (mvC u) (k * 7) w (Off.refl S w) (.inl rfl)) (box_put hb h8 hk u)))
end
end
section
open Go.ChangeShapes Go.WideShapes Go.ChangeAt Go.RowKit
set_option linter.unusedVariables false
section
variable {w : World} {B : Nat} {y : MC} {q : MA}
theorem app_set {A : List Value} (hA : A.length = 56) {T : List Value} {j : Nat} {v : Value} : (A ++ T).set (56 + j) v = A ++ T.set j v := by
  rw [List.set_append_right _ _ (by omega), hA, Nat.add_sub_cancel_left]
theorem tail_set (h8 : y.r.length = 8) (j : Nat) (v : Value) : (mcC y q).set (56 + j) v = y.r.flatMap mvC ++ (mcT y q).set j v := by
  have hl : (y.r.flatMap mvC).length = 56 := by rw [mv_len, h8]
  unfold mcC
  rw [List.set_append_right _ _ (by omega), hl, Nat.add_sub_cancel_left]
/-- The cells behind the registers. -/
structure McT (w : World) (B : Nat) (y : MC) (q : MA) : Prop where
  k0 : w.cell? ⟨B, 56, none⟩ = some (.int .i64 y.k.p)
  k1 : w.cell? ⟨B, 57, none⟩ = some (.int .i64 y.k.b)
  k2 : w.cell? ⟨B, 58, none⟩ = some (.int .i64 y.k.l)
  k3 : w.cell? ⟨B, 59, none⟩ = some (.int .i64 y.k.a)
  k4 : w.cell? ⟨B, 60, none⟩ = some (.int .i64 y.k.s)
  lm : w.cell? ⟨B, 61, none⟩ = some (.slice q.m y.m.length q.cm)
  ls : w.cell? ⟨B, 62, none⟩ = some (.slice q.s y.s.length q.cs)
  lo : w.cell? ⟨B, 63, none⟩ = some (.slice q.o y.o.length q.co)
theorem mc_tail (h : Box w B (mcC y q).toArray) (h8 : y.r.length = 8) : McT w B y q := by
  obtain ⟨-, -, -, c0, c1, c2, c3, c4, c5, c6, c7⟩ := mc_cells y q h8
  exact ⟨by rw [h.cell, c0], by rw [h.cell, c1], by rw [h.cell, c2], by rw [h.cell, c3], by rw [h.cell, c4], by rw [h.cell, c5], by rw [h.cell, c6], by rw [h.cell, c7]⟩
theorem box_setK (h : Box w B (mcC y q).toArray) (h8 : y.r.length = 8) (k : K5) :
    Box (((((w.setCell ⟨B, 56, none⟩ (.int .i64 k.p)).setCell ⟨B, 57, none⟩ (.int .i64 k.b)).setCell ⟨B, 58, none⟩ (.int .i64 k.l)).setCell ⟨B, 59, none⟩ (.int .i64 k.a)).setCell ⟨B, 60, none⟩ (.int .i64 k.s)) B (mcC { y with k := k } q).toArray := by
  have hl := mc_length (q := q) h8
  have b := ((((h.setL' (v := .int .i64 k.p) (j := 56 + 0) (by omega)).setL' (v := .int .i64 k.b) (j := 56 + 1) (by simp only [List.length_set]; omega)).setL' (v := .int .i64 k.l) (j := 56 + 2) (by simp only [List.length_set]; omega)).setL' (v := .int .i64 k.a) (j := 56 + 3) (by simp only [List.length_set]; omega)).setL' (v := .int .i64 k.s) (j := 56 + 4) (by simp only [List.length_set]; omega)
  have e : (((((mcC y q).set (56 + 0) (.int .i64 k.p)).set (56 + 1) (.int .i64 k.b)).set (56 + 2) (.int .i64 k.l)).set (56 + 3) (.int .i64 k.a)).set (56 + 4) (.int .i64 k.s) = mcC { y with k := k } q := by
    have hl : (y.r.flatMap mvC).length = 56 := by rw [mv_len, h8]
    unfold mcC
    rw [app_set hl, app_set hl, app_set hl, app_set hl, app_set hl]
    rfl
  rw [e] at b
  exact b
theorem box_setM (h : Box w B (mcC y q).toArray) (h8 : y.r.length = 8) (m : List MV) (a : Option Addr) (c : Nat) : Box (w.setCell ⟨B, 61, none⟩ (.slice a m.length c)) B (mcC { y with m := m } { q with m := a, cm := c }).toArray := by
  have b := h.setL' (v := .slice a m.length c) (j := 56 + 5) (by rw [mc_length h8]; omega)
  rw [tail_set h8] at b
  exact b
theorem box_setS (h : Box w B (mcC y q).toArray) (h8 : y.r.length = 8) (m : List FR) (a : Option Addr) (c : Nat) : Box (w.setCell ⟨B, 62, none⟩ (.slice a m.length c)) B (mcC { y with s := m } { q with s := a, cs := c }).toArray := by
  have b := h.setL' (v := .slice a m.length c) (j := 56 + 6) (by rw [mc_length h8]; omega)
  rw [tail_set h8] at b
  exact b
theorem box_setO (h : Box w B (mcC y q).toArray) (h8 : y.r.length = 8) (m : List Int) (a : Option Addr) (c : Nat) : Box (w.setCell ⟨B, 63, none⟩ (.slice a m.length c)) B (mcC { y with o := m } { q with o := a, co := c }).toArray := by
  have b := h.setL' (v := .slice a m.length c) (j := 56 + 7) (by rw [mc_length h8]; omega)
  rw [tail_set h8] at b
  exact b
end
theorem RowAt.offS {S : Nat} {a b : World} {p : Option Addr} {cs : List Value} (hr : RowAt a p cs) (hS : a.heap.size ≤ S) (h : Off S a b) : RowAt b p cs := by
  rcases hr with h0 | ⟨B, off, rfl, hB, hc⟩
  · exact .inl h0
  · refine .inr ⟨B, off, rfl, Nat.lt_of_lt_of_le hB h.size, fun j u hj => ?_⟩
    rw [World.cell?_of_block (w := a) (a := ⟨B, off + j, none⟩) (h.block B hB (by omega))]
    exact hc j u hj
theorem RowAt.off {S : Nat} {a b : World} {g o : Nat} {cs : List Value} (hr : RowAt a (some ⟨g, o, none⟩) cs) (hS : g ≠ S) (h : Off S a b) : RowAt b (some ⟨g, o, none⟩) cs := by
  rcases hr with h0 | ⟨B, off, e, hB, hc⟩
  · exact .inl h0
  · cases e
    refine .inr ⟨g, o, rfl, Nat.lt_of_lt_of_le hB h.size, fun j u hj => ?_⟩
    rw [World.cell?_of_block (w := a) (a := ⟨g, o + j, none⟩) (h.block g hB hS)]
    exact hc j u hj
end
section
open Go.ChangeShapes Go.WideShapes Go.ChangeAt Go.RowKit
set_option linter.unusedSimpArgs false

def kLo (k : Int) : Int := if k = 2 then -2048 else 0
def kHi (k : Int) : Int := if k = 1 then 7 else if k = 2 then 2047 else if k = 3 then 127 else if k = 4 then 5 else if k = 5 then 255 else 0
def kMay (k n : Int) : Bool := decide (kLo k ≤ n ∧ n ≤ kHi k)
theorem inst_ends (k : Int) (w : World) :
    Calls Tryz.prog 68 #[.int .i64 k] w fun e w' => e = .returned (.tuple #[.int .i64 (kLo k), .int .i64 (kHi k)]) ∧ w' = w := by
  by_cases h1 : k = 1
  · subst h1
    go_enter Tryz.func68, Tryz.ntmps68
    go_wp2
    go_ret2
    exact ⟨rfl, rfl⟩
  by_cases h2 : k = 2
  · subst h2
    go_enter Tryz.func68, Tryz.ntmps68
    go_wp2
    go_ret2
    exact ⟨rfl, rfl⟩
  by_cases h3 : k = 3
  · subst h3
    go_enter Tryz.func68, Tryz.ntmps68
    go_wp2
    go_ret2
    exact ⟨rfl, rfl⟩
  by_cases h4 : k = 4
  · subst h4
    go_enter Tryz.func68, Tryz.ntmps68
    go_wp2
    go_ret2
    exact ⟨rfl, rfl⟩
  by_cases h5 : k = 5
  · subst h5
    go_enter Tryz.func68, Tryz.ntmps68
    go_wp2
    go_ret2
    exact ⟨rfl, rfl⟩
  · have e1 : kLo k = 0 := by simp [kLo, h2]
    have e2 : kHi k = 0 := by simp [kHi, h1, h2, h3, h4, h5]
    rw [e1, e2]
    clear e1 e2
    have g1 : (k == 1) = false := by simpa using h1
    have g2 : (k == 2) = false := by simpa using h2
    have g3 : (k == 3) = false := by simpa using h3
    have g4 : (k == 4) = false := by simpa using h4
    have g5 : (k == 5) = false := by simpa using h5
    go_enter Tryz.func68, Tryz.ntmps68
    go_wp2
    go_ret2
    exact ⟨rfl, rfl⟩
theorem inst_may (k n : Int) (w : World) :
    Calls Tryz.prog 40 #[.int .i64 k, .int .i64 n] w fun e w' => e = .returned (.bool (kMay k n)) ∧ w' = w := by
  unfold kMay
  by_cases h1 : kLo k ≤ n
  · by_cases h2 : n ≤ kHi k
    · rw [decide_eq_true (And.intro h1 h2)]
      go_enter Tryz.func40, Tryz.ntmps40
      go_wp2_with (go_at_call 68; refine (inst_ends _ _).mono ?_; rintro e w' ⟨rfl, rfl⟩)
      go_ret
      exact ⟨rfl, rfl⟩
    · rw [decide_eq_false (fun h => h2 h.2)]
      go_enter Tryz.func40, Tryz.ntmps40
      go_wp2_with (go_at_call 68; refine (inst_ends _ _).mono ?_; rintro e w' ⟨rfl, rfl⟩)
      go_ret
      exact ⟨by simp [h2], rfl⟩
  · rw [decide_eq_false (fun h => h1 h.1)]
    go_enter Tryz.func40, Tryz.ntmps40
    go_wp2_with (go_at_call 68; refine (inst_ends _ _).mono ?_; rintro e w' ⟨rfl, rfl⟩)
    go_ret
    exact ⟨rfl, rfl⟩
/-- P12, by the project's own table. -/
def chkN (n : Nat) (a b c : Int) : Int := if kMay (shA n) a = true ∧ kMay (shB n) b = true ∧ kMay (shC n) c = true then 0 else 1
def chkD (o a b c : Int) : Int := if 0 ≤ o ∧ o ≤ 22 then chkN o.toNat a b c else 1
theorem check_in_d (n : Nat) (hn : n < 23) (a b c : Int) (w : World) (hS : Shp w) :
    Calls Tryz.prog 23 #[.agg #[.int .i64 n, .int .i64 a, .int .i64 b, .int .i64 c]] w fun e w' => e = .returned (.int .i64 (chkN n a b c)) ∧ Below w.heap.size w w' := by
  have q0 := (hS.alloc (.cells #[.int .i64 n, .int .i64 a, .int .i64 b, .int .i64 c] 47)).row n hn
  obtain ⟨c0, c1, c2, c3⟩ := q0
  unfold chkN
  cases hA : kMay (shA n) a
  · rw [if_neg (by simp)]
    go_enter Tryz.func23, Tryz.ntmps23
    go_wp2_with (go_at_call 40; refine (inst_may _ _ _).mono ?_; (first | rw [hA]); rintro e w' ⟨rfl, rfl⟩)
    go_ret
    exact ⟨rfl, two _ _⟩
  · cases hB : kMay (shB n) b
    · rw [if_neg (by simp)]
      go_enter Tryz.func23, Tryz.ntmps23
      go_wp2_with (go_at_call 40; refine (inst_may _ _ _).mono ?_; (first | rw [hA] | rw [hB]); rintro e w' ⟨rfl, rfl⟩)
      go_ret
      exact ⟨rfl, two _ _⟩
    · cases hC : kMay (shC n) c
      · rw [if_neg (by simp)]
        go_enter Tryz.func23, Tryz.ntmps23
        go_wp2_with (go_at_call 40; refine (inst_may _ _ _).mono ?_; (first | rw [hA] | rw [hB] | rw [hC]); rintro e w' ⟨rfl, rfl⟩)
        go_ret
        exact ⟨rfl, two _ _⟩
      · rw [if_pos (by simp)]
        go_enter Tryz.func23, Tryz.ntmps23
        go_wp2_with (go_at_call 40; refine (inst_may _ _ _).mono ?_; (first | rw [hA] | rw [hB] | rw [hC]); rintro e w' ⟨rfl, rfl⟩)
        go_ret
        exact ⟨rfl, two _ _⟩
theorem inst_check (o a b c : Int) (w : World) (hS : Shp w) :
    Calls Tryz.prog 23 #[.agg #[.int .i64 o, .int .i64 a, .int .i64 b, .int .i64 c]] w fun e w' => e = .returned (.int .i64 (chkD o a b c)) ∧ Below w.heap.size w w' := by
  unfold chkD
  by_cases ho : 0 ≤ o ∧ o ≤ 22
  · rw [if_pos ho]
    obtain ⟨n, rfl⟩ := Int.eq_ofNat_of_zero_le ho.1
    exact check_in_d n (by omega) a b c w hS
  · rw [if_neg ho]
    by_cases h1 : o < 0
    · go_enter Tryz.func23, Tryz.ntmps23
      go_wp2
      go_ret
      exact ⟨rfl, (Below.refl _ _).alloc (Nat.le_refl _) _⟩
    · have h2 : 22 < o := by omega
      go_enter Tryz.func23, Tryz.ntmps23
      go_wp2
      go_ret
      exact ⟨rfl, (Below.refl _ _).alloc (Nat.le_refl _) _⟩
theorem sh_b : ∀ n : Nat, n < 23 → (kLo (shA n) = 0 ∧ kHi (shA n) ≤ 7) ∧ (kLo (shB n) = 0 ∧ kHi (shB n) ≤ 7) ∧ -2048 ≤ kLo (shC n) ∧ kHi (shC n) ≤ 2047 := by decide +kernel
theorem chkD_ok {o a b c : Int} (h : chkD o a b c = 0) : (0 ≤ o ∧ o ≤ 22) ∧ 0 ≤ a ∧ a ≤ 7 ∧ 0 ≤ b ∧ b ≤ 7 ∧ -2048 ≤ c ∧ c ≤ 2047 := by
  unfold chkD at h
  by_cases ho : 0 ≤ o ∧ o ≤ 22
  · rw [if_pos ho] at h
    unfold chkN at h
    obtain ⟨h1, h2, h3⟩ := sh_b o.toNat (by omega)
    by_cases hk : kMay (shA o.toNat) a = true ∧ kMay (shB o.toNat) b = true ∧ kMay (shC o.toNat) c = true
    · simp only [kMay, decide_eq_true_eq] at hk
      omega
    · rw [if_neg hk] at h; cases h
  · rw [if_neg ho] at h; cases h
theorem chkD_or (o a b c : Int) : chkD o a b c = 0 ∨ chkD o a b c = 1 := by
  unfold chkD chkN
  split
  · split <;> simp
  · simp
/-- P13. -/
def numD (o a b c : Int) : Int := o + 32 * a + 256 * b + 2048 * (c + 2048)
def packD (o a b c : Int) : Int := if chkD o a b c = 0 then numD o a b c else 0
structure ID where
  o : Int
  a : Int
  b : Int
  c : Int
  e : Int
def readD (n : Int) : ID :=
  if chkD (n % 32) (n / 32 % 8) (n / 256 % 8) (n / 2048 - 2048) = 0 then ⟨n % 32, n / 32 % 8, n / 256 % 8, n / 2048 - 2048, 0⟩ else ⟨0, 0, 0, 0, 5⟩
theorem and_31 (n : Int) : bits .and .i64 n 31 = n % 32 := by
  have e : bits .and .i64 n 31 = IntKind.i64.wrap ((BitVec.ofInt 64 n &&& BitVec.ofInt 64 31).toNat : Nat) := rfl
  have h1 : (BitVec.ofInt 64 31).toNat = 2 ^ 5 - 1 := by decide
  rw [e, BitVec.toNat_and, h1, Nat.and_two_pow_sub_one_eq_mod, BitVec.toNat_ofInt, IntKind.wrap_i64]
  have : ((2 ^ 64 : Nat) : Int) = 18446744073709551616 := by decide
  rw [this]
  omega
theorem and_7 (n : Int) : bits .and .i64 n 7 = n % 8 := by
  have e : bits .and .i64 n 7 = IntKind.i64.wrap ((BitVec.ofInt 64 n &&& BitVec.ofInt 64 7).toNat : Nat) := rfl
  have h1 : (BitVec.ofInt 64 7).toNat = 2 ^ 3 - 1 := by decide
  rw [e, BitVec.toNat_and, h1, Nat.and_two_pow_sub_one_eq_mod, BitVec.toNat_ofInt, IntKind.wrap_i64]
  have : ((2 ^ 64 : Nat) : Int) = 18446744073709551616 := by decide
  rw [this]
  omega
theorem inst_pack (o a b c : Int) (w : World) (hS : Shp w) :
    Calls Tryz.prog 12 #[.agg #[.int .i64 o, .int .i64 a, .int .i64 b, .int .i64 c]] w fun e w' => e = .returned (.tuple #[.int .i64 (packD o a b c), .int .i64 (chkD o a b c)]) ∧ Below w.heap.size w w' := by
  by_cases hc : chkD o a b c = 0
  · have hr := chkD_ok hc
    have hp : packD o a b c = o + a * 32 + b * 256 + (c + 2048) * 2048 := by unfold packD numD; rw [if_pos hc]; omega
    rw [hp, hc]
    clear hp
    go_enter Tryz.func12, Tryz.ntmps12
    go_wp2_with (go_at_call 23; refine (inst_check _ _ _ _ _ (hS.alloc _)).mono ?_; simp only [hc]; rintro e w1 ⟨rfl, hbb⟩; have B1 := (Box.new _ _ _).below hbb; have q1 := B1.cell; have hB := Below.step0 ((Below.refl _ _).alloc (Nat.le_refl _) _) hbb; clear hbb)
    go_ret2
    exact ⟨rfl, hB⟩
  · have hp : packD o a b c = 0 := by unfold packD; rw [if_neg hc]
    have hc' : (chkD o a b c == 0) = false := by simpa using hc
    rw [hp]
    clear hp hc
    go_enter Tryz.func12, Tryz.ntmps12
    go_wp2_with (go_at_call 23; refine (inst_check _ _ _ _ _ (hS.alloc _)).mono ?_; rintro e w1 ⟨rfl, hbb⟩; have B1 := (Box.new _ _ _).below hbb; have q1 := B1.cell; have hB := Below.step0 ((Below.refl _ _).alloc (Nat.le_refl _) _) hbb; clear hbb)
    go_ret2
    exact ⟨rfl, hB⟩
theorem inst_unpack (n : Int) (w : World) (hn : -9223372036854775808 ≤ n ∧ n ≤ 9223372036854775807) :
    Calls Tryz.prog 101 #[.int .i64 n] w fun e w' => e = .returned (.agg #[.int .i64 (n % 32), .int .i64 (n / 32 % 8), .int .i64 (n / 256 % 8), .int .i64 (n / 2048 - 2048)]) ∧ Below w.heap.size w w' := by
  have d1 := and_31 n
  have d2 := and_7 (n / 32)
  have d3 := and_7 (n / 256)
  go_enter Tryz.func101, Tryz.ntmps101
  go_wp2
  exact bodyPost_ret (v := .agg #[.int .i64 (n % 32), .int .i64 (n / 32 % 8), .int .i64 (n / 256 % 8), .int .i64 (n / 2048 - 2048)]) (by simp [results, Tryz.results101, go_sem]) rfl ⟨rfl, (Below.refl _ _).alloc (Nat.le_refl _) _⟩
theorem inst_read (n : Int) (w : World) (hS : Shp w) (hn : -9223372036854775808 ≤ n ∧ n ≤ 9223372036854775807) (U : ID) (hU : readD n = U) :
    Calls Tryz.prog 75 #[.int .i64 n] w fun e w' => e = .returned (.tuple #[.agg #[.int .i64 U.o, .int .i64 U.a, .int .i64 U.b, .int .i64 U.c], .int .i64 U.e]) ∧ Below w.heap.size w w' := by
  subst hU
  unfold readD
  by_cases hc : chkD (n % 32) (n / 32 % 8) (n / 256 % 8) (n / 2048 - 2048) = 0
  · rw [if_pos hc]
    go_enter Tryz.func75, Tryz.ntmps75
    go_wp2_with (first | (go_at_call 101; refine (inst_unpack _ _ hn).mono ?_; rintro e w1 ⟨rfl, hbb⟩; have B1 := (Box.new _ _ _).below hbb; have hB1 := Below.step0 ((Below.refl w.heap.size w).alloc (Nat.le_refl _) _) hbb; clear hbb) | (go_at_call 23; refine (inst_check _ _ _ _ _ ((hS.below hB1).alloc _)).mono ?_; simp only [hc]; rintro e w2 ⟨rfl, hbb⟩; have B2 := (B1.alloc _).below hbb; have q2 := B2.cell; have f2 := B2.free; have B3 := (Box.new w1 _ _).below hbb; have q3 := B3.cell; have hB := Below.step0 (hB1.alloc hB1.size _) hbb; clear hbb))
    refine bodyPost_ret (v := .tuple #[.agg #[.int .i64 (n % 32), .int .i64 (n / 32 % 8), .int .i64 (n / 256 % 8), .int .i64 (n / 2048 - 2048)], .int .i64 0]) (by simp [results, Tryz.results75, go_sem, q2]) rfl ⟨rfl, ?_⟩
    exact (((hB.setCell (by simp) _).setCell (by simp) _).setCell (by simp) _).setCell (by simp) _
  · rw [if_neg hc]
    have hc' : (chkD (n % 32) (n / 32 % 8) (n / 256 % 8) (n / 2048 - 2048) == 0) = false := by simpa using hc
    go_enter Tryz.func75, Tryz.ntmps75
    go_wp2_with (first | (go_at_call 101; refine (inst_unpack _ _ hn).mono ?_; rintro e w1 ⟨rfl, hbb⟩; have B1 := (Box.new _ _ _).below hbb; have hB1 := Below.step0 ((Below.refl w.heap.size w).alloc (Nat.le_refl _) _) hbb; clear hbb) | (go_at_call 23; refine (inst_check _ _ _ _ _ ((hS.below hB1).alloc _)).mono ?_; rintro e w2 ⟨rfl, hbb⟩; have B2 := (B1.alloc _).below hbb; have q2 := B2.cell; have f2 := B2.free; have B3 := (Box.new w1 _ _).below hbb; have q3 := B3.cell; have hB := Below.step0 (hB1.alloc hB1.size _) hbb; clear hbb))
    refine bodyPost_ret (v := .tuple #[.agg #[.int .i64 0, .int .i64 0, .int .i64 0, .int .i64 0], .int .i64 5]) (by simp [results, Tryz.results75, go_sem, q2]) rfl ⟨rfl, ?_⟩
    exact (((hB.setCell (by simp) _).setCell (by simp) _).setCell (by simp) _).setCell (by simp) _
end
end Go.Proofs.YtlfeglljpfihhaaGreatDoor
