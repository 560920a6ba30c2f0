/- Plain: a whole struct loaded, stored and made within a round. -/
import Derived.Test.YthapfaohnliklaaDoorRows
import Derived.Test.YthapfaohnliklaaDoorStepOwn
import Derived.Test.YthapfaohnliklaaDoorStepTop
import Derived.Test.YthapfaohnliklaaDoorRangeW
import Derived.Deep.MidRow
import Derived.OwnWalkIn
import Derived.TacticsInMore
import Derived.LoopNIn
import Derived.LoopIn
import Derived.RangeFuncCalls
namespace Go.Proofs.YthapfaohnliklaaDoor
open Go.RowKit
set_option linter.unusedVariables false
set_option maxRecDepth 100000

section
variable {F : Fence} {n : Nat} {P : Program} {ops : Array Oper} {rest : List Oper} {o : Oper} {a : Act} {w : World} {Q : Exit → Act → World → Prop}
theorem in_load_box (hg : o.guard = none) (ty : TypeId) (x : Operand) (ho : o.op = .load ty x) (k : Nat) (hx : a.eval x = .pointer (some ⟨k, 0, none⟩)) (L : List Value) (hb : Box w k L.toArray) (d : TypeDesc)
    (hu : P.underlying ty = some d) (hd : d.isRow = true) (hi : (P.info? ty).map (·.size) = some L.length)
    (h : wpListIn F n P ops Q rest (a.put o.dst (.agg L.toArray)) w) : wpListIn F n P ops Q (o :: rest) a w := by
  refine wpListIn_plain hg fun K hK => ?_
  unfold Oper.wpIn
  refine ⟨?_, ?_⟩
  · simp [Oper.about, ho]
  · rw [Oper.semAt_plain F _ _ (by rw [ho]; intro c hc'; cases hc')]
    unfold execOp
    simp only [ho, hx, Instr.loadAt, Instr.sureAddr, Sem.run_bind, Sem.run_pure, Result.andThen_ok, run_loadVar_mid w k 0 ty L d (box_range hb) hu hd hi]
    exact hK _ _ h
theorem in_store_box (hg : o.guard = none) (ty : TypeId) (x y : Operand) (ho : o.op = .store ty x y) (k : Nat) (L : List Value) (hx : a.eval x = .pointer (some ⟨k, 0, none⟩)) (hy : a.eval y = .agg L.toArray) (Z : Array Value) (hb : Box w k Z) (hz : Z.size = L.length)
    (hi : (P.info? ty).map (·.size) = some L.length) (h1 : ∀ u ∈ L, u.oneCell' = true)
    (h : Box (w.setCells k 0 L) k L.toArray → wpListIn F n P ops Q rest (a.put o.dst undef) (w.setCells k 0 L)) : wpListIn F n P ops Q (o :: rest) a w := by
  refine wpListIn_plain hg fun K hK => ?_
  unfold Oper.wpIn
  refine ⟨?_, ?_⟩
  · simp [Oper.about, ho]
  · rw [Oper.semAt_plain F _ _ (by rw [ho]; intro c hc'; cases hc')]
    unfold execOp
    have h' := run_storeVar_mid (P := P) w k 0 ty L.toArray (box_there hb (by rw [hz, List.size_toArray])) (by rw [List.size_toArray]; exact hi) (all_oneCell_toArray h1)
    simp only [ho, hx, hy, Instr.storeAt, Instr.sureAddr, Sem.run_bind, Sem.run_pure, Result.andThen_ok, h']
    exact hK _ _ (h (box_cells hb hz))
theorem at_load {d : Option Tmp} {t : TypeId} {p : String} {af : Array Edge} {g : Option (Nat × Bool)} {ty : TypeId} {x : Operand} (h : wpList P ops Q ({ dst := d, op := .load ty x, type := t, pos := p, after := af, guard := g } :: rest) a w) : wpList P ops Q ({ dst := d, op := .load ty x, type := t, pos := p, after := af, guard := g } :: rest) a w := h
theorem at_store {d : Option Tmp} {t : TypeId} {p : String} {af : Array Edge} {g : Option (Nat × Bool)} {ty : TypeId} {x y : Operand} (h : wpList P ops Q ({ dst := d, op := .store ty x y, type := t, pos := p, after := af, guard := g } :: rest) a w) : wpList P ops Q ({ dst := d, op := .store ty x y, type := t, pos := p, after := af, guard := g } :: rest) a w := h
theorem at_alloc {d : Option Tmp} {t : TypeId} {p : String} {af : Array Edge} {g : Option (Nat × Bool)} {ty : TypeId} (h : wpList P ops Q ({ dst := d, op := .alloc ty, type := t, pos := p, after := af, guard := g } :: rest) a w) : wpList P ops Q ({ dst := d, op := .alloc ty, type := t, pos := p, after := af, guard := g } :: rest) a w := h
theorem pl_load_box (hg : Region.wanted o (yielded ops a.tmps) = true) (ty : TypeId) (x : Operand) (ho : o.op = .load ty x) (k : Nat) (hx : a.eval x = .pointer (some ⟨k, 0, none⟩)) (L : List Value) (hb : Box w k L.toArray) (d : TypeDesc)
    (hu : P.underlying ty = some d) (hd : d.isRow = true) (hi : (P.info? ty).map (·.size) = some L.length)
    (h : wpList P ops Q rest (a.put o.dst (.agg L.toArray)) w) : wpList P ops Q (o :: rest) a w :=
  BigFrame.wpList_want hg fun _ hK => wp_load_mid ty x ho k 0 hx L d (box_range hb) hu hd hi (hK _ _ h)
theorem pl_store_box (hg : o.guard = none) (ty : TypeId) (x y : Operand) (ho : o.op = .store ty x y) (k : Nat) (L : List Value) (hx : a.eval x = .pointer (some ⟨k, 0, none⟩)) (hy : a.eval y = .agg L.toArray) (Z : Array Value) (hb : Box w k Z) (hz : Z.size = L.length)
    (hi : (P.info? ty).map (·.size) = some L.length) (h1 : ∀ u ∈ L, u.oneCell' = true)
    (h : Box (w.setCells k 0 L) k L.toArray → wpList P ops Q rest (a.put o.dst undef) (w.setCells k 0 L)) : wpList P ops Q (o :: rest) a w :=
  wpList_plain hg fun _ hK => wp_store_mid ty x y ho k 0 L.toArray hx hy (box_there hb (by rw [hz, List.size_toArray])) (by rw [List.size_toArray]; exact hi) (all_oneCell_toArray h1) (hK _ _ (h (box_cells hb hz)))
theorem in_alloc_row (hg : o.guard = none) (ty : TypeId) (ho : o.op = .alloc ty) (v : Value) (w' : World) (hr : (Instr.alloc ty true (.tuple #[])).run P w = .ok v w')
    (h : wpListIn F n P ops Q rest (a.put o.dst v) w') : wpListIn F n P ops Q (o :: rest) a w := by
  refine wpListIn_plain hg fun K hK => ?_
  unfold Oper.wpIn
  refine ⟨?_, ?_⟩
  · simp [Oper.about, ho]
  · rw [Oper.semAt_plain F _ _ (by rw [ho]; intro c hc'; cases hc')]
    simp [execOp, ho, hr, Result.andThen]
    exact hK _ _ h
end
def z64 : List Value := mcC zeroM zeroA
theorem z64_len : z64.length = 64 := rfl
theorem alloc_mach (w : World) : (Instr.alloc 31 true (.tuple #[])).run Tryd.prog w = .ok (.pointer (some ⟨w.heap.size, 0, none⟩)) (w.alloc (.cells z64.toArray 31)) := by
  kernel_rfl
theorem mach_info {x : MC} {q : MA} (h8 : x.r.length = 8) : (Tryd.prog.info? 31).map (·.size) = some (mcC x q).length := by rw [mc_length h8]; exact info_mach
theorem Box.offP {p : Nat → Prop} {a b : World} {k : Nat} {c : Array Value} (hb : Box a k c) (h : OffP p a b) (hk : ¬ p k) : Box b k c := h.box hb hk
/-- Cells set in a block that was not there, or in one that may be turned. -/
theorem OffP.cells {p : Nat → Prop} {a : World} (k : Nat) : ∀ (vs : List Value) (o : Nat) (w : World), OffP p a w → (p k ∨ a.heap.size ≤ k) → OffP p a (w.setCells k o vs)
  | [], _, _, h, _ => h
  | v :: r, o, w, h, hk => OffP.cells k r (o + 1) _ (h.set (x := ⟨k, o, none⟩) hk v) hk
theorem Off.cells {S : Nat} {a : World} (k : Nat) (vs : List Value) (o : Nat) (w : World) (h : Off S a w) (hk : k = S ∨ a.heap.size ≤ k) : Off S a (w.setCells k o vs) := by
  have h1 : OffP (fun j => j = S) a w := h.toP rfl
  have h2 := OffP.cells (p := fun j => j = S) k vs o w h1 hk
  exact ⟨h2.os, h2.tape, h2.output, h2.size, fun j hj hn => h2.block j hj hn⟩
theorem Shp.offP {p : Nat → Prop} {a b : World} (hs : Shp a) (h : OffP p a b) (hp : ¬ p 0) : Shp b := by
  refine ⟨Nat.lt_of_lt_of_le hs.1 h.size, fun o => ?_⟩
  rw [World.cell?_of_block (w := a) (a := ⟨0, o, none⟩) (h.block _ hs.1 hp)]
  exact hs.2 o
end Go.Proofs.YthapfaohnliklaaDoor
