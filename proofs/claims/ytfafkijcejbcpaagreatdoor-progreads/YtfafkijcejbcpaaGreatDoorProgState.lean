/- What has been read so far (package prog's program), in memory: its box, and three rows of its own; nothing else is turned. -/
import Derived.Test.YtfafkijcejbcpaaGreatDoorRows
import Derived.Test.YtfafkijcejbcpaaGreatDoorKeyPure
import Derived.Test.YtfafkijcejbcpaaGreatDoorBoxSet
import Derived.Test.YtfafkijcejbcpaaGreatDoorTextPure
import Derived.Test.YtfafkijcejbcpaaGreatDoorProgPure
import Derived.Test.YtfafkijcejbcpaaGreatDoorProgText
import Derived.WalkKit
import Derived.ProofKit
import Derived.Deep.AppendLies
namespace Go.Proofs.YtfafkijcejbcpaaGreatDoor
open Go.ChangeShapes Go.WideShapes Go.ChangeAt Go.RowKit

def inC (n : Int) : Value := .int .i64 n
def lbC (b : LB) : List Value := [.string (bL b.nm), .int .i64 b.at_]
def ldC (d : LD) : List Value := [.int .i64 d.n, .int .i64 d.at_, .int .i64 d.j.o, .int .i64 d.j.a, .int .i64 d.j.b, .int .i64 d.j.c, .string (bL d.j.lab)]
structure PI (w : World) (B : Nat) (v1 v2 v3 : Value) (st : PS) : Prop where
  box : Box w B #[v1, v2, v3]
  r1 : w.ownsRow (B + 1) 3 1 v1 st.cells.length (st.cells.map inC)
  r2 : w.ownsRow (B + 1) 30 2 v2 st.labels.length (st.labels.flatMap lbC)
  r3 : w.ownsRow (B + 1) 62 7 v3 st.leads.length (st.leads.flatMap ldC)
/-- A block that is none of these. -/
def Off (B : Nat) (v1 v2 v3 : Value) (X : Nat) : Prop := X ≠ B ∧ some X ≠ v1.ownBlock ∧ some X ≠ v2.ownBlock ∧ some X ≠ v3.ownBlock
structure Mv (w w' : World) (B : Nat) (v1 v2 v3 u1 u2 u3 : Value) : Prop where
  bel : Below B w w'
  off : ∀ X, X < w.heap.size → Off B v1 v2 v3 X → w'.heap[X]? = w.heap[X]? ∧ Off B u1 u2 u3 X
theorem Mv.refl (w : World) (B : Nat) (v1 v2 v3 : Value) : Mv w w B v1 v2 v3 v1 v2 v3 := ⟨Below.refl _ _, fun _ _ h => ⟨rfl, h⟩⟩
theorem Mv.trans {w w' w'' : World} {B : Nat} {v1 v2 v3 u1 u2 u3 t1 t2 t3 : Value} (h : Mv w w' B v1 v2 v3 u1 u2 u3) (k : Mv w' w'' B u1 u2 u3 t1 t2 t3) : Mv w w'' B v1 v2 v3 t1 t2 t3 :=
  ⟨h.bel.trans k.bel, fun X hX ho => by
    obtain ⟨e1, o1⟩ := h.off X hX ho
    obtain ⟨e2, o2⟩ := k.off X (Nat.lt_of_lt_of_le hX h.bel.size) o1
    exact ⟨e2.trans e1, o2⟩⟩
theorem PI.below {w w' : World} {B : Nat} {v1 v2 v3 : Value} {st : PS} (h : PI w B v1 v2 v3 st) (hb : Below w.heap.size w w') : PI w' B v1 v2 v3 st :=
  ⟨h.box.below hb, own_below h.r1 hb, own_below h.r2 hb, own_below h.r3 hb⟩
theorem Mv.below {w w' : World} {B : Nat} {v1 v2 v3 : Value} (hb : Below w.heap.size w w') (hB : B ≤ w.heap.size) : Mv w w' B v1 v2 v3 v1 v2 v3 :=
  ⟨hb.mono hB, fun X hX h => ⟨hb.block X hX, h⟩⟩
/-- The block of a row that is owned, and its cells. -/
theorem own_block {w : World} {base : Nat} {e : TypeId} {size : Nat} {v : Value} {n : Nat} {xs : List Value} (h : w.ownsRow base e size v n xs) {g : Nat} (hg : v.ownBlock = some g) : base ≤ g ∧ ∃ cur, w.heap[g]? = some (.cells cur e (0, 0)) := by
  obtain ⟨_, h⟩ := h
  rcases h with ⟨rfl, _⟩ | ⟨g', cap, cur, rfl, hb, hc, _⟩
  · cases hg
  · injection hg with hg
    subst hg
    exact ⟨hb, cur, hc⟩
theorem own_slice {w : World} {base : Nat} {e : TypeId} {size : Nat} {v : Value} {n : Nat} {xs : List Value} (h : w.ownsRow base e size v n xs) : ∃ a c, v = .slice a n c := by
  obtain ⟨_, h⟩ := h
  rcases h with ⟨rfl, h0⟩ | ⟨g, cap, cur, rfl, _⟩
  · exact ⟨none, 0, by rw [h0]⟩
  · exact ⟨_, cap, rfl⟩
theorem own_apart {w : World} {base base' : Nat} {e e' : TypeId} {size size' : Nat} {v v' : Value} {n n' : Nat} {xs xs' : List Value} (h : w.ownsRow base e size v n xs) (h' : w.ownsRow base' e' size' v' n' xs') (hne : e ≠ e') {g : Nat} (hg : v.ownBlock = some g) : v'.ownBlock ≠ some g := by
  intro hg'
  obtain ⟨_, c1, e1⟩ := own_block h hg
  obtain ⟨_, c2, e2⟩ := own_block h' hg'
  rw [e1] at e2
  injection e2 with e2
  injection e2 with _ e3
  exact hne e3
theorem own_grown {w w' : World} {base : Nat} {e : TypeId} {size : Nat} {v : Value} {n : Nat} {xs : List Value} {row : Option Nat} (h : w.ownsRow base e size v n xs) (hg : w.grownBy w' row) (hne : ∀ g, v.ownBlock = some g → some g ≠ row) : w'.ownsRow base e size v n xs := by
  obtain ⟨h1, h2⟩ := h
  refine ⟨h1, ?_⟩
  rcases h2 with h2 | ⟨g, cap, cur, rfl, e2, e3, e4⟩
  · exact .inl h2
  · exact .inr ⟨g, cap, cur, rfl, e2, by rw [hg.block g (Array.getElem?_eq_some_iff.1 e3).1 (hne g rfl)]; exact e3, e4⟩
theorem box_grown {W w1 : World} {row : Option Nat} {k : Nat} {c : Array Value} (h : Box W k c) (hg : W.grownBy w1 row) (hne : some k ≠ row) : Box w1 k c :=
  ⟨Nat.lt_of_lt_of_le h.1 hg.size, fun o => by rw [hg.cell_far ⟨k, o, none⟩ h.1 hne]; exact h.2.1 o, fun o => by rw [hg.frozen_far ⟨k, o, none⟩ h.1 hne]; exact h.2.2 o⟩
theorem own_new {W : World} {g : Nat} {v : Value} {X : Nat} (hX : X < W.heap.size) (hne : some X ≠ v.ownBlock) (hat : v.ownBlock = some g ∨ g = W.heap.size) : X ≠ g := by
  rintro rfl
  rcases hat with h | h
  · exact hne h.symm
  · omega
theorem Mv.set {w w' : World} {B : Nat} {v1 v2 v3 u1 u2 u3 : Value} (h : Mv w w' B v1 v2 v3 u1 u2 u3) (i : Nat) (v : Value) : Mv w (w'.setCell ⟨B, i, none⟩ v) B v1 v2 v3 u1 u2 u3 :=
  ⟨h.bel.setCell (Nat.le_refl _) v, fun X hX ho => by
    obtain ⟨e1, o1⟩ := h.off X hX ho
    exact ⟨by rw [Below.heap_setCell _ _ _ _ o1.1]; exact e1, o1⟩⟩
section
variable {W w1 : World} {B g n cap : Nat} {v1 v2 v3 : Value} {st : PS}
/-- A cell more. -/
theorem PI.cell (h : PI W B v1 v2 v3 st) (x : Int) (hg : W.grownBy w1 v1.ownBlock) (hat : v1.ownBlock = some g ∨ g = W.heap.size)
    (ho : w1.ownsRow (B + 1) 3 1 (.slice (some ⟨g, 0, none⟩) n cap) (st.cells.length + 1) (st.cells.map inC ++ [.int .i64 x])) :
    PI (w1.setCell ⟨B, 0, none⟩ (.slice (some ⟨g, 0, none⟩) n cap)) B (.slice (some ⟨g, 0, none⟩) n cap) v2 v3 ⟨st.cells ++ [x], st.labels, st.leads⟩ ∧ Mv W (w1.setCell ⟨B, 0, none⟩ (.slice (some ⟨g, 0, none⟩) n cap)) B v1 v2 v3 (.slice (some ⟨g, 0, none⟩) n cap) v2 v3 := by
  have hB := h.box.lt
  have hlow : ∀ k, v1.ownBlock = some k → B + 1 ≤ k := fun k hk => (own_block h.r1 hk).1
  have hBr : some B ≠ v1.ownBlock := fun e => by have := hlow B e.symm; omega
  refine ⟨⟨(box_grown h.box hg hBr).set 0 _ (by simp), ?_, ?_, ?_⟩, Mv.set ⟨⟨hg.os, hg.tape, hg.output, hg.size, fun k hk => hg.block k (by omega) (fun e => by have := hlow k e.symm; omega)⟩, fun X hX hO => ⟨hg.block X hX hO.2.1, hO.1, fun e => own_new hX hO.2.1 hat (Option.some.inj (e.trans (rfl : (Value.slice (some ⟨g, 0, none⟩) n cap).ownBlock = some g))), hO.2.2⟩⟩ 0 _⟩
  · have := ownsRow_setCell_below ho (a := ⟨B, 0, none⟩) (by simp) (.slice (some ⟨g, 0, none⟩) n cap)
    simpa [inC] using this
  · exact ownsRow_setCell_below (own_grown h.r2 hg (fun k hk e => own_apart h.r2 h.r1 (by decide) hk e.symm)) (by simp) _
  · exact ownsRow_setCell_below (own_grown h.r3 hg (fun k hk e => own_apart h.r3 h.r1 (by decide) hk e.symm)) (by simp) _
/-- A label more. -/
theorem PI.label (h : PI W B v1 v2 v3 st) (x : LB) (hg : W.grownBy w1 v2.ownBlock) (hat : v2.ownBlock = some g ∨ g = W.heap.size)
    (ho : w1.ownsRow (B + 1) 30 2 (.slice (some ⟨g, 0, none⟩) n cap) (st.labels.length + 1) (st.labels.flatMap lbC ++ lbC x)) :
    PI (w1.setCell ⟨B, 1, none⟩ (.slice (some ⟨g, 0, none⟩) n cap)) B v1 (.slice (some ⟨g, 0, none⟩) n cap) v3 ⟨st.cells, st.labels ++ [x], st.leads⟩ ∧ Mv W (w1.setCell ⟨B, 1, none⟩ (.slice (some ⟨g, 0, none⟩) n cap)) B v1 v2 v3 v1 (.slice (some ⟨g, 0, none⟩) n cap) v3 := by
  have hB := h.box.lt
  have hlow : ∀ k, v2.ownBlock = some k → B + 1 ≤ k := fun k hk => (own_block h.r2 hk).1
  have hBr : some B ≠ v2.ownBlock := fun e => by have := hlow B e.symm; omega
  refine ⟨⟨(box_grown h.box hg hBr).set 1 _ (by simp), ?_, ?_, ?_⟩, Mv.set ⟨⟨hg.os, hg.tape, hg.output, hg.size, fun k hk => hg.block k (by omega) (fun e => by have := hlow k e.symm; omega)⟩, fun X hX hO => ⟨hg.block X hX hO.2.2.1, hO.1, hO.2.1, fun e => own_new hX hO.2.2.1 hat (Option.some.inj (e.trans (rfl : (Value.slice (some ⟨g, 0, none⟩) n cap).ownBlock = some g))), hO.2.2.2⟩⟩ 1 _⟩
  · exact ownsRow_setCell_below (own_grown h.r1 hg (fun k hk e => own_apart h.r1 h.r2 (by decide) hk e.symm)) (by simp) _
  · have := ownsRow_setCell_below ho (a := ⟨B, 1, none⟩) (by simp) (.slice (some ⟨g, 0, none⟩) n cap)
    simpa using this
  · exact ownsRow_setCell_below (own_grown h.r3 hg (fun k hk e => own_apart h.r3 h.r2 (by decide) hk e.symm)) (by simp) _
/-- A lead more. -/
theorem PI.lead (h : PI W B v1 v2 v3 st) (x : LD) (hg : W.grownBy w1 v3.ownBlock) (hat : v3.ownBlock = some g ∨ g = W.heap.size)
    (ho : w1.ownsRow (B + 1) 62 7 (.slice (some ⟨g, 0, none⟩) n cap) (st.leads.length + 1) (st.leads.flatMap ldC ++ ldC x)) :
    PI (w1.setCell ⟨B, 2, none⟩ (.slice (some ⟨g, 0, none⟩) n cap)) B v1 v2 (.slice (some ⟨g, 0, none⟩) n cap) ⟨st.cells, st.labels, st.leads ++ [x]⟩ ∧ Mv W (w1.setCell ⟨B, 2, none⟩ (.slice (some ⟨g, 0, none⟩) n cap)) B v1 v2 v3 v1 v2 (.slice (some ⟨g, 0, none⟩) n cap) := by
  have hB := h.box.lt
  have hlow : ∀ k, v3.ownBlock = some k → B + 1 ≤ k := fun k hk => (own_block h.r3 hk).1
  have hBr : some B ≠ v3.ownBlock := fun e => by have := hlow B e.symm; omega
  refine ⟨⟨(box_grown h.box hg hBr).set 2 _ (by simp), ?_, ?_, ?_⟩, Mv.set ⟨⟨hg.os, hg.tape, hg.output, hg.size, fun k hk => hg.block k (by omega) (fun e => by have := hlow k e.symm; omega)⟩, fun X hX hO => ⟨hg.block X hX hO.2.2.2, hO.1, hO.2.1, hO.2.2.1, fun e => own_new hX hO.2.2.2 hat (Option.some.inj (e.trans (rfl : (Value.slice (some ⟨g, 0, none⟩) n cap).ownBlock = some g)))⟩⟩ 2 _⟩
  · exact ownsRow_setCell_below (own_grown h.r1 hg (fun k hk e => own_apart h.r1 h.r3 (by decide) hk e.symm)) (by simp) _
  · exact ownsRow_setCell_below (own_grown h.r2 hg (fun k hk e => own_apart h.r2 h.r3 (by decide) hk e.symm)) (by simp) _
  · have := ownsRow_setCell_below ho (a := ⟨B, 2, none⟩) (by simp) (.slice (some ⟨g, 0, none⟩) n cap)
    simpa using this
end
theorem Mv.setv1 {w w' : World} {B g n c : Nat} {v2 v3 u1 u2 u3 : Value} (h : Mv w w' B u1 u2 u3 (.slice (some ⟨g, 0, none⟩) n c) v2 v3) (hg : B ≤ g) (i : Nat) (v : Value) : Mv w (w'.setCell ⟨g, i, none⟩ v) B u1 u2 u3 (.slice (some ⟨g, 0, none⟩) n c) v2 v3 :=
  ⟨h.bel.setCell hg v, fun X hX ho => by
    obtain ⟨e1, o1⟩ := h.off X hX ho
    exact ⟨by rw [Below.heap_setCell _ _ _ _ (fun e => o1.2.1 (by subst e; rfl))]; exact e1, o1⟩⟩
theorem own_setOther {w : World} {base : Nat} {e : TypeId} {size : Nat} {v : Value} {n : Nat} {xs : List Value} {g i : Nat} {u : Value} (h : w.ownsRow base e size v n xs) (hne : v.ownBlock ≠ some g) : (w.setCell ⟨g, i, none⟩ u).ownsRow base e size v n xs := by
  obtain ⟨h1, h2⟩ := h
  refine ⟨h1, ?_⟩
  rcases h2 with h2 | ⟨g', cap, cur, rfl, e2, e3, e4⟩
  · exact .inl h2
  · refine .inr ⟨g', cap, cur, rfl, e2, ?_, e4⟩
    rw [Below.heap_setCell _ _ _ _ (fun e => hne (by subst e; rfl))]
    exact e3
/-- A cell is filled in. -/
theorem PI.fill {w : World} {B g c : Nat} {v2 v3 : Value} {cs : List Int} {lb : List LB} {ld : List LD} (h : PI w B (.slice (some ⟨g, 0, none⟩) cs.length c) v2 v3 ⟨cs, lb, ld⟩) (i : Nat) (x : Int) :
    PI (w.setCell ⟨g, i, none⟩ (.int .i64 x)) B (.slice (some ⟨g, 0, none⟩) cs.length c) v2 v3 ⟨cs.set i x, lb, ld⟩ := by
  have hg := (own_block h.r1 (g := g) rfl).1
  refine ⟨h.box.setOther (by omega), ?_, own_setOther h.r2 (own_apart h.r1 h.r2 (by decide) rfl), own_setOther h.r3 (own_apart h.r1 h.r3 (by decide) rfl)⟩
  obtain ⟨h1, h2⟩ := h.r1
  refine ⟨by simp, ?_⟩
  rcases h2 with ⟨h2, _⟩ | ⟨g', cap, cur, e1, e2, e3, e4, e5, e6, e7⟩
  · cases h2
  · injection e1 with ea eb ec
    injection ea with ea
    injection ea with ea
    subst ea
    subst ec
    have hcur : cs.length ≤ cur.size := by rw [e6]; omega
    refine .inr ⟨g, c, cur.setIfInBounds i (.int .i64 x), by simp, e2, ?_, by simpa using e4, e5, by simpa using e6, ?_⟩
    · have hlt : g < w.heap.size := (Array.getElem?_eq_some_iff.1 e3).1
      have e9 : w.heap[g]'hlt = .cells cur 3 (0, 0) := by rw [Array.getElem?_eq_getElem hlt] at e3; exact Option.some.inj e3
      simp only [World.setCell]
      rw [Array.getElem?_eq_getElem (by simpa using hlt), Array.getElem_modify, if_pos rfl, e9]
      rfl
    · have e8 : cur.toList.take cs.length = cs.map inC := by simpa using e7
      show (cur.setIfInBounds i (.int .i64 x)).toList.take ((cs.set i x).length * 1) = (cs.set i x).map inC
      rw [List.length_set, Nat.mul_one, Array.toList_setIfInBounds, List.take_set, e8, List.map_set]
      rfl
theorem info_int : ∃ i, Tryz.prog.info? 3 = some i ∧ i.zero = some (.int .i64 0) ∧ i.size = 1 ∧ i.bytes = 8 := by
  have := show (Tryz.prog.info? 3).map (fun i => (i.zero, i.size, i.bytes)) = some (some (.int .i64 0), 1, 8) by kernel_rfl
  cases h : Tryz.prog.info? 3 with
  | none => rw [h] at this; cases this
  | some i => rw [h] at this; exact ⟨i, rfl, by simpa using this⟩
theorem info_lb : ∃ i, Tryz.prog.info? 30 = some i ∧ i.zero = some (.agg #[.string ByteArray.empty, .int .i64 0]) ∧ i.size = 2 ∧ i.bytes = 24 := by
  have := show (Tryz.prog.info? 30).map (fun i => (i.zero, i.size, i.bytes)) = some (some (.agg #[.string ByteArray.empty, .int .i64 0]), 2, 24) by kernel_rfl
  cases h : Tryz.prog.info? 30 with
  | none => rw [h] at this; cases this
  | some i => rw [h] at this; exact ⟨i, rfl, by simpa using this⟩
theorem info_ld : ∃ i, Tryz.prog.info? 62 = some i ∧ i.zero = some (.agg #[.int .i64 0, .int .i64 0, .int .i64 0, .int .i64 0, .int .i64 0, .int .i64 0, .string ByteArray.empty]) ∧ i.size = 7 ∧ i.bytes = 64 := by
  have := show (Tryz.prog.info? 62).map (fun i => (i.zero, i.size, i.bytes)) = some (some (.agg #[.int .i64 0, .int .i64 0, .int .i64 0, .int .i64 0, .int .i64 0, .int .i64 0, .string ByteArray.empty]), 7, 64) by kernel_rfl
  cases h : Tryz.prog.info? 62 with
  | none => rw [h] at this; cases this
  | some i => rw [h] at this; exact ⟨i, rfl, by simpa using this⟩
end Go.Proofs.YtfafkijcejbcpaaGreatDoor
