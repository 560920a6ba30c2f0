/- Plain: one block alone is turned, and what else there was stands; the cells of a machine that steps. -/
import Derived.Test.YthapfaohnliklaaDoorRows
import Derived.Test.YthapfaohnliklaaDoorBits
import Derived.Test.YthapfaohnliklaaDoorKeyPure
import Derived.Test.YthapfaohnliklaaDoorCellPure
import Derived.Test.YthapfaohnliklaaDoorValsArg
import Derived.Test.YthapfaohnliklaaDoorMemPure
import Derived.Test.YthapfaohnliklaaDoorInstShape
import Derived.Test.YthapfaohnliklaaDoorInstDev
import Derived.Test.YthapfaohnliklaaDoorMachArg
import Derived.Test.YthapfaohnliklaaDoorStepChk
import Derived.Test.YthapfaohnliklaaDoorStepChk2
import Derived.Test.YthapfaohnliklaaDoorStepRow
import Derived.WalkKit
import Derived.Below
namespace Go.Proofs.YthapfaohnliklaaDoor
open Go.RowKit
set_option linter.unusedVariables false
set_option maxRecDepth 100000

/-- Of what there was in w the block S alone may be another one in w'. -/
structure Off (S : Nat) (w w' : World) : Prop where
  os : w'.os = w.os
  tape : w'.tape = w.tape
  output : w'.output = w.output
  size : w.heap.size ≤ w'.heap.size
  block : ∀ k, k < w.heap.size → k ≠ S → w'.heap[k]? = w.heap[k]?
theorem Off.refl (S : Nat) (w : World) : Off S w w := ⟨rfl, rfl, rfl, Nat.le_refl _, fun _ _ _ => rfl⟩
theorem Off.trans {S : Nat} {a b c : World} (h : Off S a b) (k : Off S b c) : Off S a c :=
  ⟨k.os.trans h.os, k.tape.trans h.tape, k.output.trans h.output, Nat.le_trans h.size k.size, fun i hi hn => (k.block i (Nat.lt_of_lt_of_le hi h.size) hn).trans (h.block i hi hn)⟩
theorem Off.below {S : Nat} {a b c : World} (h : Off S a b) (k : Below b.heap.size b c) : Off S a c :=
  h.trans ⟨k.os, k.tape, k.output, k.size, fun i hi _ => k.block i hi⟩
theorem Off.drew {S : Nat} {a b : World} (h : Off S a b) : Off S a b.drew := ⟨h.os, h.tape, h.output, h.size, h.block⟩
theorem Off.alloc {S : Nat} {a b : World} (h : Off S a b) (o : Obj) : Off S a (b.alloc o) := h.below ((Below.refl _ _).alloc (Nat.le_refl _) o)
theorem Off.set {S : Nat} {a b : World} (h : Off S a b) (o : Nat) (u : Value) : Off S a (b.setCell ⟨S, o, none⟩ u) :=
  h.trans ⟨rfl, rfl, rfl, by simp [World.setCell], fun k _ hn => Below.heap_setCell _ _ _ _ hn⟩
/-- A store into a block that was not there. -/
theorem Off.setNew {S : Nat} {a b : World} (h : Off S a b) {p : Addr} (hp : a.heap.size ≤ p.block) (u : Value) : Off S a (b.setCell p u) :=
  ⟨h.os, h.tape, h.output, by simpa [World.setCell] using h.size, fun k hk hn => by rw [Below.heap_setCell _ _ _ _ (by omega)]; exact h.block k hk hn⟩
theorem Off.to {S n : Nat} {a b : World} (h : Off S a b) (hn : n ≤ S) (hS : S ≤ a.heap.size) : Below n a b := ⟨h.os, h.tape, h.output, h.size, fun k hk => h.block k (by omega) (by omega)⟩
theorem Off.box {S k : Nat} {a b : World} {c : Array Value} (h : Off S a b) (hb : Box a k c) (hk : k ≠ S) : Box b k c := by
  have e := h.block k hb.lt hk
  refine ⟨Nat.lt_of_lt_of_le hb.1 h.size, fun o => ?_, fun o => ?_⟩
  · rw [World.cell?_of_block (w := a) (a := ⟨k, o, none⟩) e]; exact hb.2.1 o
  · rw [World.frozen?_of_block (w := a) (a := ⟨k, o, none⟩) e]; exact hb.2.2 o
def Far (S bb : Nat) (a : Option Addr) : Prop := ∀ x ∈ a, x.block ≠ S ∧ bb < x.block
theorem Off.row {S bb : Nat} {a b : World} {p : Option Addr} {cs : List Value} (h : Off S a b) (hr : RowAt a p cs) (hf : Far S bb p) : RowAt b p cs := by
  rcases hr with h0 | ⟨B, off, rfl, hB, hc⟩
  · exact .inl h0
  · have hne : B ≠ S := (hf ⟨B, off, none⟩ rfl).1
    refine .inr ⟨B, off, rfl, Nat.lt_of_lt_of_le hB h.size, fun j u hj => ?_⟩
    rw [World.cell?_of_block (w := a) (a := ⟨B, off + j, none⟩) (h.block B hB hne)]
    exact hc j u hj
structure FarM (S bb : Nat) (q : MA) : Prop where
  m : Far S bb q.m
  s : Far S bb q.s
  o : Far S bb q.o
theorem Off.mc {S bb : Nat} {a b : World} {x : MC} {q : MA} (h : Off S a b) (hr : McAt a x q) (hf : FarM S bb q) : McAt b x q :=
  ⟨RowAt.vals (h.row hr.m.row hf.m), h.row hr.s hf.s, h.row hr.o hf.o, hr.c⟩
def stT (i : ID) (n : K5) : List Value := [.int .i64 i.o, .int .i64 i.a, .int .i64 i.b, .int .i64 i.c, .int .i64 n.p, .int .i64 n.b, .int .i64 n.l, .int .i64 n.a, .int .i64 n.s]
/-- The cells of a machine that steps: the machine, its instruction, and the key by which it goes on. -/
def stC (x : MC) (q : MA) (i : ID) (n : K5) : List Value := mcC x q ++ stT i n
/-- It lies in block S. -/
structure St (w : World) (S bb : Nat) (x : MC) (q : MA) (i : ID) (n : K5) : Prop where
  box : Box w S (stC x q i n).toArray
  at_ : McAt w x q
  far : FarM S bb q
  r8 : x.r.length = 8
  lb : bb < w.heap.size
theorem St.below {w w' : World} {S bb : Nat} {x : MC} {q : MA} {i : ID} {n : K5} (h : St w S bb x q i n) (hb : Below w.heap.size w w') : St w' S bb x q i n := ⟨h.box.below hb, h.at_.below hb, h.far, h.r8, Nat.lt_of_lt_of_le h.lb hb.size⟩
theorem Box.drew {w : World} {k : Nat} {c : Array Value} (h : Box w k c) : Box w.drew k c := ⟨h.1, h.2.1, h.2.2⟩
theorem below_drew (w : World) : Below w.heap.size w w.drew := (Below.refl _ _).drew
theorem St.drew {w : World} {S bb : Nat} {x : MC} {q : MA} {i : ID} {n : K5} (h : St w S bb x q i n) : St w.drew S bb x q i n := h.below (below_drew w)
theorem mc_len {x : MC} {q : MA} (h8 : x.r.length = 8) : (mcC x q).length = 64 := by
  unfold mcC
  rw [List.length_append, mv_len, h8]
  rfl
/-- The cells, one by one. -/
structure StCells (w : World) (S : Nat) (x : MC) (q : MA) (i : ID) (n : K5) : Prop where
  k0 : w.cell? ⟨S, 56, none⟩ = some (.int .i64 x.k.p)
  k1 : w.cell? ⟨S, 57, none⟩ = some (.int .i64 x.k.b)
  k2 : w.cell? ⟨S, 58, none⟩ = some (.int .i64 x.k.l)
  k3 : w.cell? ⟨S, 59, none⟩ = some (.int .i64 x.k.a)
  k4 : w.cell? ⟨S, 60, none⟩ = some (.int .i64 x.k.s)
  lm : w.cell? ⟨S, 61, none⟩ = some (.slice q.m x.m.length q.cm)
  ls : w.cell? ⟨S, 62, none⟩ = some (.slice q.s x.s.length q.cs)
  lo : w.cell? ⟨S, 63, none⟩ = some (.slice q.o x.o.length q.co)
  io : w.cell? ⟨S, 64, none⟩ = some (.int .i64 i.o)
  ia : w.cell? ⟨S, 65, none⟩ = some (.int .i64 i.a)
  ib : w.cell? ⟨S, 66, none⟩ = some (.int .i64 i.b)
  ic : w.cell? ⟨S, 67, none⟩ = some (.int .i64 i.c)
  n0 : w.cell? ⟨S, 68, none⟩ = some (.int .i64 n.p)
  n1 : w.cell? ⟨S, 69, none⟩ = some (.int .i64 n.b)
  n2 : w.cell? ⟨S, 70, none⟩ = some (.int .i64 n.l)
  n3 : w.cell? ⟨S, 71, none⟩ = some (.int .i64 n.a)
  n4 : w.cell? ⟨S, 72, none⟩ = some (.int .i64 n.s)
theorem st_cell {w : World} {S bb : Nat} {x : MC} {q : MA} {i : ID} {n : K5} (h : St w S bb x q i n) (o : Nat) : w.cell? ⟨S, o, none⟩ = (stC x q i n)[o]? := by rw [h.box.cell, List.getElem?_toArray]
theorem st_lo {x : MC} {q : MA} {i : ID} {n : K5} (h8 : x.r.length = 8) {j : Nat} {u : Value} (hj : (mcT x q)[j]? = some u) : (stC x q i n)[56 + j]? = some u := by
  have hl : (x.r.flatMap mvC).length = 56 := by rw [mv_len, h8]
  unfold stC mcC
  rw [List.append_assoc, List.getElem?_append_right (by omega), hl, Nat.add_sub_cancel_left, List.getElem?_append_left (List.getElem?_eq_some_iff.1 hj).1]
  exact hj
theorem st_hi {x : MC} {q : MA} {i : ID} {n : K5} (h8 : x.r.length = 8) {j : Nat} {u : Value} (hj : (stT i n)[j]? = some u) : (stC x q i n)[64 + j]? = some u := by
  unfold stC
  rw [List.getElem?_append_right (by rw [mc_len h8]; omega), mc_len h8, Nat.add_sub_cancel_left]
  exact hj
theorem St.cells {w : World} {S bb : Nat} {x : MC} {q : MA} {i : ID} {n : K5} (h : St w S bb x q i n) : StCells w S x q i n := by
  have g : ∀ j u, (mcT x q)[j]? = some u → w.cell? ⟨S, 56 + j, none⟩ = some u := fun j u hj => by rw [st_cell h]; exact st_lo h.r8 hj
  have f : ∀ j u, (stT i n)[j]? = some u → w.cell? ⟨S, 64 + j, none⟩ = some u := fun j u hj => by rw [st_cell h]; exact st_hi h.r8 hj
  exact ⟨g 0 _ rfl, g 1 _ rfl, g 2 _ rfl, g 3 _ rfl, g 4 _ rfl, g 5 _ rfl, g 6 _ rfl, g 7 _ rfl, f 0 _ rfl, f 1 _ rfl, f 2 _ rfl, f 3 _ rfl, f 4 _ rfl, f 5 _ rfl, f 6 _ rfl, f 7 _ rfl, f 8 _ rfl⟩
theorem St.reg {w : World} {S bb : Nat} {x : MC} {q : MA} {i : ID} {n : K5} {k : Nat} {v : MV} (h : St w S bb x q i n) (hv : x.r[k]? = some v) : At7 w S (k * 7) v := by
  have hk : k < 8 := by have := (List.getElem?_eq_some_iff.1 hv).1; have := h.r8; omega
  have hl : (x.r.flatMap mvC).length = 56 := by rw [mv_len, h.r8]
  have g : ∀ j u, j < 7 → (mvC v)[j]? = some u → w.cell? ⟨S, k * 7 + j, none⟩ = some u := fun j u hj hu => by
    rw [st_cell h]
    unfold stC mcC
    rw [List.append_assoc, List.getElem?_append_left (by omega), mv_cell x.r k v j hv hj]
    exact hu
  exact ⟨g 0 _ (by omega) rfl, g 1 _ (by omega) rfl, g 2 _ (by omega) rfl, g 3 _ (by omega) rfl, g 4 _ (by omega) rfl, g 5 _ (by omega) rfl, g 6 _ (by omega) rfl⟩
theorem Box.setL {w : World} {k : Nat} {L : List Value} {j : Nat} {v : Value} (h : Box w k L.toArray) (hj : j < L.length) : Box (w.setCell ⟨k, j, none⟩ v) k (L.set j v).toArray := by
  have hc : w.cell? ⟨k, j, none⟩ = some (L[j]'hj) := by rw [h.cell, List.getElem?_toArray]; exact List.getElem?_eq_getElem hj
  refine ⟨by simpa [World.setCell] using h.lt, fun o => ?_, fun o => ?_⟩
  · rw [List.getElem?_toArray]
    by_cases e : j = o
    · subst e
      rw [World.cell?_setCell_same _ _ _ hc, List.getElem?_set_self hj]
    · rw [World.cell?_setCell_other _ _ _ _ (fun x => e (by injection x)), List.getElem?_set_ne e, h.cell, List.getElem?_toArray]
  · rw [World.frozen?_setCell]
    exact h.free o
/-- One register is another value. -/
theorem set_reg (x : MC) (q : MA) (i : ID) (n : K5) (k : Nat) (v : MV) (h8 : x.r.length = 8) (hk : k < 8) :
    ((((((((stC x q i n).set (k * 7) (.bool v.i)).set (k * 7 + 1) (.int .i64 v.n)).set (k * 7 + 2) (.int .i64 v.p)).set (k * 7 + 3) (.int .i64 v.b)).set (k * 7 + 4) (.int .i64 v.l)).set (k * 7 + 5) (.int .i64 v.a)).set (k * 7 + 6) (.int .i64 v.s)) = stC { x with r := x.r.set k v } q i n := by
  have hl : (x.r.flatMap mvC).length = 56 := by rw [mv_len, h8]
  have e := set_flatM x.r k v (by omega)
  unfold stC mcC mcT
  simp only [List.append_assoc]
  rw [← e]
  have hs : ∀ (A B : List Value) (j : Nat) (u : Value), j < A.length → (A ++ B).set j u = A.set j u ++ B := fun A B j u hj => List.set_append_left _ _ hj
  rw [hs _ _ _ _ (by omega), hs _ _ _ _ (by rw [List.length_set]; omega), hs _ _ _ _ (by simp only [List.length_set]; omega), hs _ _ _ _ (by simp only [List.length_set]; omega), hs _ _ _ _ (by simp only [List.length_set]; omega), hs _ _ _ _ (by simp only [List.length_set]; omega), hs _ _ _ _ (by simp only [List.length_set]; omega)]
end Go.Proofs.YthapfaohnliklaaDoor
