/- A box that holds a whole machine: one of its registers is stored, and read. -/
import Derived.Test.YthapfaohnliklaaDoorRows
import Derived.Test.YthapfaohnliklaaDoorKeyPure
import Derived.Test.YthapfaohnliklaaDoorValsArg
import Derived.Test.YthapfaohnliklaaDoorMachArg
import Derived.Test.YthapfaohnliklaaDoorStepOff
import Derived.Test.YthapfaohnliklaaDoorStepMid
import Derived.Test.YthapfaohnliklaaDoorStepOwn
import Derived.Test.YthapfaohnliklaaDoorRangeW
import Derived.Test.YthapfaohnliklaaDoorInMid
import Derived.WalkKit
import Derived.ProofKit
import Derived.Deep.MidRow
namespace Go.Proofs.YthapfaohnliklaaDoor
open Go.ChangeShapes Go.WideShapes Go.ChangeAt Go.RowKit
set_option linter.unusedSimpArgs false
set_option linter.unusedVariables false
set_option maxRecDepth 100000

theorem set_regM (x : MC) (q : MA) (k : Nat) (v : MV) (h8 : x.r.length = 8) (hk : k < 8) :
    ((((((((mcC x q).set (k * 7) (.bool v.i)).set (k * 7 + 1) (.int .i64 v.n)).set (k * 7 + 2) (.int .i64 v.p)).set (k * 7 + 3) (.int .i64 v.b)).set (k * 7 + 4) (.int .i64 v.l)).set (k * 7 + 5) (.int .i64 v.a)).set (k * 7 + 6) (.int .i64 v.s)) = mcC (putR x k v) q := by
  have hl : (x.r.flatMap mvC).length = 56 := by rw [mv_len, h8]
  have e := set_flatM x.r k v (by omega)
  unfold mcC mcT putR
  rw [← e]
  have hs : ∀ (A B : List Value) (j : Nat) (u : Value), j < A.length → (A ++ B).set j u = A.set j u ++ B := fun A B j u hj => List.set_append_left _ _ hj
  rw [hs _ _ _ _ (by omega), hs _ _ _ _ (by rw [List.length_set]; omega), hs _ _ _ _ (by simp only [List.length_set]; omega), hs _ _ _ _ (by simp only [List.length_set]; omega), hs _ _ _ _ (by simp only [List.length_set]; omega), hs _ _ _ _ (by simp only [List.length_set]; omega), hs _ _ _ _ (by simp only [List.length_set]; omega)]
theorem put_r8 {x : MC} {k : Nat} {v : MV} (h8 : x.r.length = 8) : (putR x k v).r.length = 8 := by
  unfold putR
  rw [List.length_set]
  exact h8
theorem mc_len64 {x : MC} {q : MA} (h8 : x.r.length = 8) : (mcC x q).length = 64 := by
  unfold mcC
  rw [List.length_append, mv_len, h8]
  rfl
section
variable {w : World} {S : Nat} {x : MC} {q : MA} {k : Nat}
theorem box_put (h : Box w S (mcC x q).toArray) (h8 : x.r.length = 8) (hk : k < 8) (u : MV) : Box (w.setCells S (k * 7) (mvC u)) S (mcC (putR x k u) q).toArray := by
  have hl := mc_len64 (q := q) h8
  have b := ((((((h.setL (v := .bool u.i) (j := k * 7) (by omega)).setL (v := .int .i64 u.n) (j := k * 7 + 1) (by simp only [List.length_set]; omega)).setL (v := .int .i64 u.p) (j := k * 7 + 2) (by simp only [List.length_set]; omega)).setL (v := .int .i64 u.b) (j := k * 7 + 3) (by simp only [List.length_set]; omega)).setL (v := .int .i64 u.l) (j := k * 7 + 4) (by simp only [List.length_set]; omega)).setL (v := .int .i64 u.a) (j := k * 7 + 5) (by simp only [List.length_set]; omega)).setL (v := .int .i64 u.s) (j := k * 7 + 6) (by simp only [List.length_set]; omega)
  rw [set_regM x q k u h8 hk] at b
  exact b
theorem box_reg {v : MV} (h : Box w S (mcC x q).toArray) (h8 : x.r.length = 8) (hv : x.r[k]? = some v) : At7 w S (k * 7) v := by
  have hk : k < 8 := by have := (List.getElem?_eq_some_iff.1 hv).1; omega
  have hl : (x.r.flatMap mvC).length = 56 := by rw [mv_len, h8]
  have g : ∀ j u, j < 7 → (mvC v)[j]? = some u → w.cell? ⟨S, k * 7 + j, none⟩ = some u := fun j u hj hu => by
    rw [h.cell, List.getElem?_toArray]
    unfold mcC
    rw [List.getElem?_append_left (by omega), mv_cell x.r k v j hv hj]
    exact hu
  exact ⟨g 0 _ (by omega) rfl, g 1 _ (by omega) rfl, g 2 _ (by omega) rfl, g 3 _ (by omega) rfl, g 4 _ (by omega) rfl, g 5 _ (by omega) rfl, g 6 _ (by omega) rfl⟩
theorem info_val7 : (Tryd.prog.info? 25).map (·.size) = some 7 := by kernel_rfl
theorem val_one (v : MV) : ∀ u ∈ mvC v, u.oneCell' = true := by
  intro u hu
  simp only [mvC, List.mem_cons, List.not_mem_nil, or_false] at hu
  rcases hu with rfl | rfl | rfl | rfl | rfl | rfl | rfl <;> rfl
/-- A register is stored, by a plain statement. -/
theorem pl_store_reg {ops : Array Oper} {rest : List Oper} {o : Oper} {a : Act} {Q : Exit → Act → World → Prop} (hg : o.guard = none) (y z : Operand) (ho : o.op = .store 25 y z) (u : MV)
    (hy : a.eval y = .pointer (some ⟨S, k * 7, none⟩)) (hz : a.eval z = .agg (mvC u).toArray) (hb : Box w S (mcC x q).toArray) (h8 : x.r.length = 8) (hk : k < 8)
    (h : ∀ W, Off S w W → Box W S (mcC (putR x k u) q).toArray → wpList Tryd.prog ops Q rest (a.put o.dst undef) W) : wpList Tryd.prog ops Q (o :: rest) a w := by
  have hl := mc_len64 (q := q) h8
  have ht : w.there S (k * 7) (mvC u).toArray.size := fun j hj => by
    have hj7 : j < 7 := hj
    rw [hb.cell]
    exact ⟨by rw [List.getElem?_toArray, List.getElem?_eq_getElem (by omega)]; rfl, hb.free _⟩
  exact wpList_plain hg fun _ hK => wp_store_mid _ y z ho S (k * 7) (mvC u).toArray hy hz ht (by rw [info_val7]; rfl) (all_oneCell_toArray (val_one u)) (hK _ _ (h _ (Off.cells S (mvC u) (k * 7) w (Off.refl S w) (.inl rfl)) (box_put hb h8 hk u)))
end
end Go.Proofs.YthapfaohnliklaaDoor
