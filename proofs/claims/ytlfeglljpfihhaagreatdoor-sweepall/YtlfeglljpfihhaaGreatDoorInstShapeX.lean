/- The project's own table of shapes (package inst), as it lies in memory: 92 cells, read off the row's list of laid variables; and that nothing a call makes turns it. The variables of Go's library that a row lists beside the project's table: the powers of ten, and strconv's two errors: what the walks ask of them, read off the list; and that nothing a call makes turns them. A key that comes in as an argument: taken apart into its five numbers, and read again behind the call. -/
import Derived.Test.YtlfeglljpfihhaaGreatDoorRows
import Derived.Test.YtlfeglljpfihhaaGreatDoorCardBaseX
import Derived.WalkKit
import Derived.ProofKit
import Derived.OpenShut
import Derived.Lib.LaidTab
namespace Go.Proofs.YtlfeglljpfihhaaGreatDoor
section
open Go.ChangeShapes Go.WideShapes Go.ChangeAt Go.RowKit

def shL : List (List UInt8 × Int × Int × Int) := [
  ([104, 97, 108, 116], 0, 0, 0), ([115, 101, 116], 1, 0, 2), ([99, 111, 112, 121], 1, 1, 0), ([97, 100, 100], 1, 1, 1), ([115, 117, 98], 1, 1, 1), ([109, 117, 108], 1, 1, 1), ([100, 105, 118], 1, 1, 1), ([108, 101, 115, 115], 1, 1, 1),
  ([106, 117, 109, 112], 0, 0, 2), ([105, 102], 1, 0, 2), ([108, 111, 97, 100], 1, 1, 2), ([115, 116, 111, 114, 101], 1, 1, 2), ([109, 111, 118, 101], 1, 1, 1), ([110, 97, 114, 114, 111, 119], 1, 1, 1), ([100, 114, 111, 112], 1, 1, 3),
  ([115, 101, 97, 108], 1, 1, 1), ([111, 112, 101, 110], 1, 1, 1), ([97, 115, 107], 1, 1, 4), ([99, 97, 108, 108], 1, 1, 0), ([98, 97, 99, 107], 0, 0, 0), ([104, 101, 114, 101], 1, 0, 0), ([99, 108, 101, 97, 114], 0, 0, 5), ([116, 101, 108, 108], 1, 0, 0)]
def shRow (r : List UInt8 × Int × Int × Int) : List Value := [.string ⟨r.1.toArray⟩, .int .i64 r.2.1, .int .i64 r.2.2.1, .int .i64 r.2.2.2]
def shData {H : Type} (r : List UInt8 × Int × Int × Int) : DataW H := .agg [.lit (.string r.1), .lit (.int .i64 r.2.1), .lit (.int .i64 r.2.2.1), .lit (.int .i64 r.2.2.2)]
def shCells : List (List UInt8 × Int × Int × Int) → List Value
  | [] => []
  | r :: l => shRow r ++ shCells l
def shArr : Array Value := (shCells shL).toArray
theorem sh_get : ∀ (l : List (List UInt8 × Int × Int × Int)) (n j : Nat), j < 4 → (shCells l)[4 * n + j]? = (l[n]?).bind fun r => (shRow r)[j]?
  | [], n, j, _ => by simp [shCells]
  | r :: l, 0, j, h => by
    simp only [shCells, Nat.mul_zero, Nat.zero_add, List.getElem?_cons_zero, Option.bind_some]
    exact List.getElem?_append_left (by simp [shRow]; omega)
  | r :: l, n + 1, j, h => by
    simp only [shCells, List.getElem?_cons_succ]
    rw [← sh_get l n j h, List.getElem?_append_right (by simp [shRow]; omega)]
    congr 1
    simp [shRow]
    omega
def shR (n : Nat) : List UInt8 × Int × Int × Int := shL.getD n ([], 0, 0, 0)
def shW (n : Nat) : List UInt8 := (shR n).1
def shA (n : Nat) : Int := (shR n).2.1
def shB (n : Nat) : Int := (shR n).2.2.1
def shC (n : Nat) : Int := (shR n).2.2.2
theorem sh_at (n : Nat) (hn : n < 23) : shL[n]? = some (shR n) := by
  have h : n < shL.length := hn
  unfold shR
  rw [List.getD_eq_getElem?_getD, List.getElem?_eq_getElem h]
  rfl
theorem sh_arr (n j : Nat) (hn : n < 23) (hj : j < 4) : shArr[4 * n + j]? = (shRow (shR n))[j]? := by
  unfold shArr
  rw [List.getElem?_toArray, sh_get _ _ _ hj, sh_at n hn]
  rfl
/-- The table lies there. -/
def Shp (w : World) : Prop := 0 < w.heap.size ∧ ∀ o, w.cell? ⟨0, o, none⟩ = shArr[o]?
theorem Shp.below {w w' : World} (h : Shp w) (hb : Below w.heap.size w w') : Shp w' :=
  ⟨Nat.lt_of_lt_of_le h.1 hb.size, fun o => (hb.cell (p := ⟨0, o, none⟩) h.1).trans (h.2 o)⟩
theorem Shp.alloc {w : World} (h : Shp w) (x : Obj) : Shp (w.alloc x) := h.below ((Below.refl _ _).alloc (Nat.le_refl _) x)
theorem Shp.row {w : World} (h : Shp w) (n : Nat) (hn : n < 23) : w.cell? ⟨0, n * 4, none⟩ = some (.string ⟨(shW n).toArray⟩) ∧ w.cell? ⟨0, n * 4 + 1, none⟩ = some (.int .i64 (shA n)) ∧
    w.cell? ⟨0, n * 4 + 2, none⟩ = some (.int .i64 (shB n)) ∧ w.cell? ⟨0, n * 4 + 3, none⟩ = some (.int .i64 (shC n)) := by
  rw [Nat.mul_comm n 4]
  exact ⟨(h.2 _).trans (sh_arr n 0 hn (by omega)), (h.2 _).trans (sh_arr n 1 hn (by omega)), (h.2 _).trans (sh_arr n 2 hn (by omega)), (h.2 _).trans (sh_arr n 3 hn (by omega))⟩

theorem cells_shape : Tryz.prog.cellsOf 90 = 4 := by kernel_rfl
theorem cells_shapes : Tryz.prog.cellsOf 91 = 92 := by kernel_rfl
theorem cells_kind : Tryz.prog.cellsOf 88 = 1 := by kernel_rfl
theorem cells_text : Tryz.prog.cellsOf 9 = 1 := by kernel_rfl
theorem list_four {α : Type} {l : List α} (h : l.length = 4) : ∃ c0 c1 c2 c3, l = [c0, c1, c2, c3] := by
  match l, h with
  | [c0, c1, c2, c3], _ => exact ⟨c0, c1, c2, c3, rfl⟩
theorem row_of {H : Type} {enc : TypeId × Value → H} {w : World} {base : Nat} {sp : Nat → Bool} {held : Bool} {fuel : Nat} {cs : List Value} {r : List UInt8 × Int × Int × Int} {p : List MemPlace}
    (h : DataW.trod enc Tryz.prog w base sp held fuel 90 cs = some (shData r, p)) : cs = shRow r := by
  obtain ⟨xs, n, _, hx, hl, hlen, hg⟩ := DataW.trod_struct Tryz.underlying90 h
  rw [cells_shape] at hl
  obtain ⟨c0, c1, c2, c3, rfl⟩ := list_four hl
  obtain ⟨y0, y1, y2, y3, rfl⟩ := list_four hlen
  have g0 := hg 0 _ rfl
  have g1 := hg 1 _ rfl
  have g2 := hg 2 _ rfl
  have g3 := hg 3 _ rfl
  simp [cells_kind, cells_text] at g0 g1 g2 g3
  obtain ⟨s, e0, rfl, _⟩ := DataW.trod_string Tryz.underlying9 g0
  obtain ⟨x1, e1, rfl, _⟩ := DataW.trod_int Tryz.underlying88 g1
  obtain ⟨x2, e2, rfl, _⟩ := DataW.trod_int Tryz.underlying88 g2
  obtain ⟨x3, e3, rfl, _⟩ := DataW.trod_int Tryz.underlying88 g3
  simp only [List.cons.injEq, and_true] at e0 e1 e2 e3
  subst e0 e1 e2 e3
  simp only [shData, Prod.mk.injEq, List.map_cons, List.map_nil, DataW.agg.injEq, List.cons.injEq, DataW.lit.injEq, Lit.string.injEq, Lit.int.injEq, true_and, and_true] at hx
  obtain ⟨⟨h0, h1, h2, h3⟩, _⟩ := hx
  obtain ⟨r0, r1, r2, r3⟩ := r
  simp only at h0 h1 h2 h3
  subst h0 h1 h2 h3
  rfl
theorem shapes_of {w : World} {base : Nat} {sp : Nat → Bool} {held : Bool} {fuel : Nat} {cs : List Value} {p : List MemPlace}
    (h : DataW.trod (fun _ => ()) Tryz.prog w base sp held fuel 91 cs = some (.agg (shL.map shData), p)) : cs = shCells shL := by
  obtain ⟨xs, m, _, hx, hl, hlen, hg⟩ := DataW.trod_array Tryz.underlying91 h
  rw [cells_shapes] at hl
  have hxs : xs.map (·.1) = shL.map shData := by
    have := congrArg Prod.fst hx
    simpa using this.symm
  apply List.ext_getElem?
  intro o
  by_cases ho : o < 92
  · obtain ⟨n, j, hn, hj, rfl⟩ : ∃ n j, n < 23 ∧ j < 4 ∧ o = 4 * n + j := ⟨o / 4, o % 4, by omega, by omega, by omega⟩
    rw [sh_get _ _ _ hj, sh_at n hn, Option.bind_some]
    have g := hg n hn
    rw [cells_shape] at g
    obtain ⟨b, hb⟩ : ∃ b, xs[n]? = some b := ⟨xs[n]'(by omega), List.getElem?_eq_getElem (by omega)⟩
    have hb1 : b.1 = shData (shR n) := by
      have h2 : (xs.map (·.1))[n]? = some b.1 := by simp [hb]
      rw [hxs, List.getElem?_map, sh_at n hn] at h2
      exact (Option.some.inj h2).symm
    rw [hb, show b = (shData (shR n), b.2) from by rw [← hb1]] at g
    have e := row_of g
    have e2 := congrArg (fun l : List Value => l[j]?) e
    simp only [List.getElem?_take, List.getElem?_drop, hj, if_true] at e2
    rw [← e2, Nat.mul_comm]
  · have z : (shCells shL).length = 92 := by rfl
    rw [List.getElem?_eq_none (by omega), List.getElem?_eq_none (by omega)]
theorem laid_mem {P : Program} {w : World} : ∀ {l : List (String × DataW Unit)} {ps : List MemPlace}, DataW.LaidVars P w l ps → ∀ n d, (n, d) ∈ l →
    ∃ g t cs fuel p, P.globalNamed n = some g ∧ (P.globals[g]?).map (·.type) = some t ∧ w.var? P n = some cs ∧ DataW.trod (fun _ => ()) P w 0 (fun _ => true) false fuel t cs.toList = some (d, p)
  | [], _, _, _, _, hm => by cases hm
  | (n', d') :: r, ps, h, n, d, hm => by
    obtain ⟨g, t, cs, fuel, p, q, h1, h2, h3, h4, h5, _⟩ := h
    rcases List.mem_cons.1 hm with e | e
    · cases e
      exact ⟨g, t, cs, fuel, p, h1, h2, h3, h4⟩
    · exact laid_mem h5 n d e
theorem shp_of_laid {w : World} {l : List (String × DataW Unit)} (h : laidMet Tryz.prog l w) (hm : ("custodian/inst.shapes", Rows.laid_custodian_inst_shapes) ∈ l) : Shp w := by
  obtain ⟨ps, hv, _⟩ := h
  obtain ⟨g, t, cs, fuel, p, h1, h2, h3, h4⟩ := laid_mem hv _ _ hm
  obtain rfl : g = 0 := (Option.some.inj ((show Tryz.prog.globalNamed "custodian/inst.shapes" = some 0 by kernel_rfl).symm.trans h1)).symm
  obtain rfl : t = 91 := (Option.some.inj ((show (Tryz.prog.globals[0]?).map (·.type) = some 91 by kernel_rfl).symm.trans h2)).symm
  have e := shapes_of h4
  have hc := World.var?_cell h1 h3
  have e2 : cs = shArr := by
    unfold shArr
    rw [← e]
  subst e2
  refine ⟨?_, hc⟩
  rcases Nat.lt_or_ge 0 w.heap.size with k | k
  · exact k
  · have := hc 0
    rw [World.cell?] at this
    simp [Array.getElem?_eq_none k] at this
    cases this
/-- A cell of an old block stays behind what a call makes. -/
theorem old_cell {w w' : World} {k o : Nat} {v : Value} (h : w.cell? ⟨k, o, none⟩ = some v) (z : k < w.heap.size) (hb : Below w.heap.size w w') : w'.cell? ⟨k, o, none⟩ = some v ∧ k < w'.heap.size :=
  ⟨(hb.cell (p := ⟨k, o, none⟩) z).trans h, Nat.lt_of_lt_of_le z hb.size⟩
theorem Below.one (w : World) (x : Obj) : Below w.heap.size w (w.alloc x) := (Below.refl _ _).alloc (Nat.le_refl _) x
/-- What of the memory is the same at whatever time: nothing old has turned, and these boxes hold what they held. -/
def Cls (w : World) (bs : List (Nat × Array Value)) (w' : World) : Prop := Below w.heap.size w w' ∧ ∀ x ∈ bs, Box w' x.1 x.2
theorem Cls.step {w w0 w1 : World} {bs : List (Nat × Array Value)} (h : Cls w bs w0) (hb : Below w0.heap.size w0 w1) : Cls w bs w1 :=
  ⟨Below.step0 h.1 hb, fun x hx => (h.2 x hx).below hb⟩
theorem Cls.drew {w w0 : World} {bs : List (Nat × Array Value)} (h : Cls w bs w0) : Cls w bs { w0 with drawn := w0.drawn + 1 } :=
  ⟨h.1.drew, fun x hx => ⟨(h.2 x hx).1, (h.2 x hx).2.1, (h.2 x hx).2.2⟩⟩
theorem Cls.mk1 {w w0 : World} {k : Nat} {c : Array Value} (hb : Below w.heap.size w w0) (B : Box w0 k c) : Cls w [(k, c)] w0 := by
  refine ⟨hb, fun x hx => ?_⟩
  simp only [List.mem_cons, List.not_mem_nil, or_false] at hx
  subst hx
  exact B
theorem Cls.mk2 {w w0 : World} {k l : Nat} {c d : Array Value} (hb : Below w.heap.size w w0) (B : Box w0 k c) (C : Box w0 l d) : Cls w [(k, c), (l, d)] w0 := by
  refine ⟨hb, fun x hx => ?_⟩
  simp only [List.mem_cons, List.not_mem_nil, or_false] at hx
  rcases hx with rfl | rfl
  · exact B
  · exact C
theorem Cls.b0 {w w0 : World} {k : Nat} {c : Array Value} {bs : List (Nat × Array Value)} (h : Cls w ((k, c) :: bs) w0) : Box w0 k c := h.2 (k, c) (by simp)
theorem Cls.b1 {w w0 : World} {k l : Nat} {c d : Array Value} {bs : List (Nat × Array Value)} (h : Cls w ((k, c) :: (l, d) :: bs) w0) : Box w0 l d := h.2 (l, d) (by simp)
end
section
open Go.ChangeShapes Go.WideShapes Go.ChangeAt Go.RowKit

theorem var_below {P : Program} {w w' : World} {name : String} {cs : Array Value} (h : w.var? P name = some cs) (hb : Below w.heap.size w w') : w'.var? P name = some cs := by
  unfold World.var? at h ⊢
  cases hg : P.globalNamed name with
  | none => rw [hg] at h; cases h
  | some g =>
    rw [hg] at h
    simp only [Option.bind_some] at h ⊢
    have hlt : g < w.heap.size := by
      rcases Nat.lt_or_ge g w.heap.size with k | k
      · exact k
      · rw [Array.getElem?_eq_none k] at h; cases h
    rw [hb.block g hlt]
    exact h
end
section
open Go.ChangeShapes Go.WideShapes Go.ChangeAt Go.RowKit
set_option maxRecDepth 100000

theorem array5 {α : Type} {cs : Array α} (h : cs.size = 5) : ∃ c0 c1 c2 c3 c4, cs = #[c0, c1, c2, c3, c4] := by
  obtain ⟨l⟩ := cs
  match l, h with
  | [c0, c1, c2, c3, c4], _ => exact ⟨c0, c1, c2, c3, c4, rfl⟩
theorem list5 {α : Type} {l : List α} (h : l.length = 5) : ∃ c0 c1 c2 c3 c4, l = [c0, c1, c2, c3, c4] := by
  match l, h with
  | [c0, c1, c2, c3, c4], _ => exact ⟨c0, c1, c2, c3, c4, rfl⟩
theorem cells_key : Tryz.prog.cellsOf 23 = 5 := by kernel_rfl
theorem cells_int : Tryz.prog.cellsOf 3 = 1 := by kernel_rfl

section
variable {H : Type} {enc : TypeId × Value → H} {w : World} {base : Nat} {spare : Nat → Bool} {held : Bool}
theorem one_int {n : Nat} {c : Value} {y : DataW H × List MemPlace} (h : some y = DataW.trod enc Tryz.prog w base spare held n 3 [c]) :
    ∃ x : Int, c = .int .i64 x ∧ y = (.lit (.int .i64 x), []) ∧ (Lit.int .i64 x).wf = true := by
  obtain ⟨x, e, rfl, wx⟩ := DataW.trod_int Tryz.underlying3 h.symm
  simp at e
  exact ⟨x, e, rfl, wx⟩
theorem open_key {r : Reach} {b0 : Nat} {v : Value} {d : DataW H} {p : List MemPlace} (hv : Value.okWide Tryz.prog w r b0 23 v)
    (h : DataW.Trod enc Tryz.prog w base spare held 23 v d p) :
    ∃ x0 x1 x2 x3 x4 : Int, v = .agg #[.int .i64 x0, .int .i64 x1, .int .i64 x2, .int .i64 x3, .int .i64 x4] ∧
      d = .agg [.lit (.int .i64 x0), .lit (.int .i64 x1), .lit (.int .i64 x2), .lit (.int .i64 x3), .lit (.int .i64 x4)] ∧ p = [] ∧
      (Lit.int .i64 x0).wf = true ∧ (Lit.int .i64 x1).wf = true ∧ (Lit.int .i64 x2).wf = true ∧ (Lit.int .i64 x3).wf = true ∧ (Lit.int .i64 x4).wf = true := by
  obtain ⟨cs, rfl, hsz⟩ := okWide_struct Tryz.underlying23 hv
  obtain ⟨c0, c1, c2, c3, c4, rfl⟩ := array5 (hsz.trans cells_key)
  obtain ⟨fuel, hf⟩ := h
  obtain ⟨xs, n, _, hx, _, hlen, hg⟩ := DataW.trod_struct Tryz.underlying23 hf
  obtain ⟨y0, y1, y2, y3, y4, rfl⟩ := list5 hlen
  have g0 := hg 0 _ rfl
  have g1 := hg 1 _ rfl
  have g2 := hg 2 _ rfl
  have g3 := hg 3 _ rfl
  have g4 := hg 4 _ rfl
  simp [Value.cells, cells_int] at g0 g1 g2 g3 g4
  obtain ⟨x0, rfl, rfl, w0⟩ := one_int g0.symm
  obtain ⟨x1, rfl, rfl, w1⟩ := one_int g1.symm
  obtain ⟨x2, rfl, rfl, w2⟩ := one_int g2.symm
  obtain ⟨x3, rfl, rfl, w3⟩ := one_int g3.symm
  obtain ⟨x4, rfl, rfl, w4⟩ := one_int g4.symm
  simp only [Prod.mk.injEq] at hx
  exact ⟨x0, x1, x2, x3, x4, rfl, by simpa using hx.1, by simpa using hx.2, w0, w1, w2, w3, w4⟩
theorem shut_key {x0 x1 x2 x3 x4 : Int} (w0 : (Lit.int .i64 x0).wf = true) (w1 : (Lit.int .i64 x1).wf = true) (w2 : (Lit.int .i64 x2).wf = true) (w3 : (Lit.int .i64 x3).wf = true) (w4 : (Lit.int .i64 x4).wf = true) :
    DataW.Trod enc Tryz.prog w base spare held 23 (.agg #[.int .i64 x0, .int .i64 x1, .int .i64 x2, .int .i64 x3, .int .i64 x4])
      (.agg [.lit (.int .i64 x0), .lit (.int .i64 x1), .lit (.int .i64 x2), .lit (.int .i64 x3), .lit (.int .i64 x4)]) [] := by
  have one : ∀ x : Int, (Lit.int .i64 x).wf = true → DataW.trod enc Tryz.prog w base spare held 1 3 [.int .i64 x] = some (.lit (.int .i64 x), []) := fun x hx => by
    simp [DataW.trod, Tryz.underlying3, hx]
  have t := trod_struct_mk (enc := enc) (w := w) (base := base) (spare := spare) (held := held) (n := 1) (cs := [.int .i64 x0, .int .i64 x1, .int .i64 x2, .int .i64 x3, .int .i64 x4])
    (xs := [(.lit (.int .i64 x0), []), (.lit (.int .i64 x1), []), (.lit (.int .i64 x2), []), (.lit (.int .i64 x3), []), (.lit (.int .i64 x4), [])]) Tryz.underlying23 (by simp [cells_key])
    (by simp [cells_int, one _ w0, one _ w1, one _ w2, one _ w3, one _ w4])
  exact ⟨2, by simpa [Value.cells] using t⟩
end
end
end Go.Proofs.YtlfeglljpfihhaaGreatDoor
