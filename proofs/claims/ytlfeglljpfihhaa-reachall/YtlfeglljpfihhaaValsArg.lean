/- A list of values that comes in as an argument: where its cells lie. -/
import Derived.Test.YtlfeglljpfihhaaRows
import Derived.Test.YtlfeglljpfihhaaKeyArg
import Derived.Test.YtlfeglljpfihhaaValArg
import Derived.Test.YtlfeglljpfihhaaKeyPure
import Derived.Test.YtlfeglljpfihhaaCellPure
import Derived.WalkKit
import Derived.ProofKit
import Derived.OpenShut
import Derived.Deep.Slices
namespace Go.Proofs.Ytlfeglljpfihhaa
open Go.ChangeShapes Go.WideShapes Go.ChangeAt Go.RowKit
set_option maxRecDepth 100000

theorem addr_add (B off n : Nat) : (⟨B, off, none⟩ : Addr).add n = ⟨B, off + n, none⟩ := by unfold Addr.add; split <;> simp_all
/-- A value: a bool and six numbers. -/
structure MV where
  i : Bool
  n : Int
  p : Int
  b : Int
  l : Int
  a : Int
  s : Int
def nil0 : MV := ⟨false, 0, 0, 0, 0, 0, 0⟩
def mvC (v : MV) : List Value := [.bool v.i, .int .i64 v.n, .int .i64 v.p, .int .i64 v.b, .int .i64 v.l, .int .i64 v.a, .int .i64 v.s]
def mvA (v : MV) : Array Value := #[.bool v.i, .int .i64 v.n, .int .i64 v.p, .int .i64 v.b, .int .i64 v.l, .int .i64 v.a, .int .i64 v.s]
def mvOk (v : MV) : Prop := vb v.n v.p v.b v.l v.a v.s
theorem mv_len (vs : List MV) : (vs.flatMap mvC).length = vs.length * 7 := by
  induction vs with
  | nil => rfl
  | cons v vs ih => rw [List.flatMap_cons, List.length_append, ih, List.length_cons]; show 7 + _ = _; omega
theorem mv_cell : ∀ (vs : List MV) (k : Nat) (v : MV) (j : Nat), vs[k]? = some v → j < 7 → (vs.flatMap mvC)[k * 7 + j]? = (mvC v)[j]?
  | [], k, v, j, h, _ => by simp at h
  | c :: vs, 0, v, j, h, hj => by
    simp only [List.getElem?_cons_zero, Option.some.injEq] at h
    subst h
    rw [List.flatMap_cons, List.getElem?_append_left (by show _ < 7; omega), Nat.zero_mul, Nat.zero_add]
  | c :: vs, k + 1, v, j, h, hj => by
    have ih := mv_cell vs k v j (by simpa using h) hj
    rw [List.flatMap_cons, List.getElem?_append_right (by show 7 ≤ _; omega)]
    show (vs.flatMap mvC)[(k + 1) * 7 + j - 7]? = _
    rw [show (k + 1) * 7 + j - 7 = k * 7 + j by omega]
    exact ih
theorem mv_one (vs : List MV) : ∀ u ∈ vs.flatMap mvC, u.oneCell' = true := fun u hu => by
  obtain ⟨v, _, hv⟩ := List.mem_flatMap.1 hu
  simp only [mvC, List.mem_cons, List.not_mem_nil, or_false] at hv
  rcases hv with rfl | rfl | rfl | rfl | rfl | rfl | rfl <;> rfl
/-- Where a list of values lies. -/
def ValsAt (w : World) (a : Option Addr) (vs : List MV) : Prop :=
  vs = [] ∨ ∃ B off : Nat, a = some ⟨B, off, none⟩ ∧ B < w.heap.size ∧ ∀ (j : Nat) u, (vs.flatMap mvC)[j]? = some u → w.cell? ⟨B, off + j, none⟩ = some u
theorem ValsAt.below {w w' : World} {a : Option Addr} {vs : List MV} (h : ValsAt w a vs) (hb : Below w.heap.size w w') : ValsAt w' a vs := by
  rcases h with h | ⟨B, off, e, hB, hc⟩
  · exact .inl h
  · exact .inr ⟨B, off, e, Nat.lt_of_lt_of_le hB hb.size, fun j u hj => by rw [hb.cell (p := ⟨B, off + j, none⟩) hB]; exact hc j u hj⟩
/-- The seven cells of one of them. -/
def At7 (w : World) (B o : Nat) (v : MV) : Prop :=
  w.cell? ⟨B, o, none⟩ = some (.bool v.i) ∧ w.cell? ⟨B, o + 1, none⟩ = some (.int .i64 v.n) ∧ w.cell? ⟨B, o + 2, none⟩ = some (.int .i64 v.p) ∧ w.cell? ⟨B, o + 3, none⟩ = some (.int .i64 v.b) ∧
  w.cell? ⟨B, o + 4, none⟩ = some (.int .i64 v.l) ∧ w.cell? ⟨B, o + 5, none⟩ = some (.int .i64 v.a) ∧ w.cell? ⟨B, o + 6, none⟩ = some (.int .i64 v.s)
theorem ValsAt.at {w : World} {a : Option Addr} {vs : List MV} {k : Nat} {v : MV} (h : ValsAt w a vs) (hk : vs[k]? = some v) : ∃ B off : Nat, a = some ⟨B, off, none⟩ ∧ B < w.heap.size ∧ At7 w B (off + k * 7) v := by
  rcases h with rfl | ⟨B, off, e, hB, hc⟩
  · simp at hk
  · refine ⟨B, off, e, hB, ?_⟩
    have f : ∀ (j : Nat) (u : Value), j < 7 → (mvC v)[j]? = some u → w.cell? ⟨B, off + k * 7 + j, none⟩ = some u := fun j u hj hu => by
      rw [Nat.add_assoc]
      exact hc _ _ (by rw [mv_cell vs k v j hk hj]; exact hu)
    exact ⟨f 0 _ (by omega) rfl, f 1 _ (by omega) rfl, f 2 _ (by omega) rfl, f 3 _ (by omega) rfl, f 4 _ (by omega) rfl, f 5 _ (by omega) rfl, f 6 _ (by omega) rfl⟩
def mvsOk (vs : List MV) : Prop := ∀ v ∈ vs, mvOk v
theorem mvs_at {vs : List MV} {k : Nat} {v : MV} (h : mvsOk vs) (hk : vs[k]? = some v) : mvOk v := h v (List.mem_of_getElem? hk)
section
variable {H : Type} {enc : TypeId × Value → H} {w : World}
theorem cell_lt {w : World} {a : Addr} {v : Value} (h : w.cell? a = some v) : a.block < w.heap.size := by
  rcases Nat.lt_or_ge a.block w.heap.size with hl | hg
  · exact hl
  · unfold World.cell? at h
    rw [Array.getElem?_eq_none hg] at h
    simp at h
theorem list7 {α : Type} {l : List α} (h : l.length = 7) : ∃ c0 c1 c2 c3 c4 c5 c6, l = [c0, c1, c2, c3, c4, c5, c6] := by
  match l, h with
  | [c0, c1, c2, c3, c4, c5, c6], _ => exact ⟨c0, c1, c2, c3, c4, c5, c6, rfl⟩
theorem seven_val {n : Nat} {cs : List Value} {y : DataW H × List MemPlace} (hl : cs.length = 7) (h : some y = DataW.trod enc Try.prog w 0 (fun _ => true) true n 25 cs) : ∃ v : MV, cs = mvC v ∧ mvOk v := by
  obtain ⟨c0, c1, c2, c3, c4, c5, c6, rfl⟩ := list7 hl
  obtain ⟨xs, k, _, _, _, hxl, hg⟩ := DataW.trod_struct Try.underlying25 h.symm
  obtain ⟨y0, y1, y2, rfl⟩ := list3 hxl
  have g0 := hg 0 _ rfl
  have g1 := hg 1 _ rfl
  have g2 := hg 2 _ rfl
  simp [cells_int, cells_bool, cells_key] at g0 g1 g2
  obtain ⟨i, rfl, rfl⟩ := one_bool g0.symm
  obtain ⟨m, rfl, rfl, wn⟩ := one_int g1.symm
  obtain ⟨x0, x1, x2, x3, x4, rfl, rfl, rfl, rfl, rfl, rfl, w0, w1, w2, w3, w4⟩ := five_key g2.symm
  exact ⟨⟨i, m, x0, x1, x2, x3, x4⟩, rfl, bounds_i64 wn, bounds_i64 w0, bounds_i64 w1, bounds_i64 w2, bounds_i64 w3, bounds_i64 w4⟩
theorem list_of (n : Nat) (P : Nat → MV → Prop) (h : ∀ i, i < n → ∃ x, P i x) : ∃ xs : List MV, xs.length = n ∧ ∀ i x, xs[i]? = some x → P i x := by
  induction n with
  | zero => exact ⟨[], rfl, fun i x hx => by simp at hx⟩
  | succ n ih =>
    obtain ⟨xs, e, hp⟩ := ih (fun i hi => h i (by omega))
    obtain ⟨x, hx⟩ := h n (by omega)
    refine ⟨xs ++ [x], by simp [e], fun i y hy => ?_⟩
    rcases Nat.lt_or_ge i n with h1 | h1
    · rw [List.getElem?_append_left (by omega)] at hy
      exact hp i y hy
    · rw [List.getElem?_append_right (by omega)] at hy
      rcases Nat.eq_or_lt_of_le h1 with h2 | h2
      · subst h2
        rw [e, Nat.sub_self] at hy
        injection hy with hy
        subst hy
        exact hx
      · rw [List.getElem?_eq_none (by simp; omega)] at hy
        cases hy
theorem flat_of {w : World} {B off : Nat} : ∀ (vs : List MV), (∀ k v, vs[k]? = some v → ∀ j u, (mvC v)[j]? = some u → w.cell? ⟨B, off + k * 7 + j, none⟩ = some u) → ∀ (j : Nat) u, (vs.flatMap mvC)[j]? = some u → w.cell? ⟨B, off + j, none⟩ = some u := fun vs h j u hj => by
  have hlt : j < (vs.flatMap mvC).length := (List.getElem?_eq_some_iff.1 hj).1
  rw [mv_len] at hlt
  have hk : j / 7 < vs.length := by omega
  obtain ⟨v, hv⟩ : ∃ v, vs[j / 7]? = some v := ⟨_, List.getElem?_eq_getElem hk⟩
  have e : j = j / 7 * 7 + j % 7 := by omega
  rw [e, mv_cell vs (j / 7) v (j % 7) hv (by omega)] at hj
  have := h (j / 7) v hv (j % 7) u hj
  rw [Nat.add_assoc, ← e] at this
  exact this
theorem open_vals {a : Option Addr} {len cap : Nat} {d : DataW H} {p : List MemPlace} (h : DataW.Trod enc Try.prog w 0 (fun _ => true) true 27 (.slice a len cap) d p) : ∃ vs : List MV, vs.length = len ∧ len ≤ cap ∧ cap ≤ maxLen ∧ mvsOk vs ∧ ValsAt w a vs := by
  obtain ⟨fuel, hf⟩ := h
  rcases Go.Deep.open_slice Try.underlying27 hf with ⟨hcs, _⟩ | ⟨a', len', cap', m, n, D, Pl, hcs, _, hl, hm, hmm, _, hx⟩
  · simp [Value.cells] at hcs
    obtain ⟨rfl, rfl, rfl⟩ := hcs
    exact ⟨[], rfl, by omega, by unfold maxLen; omega, fun x hx => by simp at hx, .inl rfl⟩
  · simp [Value.cells] at hcs
    obtain ⟨rfl, rfl, rfl⟩ := hcs
    have hm' : m = cap := by simpa using hmm
    subst hm'
    obtain ⟨B, off, sp⟩ := a'
    have key : ∀ i, i < len → ∃ v : MV, mvOk v ∧ ∀ j u, (mvC v)[j]? = some u → w.cell? ((Addr.add ⟨B, off, sp⟩ (i * 7)).add j) = some u := by
      intro i hi
      obtain ⟨cs, h1, h2⟩ := hx i (by omega)
      rw [cells_val] at h1
      obtain ⟨_, hlen, hcell⟩ := World.cells?_some h1
      obtain ⟨v, rfl, hok⟩ := seven_val hlen h2.symm
      refine ⟨v, hok, fun j u hj => ?_⟩
      have hj7 : j < 7 := (List.getElem?_eq_some_iff.1 hj).1
      rw [hcell j hj7]
      exact hj
    obtain ⟨vs, hvl, hp⟩ := list_of len _ key
    refine ⟨vs, hvl, hl, hm, ?_, ?_⟩
    · intro v hv
      obtain ⟨i, hi⟩ := List.mem_iff_getElem?.1 hv
      exact (hp i v hi).1
    · rcases Nat.eq_zero_or_pos len with h0 | hpos
      · exact .inl (List.length_eq_zero_iff.1 (by omega))
      right
      obtain ⟨v0, hv0⟩ : ∃ v, vs[0]? = some v := ⟨_, List.getElem?_eq_getElem (by omega)⟩
      have h0 := (hp 0 v0 hv0).2 0 _ rfl
      have hsp : sp = none := by simpa [Addr.add] using World.cell?_spot h0
      subst hsp
      refine ⟨B, off, rfl, by simpa [Addr.add] using cell_lt h0, flat_of vs fun k v hk j u hj => ?_⟩
      have := (hp k v hk).2 j u hj
      rw [addr_add, addr_add] at this
      exact this
end
end Go.Proofs.Ytlfeglljpfihhaa
