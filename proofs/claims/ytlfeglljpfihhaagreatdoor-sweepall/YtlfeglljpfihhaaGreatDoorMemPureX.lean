/- Plain: what chapter 8 says of memories, on lists of values; no program is in it. A machine that comes in as an argument: its registers, its key, and where its three lists lie. -/
import Derived.Test.YtlfeglljpfihhaaGreatDoorRows
import Derived.Test.YtlfeglljpfihhaaGreatDoorCardBaseX
import Derived.Test.YtlfeglljpfihhaaGreatDoorValArgX
import Derived.WalkKit
import Derived.Below
import Derived.Test.YtlfeglljpfihhaaGreatDoorInstShapeX
import Derived.ProofKit
import Derived.OpenShut
import Derived.Deep.Slices
namespace Go.Proofs.YtlfeglljpfihhaaGreatDoor
section
open Go.RowKit

def chk1 (v : MV) : Int := chkV v.i v.n v.p v.b v.l v.a v.s
def chkL : List MV → Int
  | [] => 0
  | v :: vs => if chk1 v = 0 then chkL vs else chk1 v
/-- P16. -/
def memE (vs : List MV) : Int := if 400 < vs.length then 2 else chkL vs
/-- A key's five numbers. -/
structure K5 where
  p : Int
  b : Int
  l : Int
  a : Int
  s : Int
def k5b (k : K5) : Prop := kb k.p k.b k.l k.a k.s
def ok5 (k : K5) : Prop := ok k.p k.b k.l k.a k.s
def decOk5 (k : K5) : Decidable (ok5 k) := decOk k.p k.b k.l k.a k.s
def chk5 (k : K5) : Int := chkE k.p k.b k.l k.a k.s
def cov5 (k : K5) (x : Int) : Bool := covB k.b k.l x
/-- P17: what is wrong with the place that lies 'off' behind where the key is, by 'q'. -/
def plE (len : Nat) (k : K5) (off q : Int) : Int :=
  if chk5 k = 0 then (if k.s = 0 then (if inB q k.p = true then (if cov5 k (k.a + off) = true ∧ k.a + off < len then 0 else 13) else 12) else 11) else chk5 k
def pl (k : K5) (off : Int) : Nat := (k.a + off).toNat
def loadE (vs : List MV) (k : K5) (off : Int) : Int := if memE vs = 0 then plE vs.length k off 1 else memE vs
def loadV (vs : List MV) (k : K5) (off : Int) : MV :=
  if loadE vs k off = 0 then (if (vs.getD (pl k off) nil0).i = true ∧ inB 8 k.p = false then nil0 else vs.getD (pl k off) nil0) else nil0
def storeE (vs : List MV) (k : K5) (off : Int) (v : MV) : Int :=
  if memE vs = 0 then (if chk1 v = 0 then (if plE vs.length k off 2 = 0 then (if v.i = true ∧ inB 16 k.p = false then 12 else 0) else plE vs.length k off 2) else chk1 v) else memE vs
def storeL (vs : List MV) (k : K5) (off : Int) (v : MV) : List MV := if storeE vs k off v = 0 then vs.set (pl k off) v else []

theorem chk5_cases (k : K5) : (ok5 k ∧ chk5 k = 0) ∨ (¬ ok5 k ∧ chk5 k = 1) := by
  rcases @Decidable.em (ok5 k) (decOk5 k) with h | h
  · exact .inl ⟨h, chk_yes h⟩
  · exact .inr ⟨h, chk_no h⟩
theorem mem_small {vs : List MV} (h : memE vs = 0) : vs.length ≤ 400 ∧ chkL vs = 0 := by
  unfold memE at h
  split at h
  · cases h
  · exact ⟨by omega, h⟩
theorem mem_big {vs : List MV} (h : 400 < vs.length) : memE vs = 2 := by unfold memE; exact if_pos h
theorem mem_not {vs : List MV} (h : ¬ 400 < vs.length) : memE vs = chkL vs := by unfold memE; exact if_neg h
theorem chkL_all {vs : List MV} : chkL vs = 0 ↔ ∀ v ∈ vs, chk1 v = 0 := by
  induction vs with
  | nil => exact ⟨fun _ v h => by simp at h, fun _ => rfl⟩
  | cons v vs ih =>
    unfold chkL
    split
    · rename_i h
      rw [ih]
      exact ⟨fun hh u hu => by rcases List.mem_cons.1 hu with rfl | hu; exact h; exact hh u hu, fun hh u hu => hh u (List.mem_cons_of_mem _ hu)⟩
    · rename_i h
      exact ⟨fun hh => absurd hh h, fun hh => absurd (hh v List.mem_cons_self) h⟩
/-- What is known of a place that is right. -/
structure Plc (len : Nat) (k : K5) (off q : Int) : Prop where
  ok : ok5 k
  s : k.s = 0
  p : inB q k.p = true
  cov : cov5 k (k.a + off) = true
  lo : 0 ≤ k.a + off
  hi : k.a + off < len
  at_ : (pl k off : Int) = k.a + off
  lt : pl k off < len
theorem ok5_lit {k : K5} (h : ok5 k) : 0 ≤ k.p ∧ k.p ≤ 127 ∧ 0 ≤ k.l ∧ 0 ≤ k.b ∧ k.b + k.l ≤ 400 ∧ 0 ≤ k.a ∧ k.a ≤ 400 ∧ 0 ≤ k.s ∧ k.s ≤ 63 := h
theorem cov5_lit {k : K5} {x : Int} : cov5 k x = true ↔ 0 < k.l ∧ k.b ≤ x ∧ x - k.b < k.l := by
  unfold cov5 covB
  exact decide_eq_true_iff
theorem plE_yes {len : Nat} {k : K5} {off q : Int} (h : plE len k off q = 0) : Plc len k off q := by
  unfold plE at h
  rcases chk5_cases k with ⟨ho, hc⟩ | ⟨_, hc⟩
  · rw [if_pos hc] at h
    split at h
    · rename_i hs
      split at h
      · rename_i hp
        split at h
        · rename_i hr
          have h1 := cov5_lit.1 hr.1
          have h2 := ok5_lit ho
          have h3 : (pl k off : Int) = k.a + off := by unfold pl; omega
          exact ⟨ho, hs, hp, hr.1, by omega, hr.2, h3, by have := hr.2; omega⟩
        · cases h
      · cases h
    · cases h
  · rw [hc] at h
    simp at h
theorem plE_mk {len : Nat} {k : K5} {off q : Int} (ho : ok5 k) (hs : k.s = 0) (hp : inB q k.p = true) (hc : cov5 k (k.a + off) = true) (hl : k.a + off < len) : plE len k off q = 0 := by
  unfold plE
  rw [if_pos (show chk5 k = 0 from chk_yes ho), if_pos hs, if_pos hp, if_pos ⟨hc, hl⟩]
/-- The wrapped sum serves as the sum. -/
theorem cov_wrap {k : K5} {off : Int} (ho : ok5 k) (hb : -9223372036854775808 ≤ off ∧ off ≤ 9223372036854775807) :
    (cov5 k (IntKind.i64.wrap (k.a + off)) = cov5 k (k.a + off)) ∧ (cov5 k (k.a + off) = true → IntKind.i64.wrap (k.a + off) = k.a + off) := by
  have h2 := ok5_lit ho
  have key : cov5 k (k.a + off) = true → IntKind.i64.wrap (k.a + off) = k.a + off := fun h => by
    have h1 := cov5_lit.1 h
    rw [IntKind.wrap_i64]; omega
  refine ⟨?_, key⟩
  cases h : cov5 k (k.a + off)
  · cases h' : cov5 k (IntKind.i64.wrap (k.a + off))
    · rfl
    · have h1 := cov5_lit.1 h'
      rw [IntKind.wrap_i64] at h1
      have : ¬ (0 < k.l ∧ k.b ≤ k.a + off ∧ k.a + off - k.b < k.l) := fun hh => by rw [cov5_lit.2 hh] at h; cases h
      omega
  · rw [key h, h]
theorem load_yes {vs : List MV} {k : K5} {off : Int} (h : loadE vs k off = 0) : memE vs = 0 ∧ Plc vs.length k off 1 := by
  unfold loadE at h
  split at h
  · rename_i hm
    exact ⟨hm, plE_yes h⟩
  · rename_i hm
    exact absurd h hm
theorem load_mk {vs : List MV} {k : K5} {off : Int} (hm : memE vs = 0) (h : plE vs.length k off 1 = 0) : loadE vs k off = 0 := by
  unfold loadE
  rw [if_pos hm, h]
theorem load_no {vs : List MV} {k : K5} {off : Int} (h : ¬ loadE vs k off = 0) : loadV vs k off = nil0 := by
  unfold loadV
  rw [if_neg h]
theorem store_yes {vs : List MV} {k : K5} {off : Int} {v : MV} (h : storeE vs k off v = 0) : memE vs = 0 ∧ chk1 v = 0 ∧ Plc vs.length k off 2 ∧ (v.i = true → inB 16 k.p = true) := by
  unfold storeE at h
  split at h
  · rename_i hm
    split at h
    · rename_i hv
      split at h
      · rename_i hp
        split at h
        · cases h
        · rename_i hx
          refine ⟨hm, hv, plE_yes hp, fun hi => ?_⟩
          cases hq : inB 16 k.p
          · exact absurd ⟨hi, hq⟩ hx
          · rfl
      · rename_i hp
        exact absurd h hp
    · rename_i hv
      exact absurd h hv
  · rename_i hm
    exact absurd h hm
theorem store_mk {vs : List MV} {k : K5} {off : Int} {v : MV} (hm : memE vs = 0) (hv : chk1 v = 0) (hp : plE vs.length k off 2 = 0) (hi : v.i = true → inB 16 k.p = true) : storeE vs k off v = 0 := by
  unfold storeE
  rw [if_pos hm, if_pos hv, if_pos hp, if_neg]
  rintro ⟨h1, h2⟩
  rw [hi h1] at h2
  cases h2
theorem store_no {vs : List MV} {k : K5} {off : Int} {v : MV} (h : ¬ storeE vs k off v = 0) : storeL vs k off v = [] := by
  unfold storeL
  rw [if_neg h]
theorem store_set {vs : List MV} {k : K5} {off : Int} {v : MV} (h : storeE vs k off v = 0) : storeL vs k off v = vs.set (pl k off) v := by
  unfold storeL
  rw [if_pos h]
theorem mem_set {vs : List MV} {j : Nat} {v : MV} (hm : memE vs = 0) (hv : chk1 v = 0) : memE (vs.set j v) = 0 := by
  obtain ⟨hl, hc⟩ := mem_small hm
  unfold memE
  rw [if_neg (by rw [List.length_set]; omega), chkL_all]
  intro u hu
  rcases List.mem_or_eq_of_mem_set hu with h | rfl
  · exact chkL_all.1 hc u h
  · exact hv
end
section
open Go.ChangeShapes Go.WideShapes Go.ChangeAt Go.RowKit
set_option maxRecDepth 100000

/-- What a call comes back to. -/
structure FR where
  c : K5
  d : MV
/-- A machine. -/
structure MC where
  r : List MV
  k : K5
  m : List MV
  s : List FR
  o : List Int
/-- Where its lists lie, and for how many there is room. -/
structure MA where
  m : Option Addr
  cm : Nat
  s : Option Addr
  cs : Nat
  o : Option Addr
  co : Nat
def k5C (k : K5) : List Value := [.int .i64 k.p, .int .i64 k.b, .int .i64 k.l, .int .i64 k.a, .int .i64 k.s]
def frC (f : FR) : List Value := [.int .i64 f.c.p, .int .i64 f.c.b, .int .i64 f.c.l, .int .i64 f.c.a, .int .i64 f.c.s, .bool f.d.i, .int .i64 f.d.n, .int .i64 f.d.p, .int .i64 f.d.b, .int .i64 f.d.l, .int .i64 f.d.a, .int .i64 f.d.s]
def nmC (n : Int) : Value := .int .i64 n
def mcT (x : MC) (q : MA) : List Value := [.int .i64 x.k.p, .int .i64 x.k.b, .int .i64 x.k.l, .int .i64 x.k.a, .int .i64 x.k.s, .slice q.m x.m.length q.cm, .slice q.s x.s.length q.cs, .slice q.o x.o.length q.co]
def mcC (x : MC) (q : MA) : List Value := x.r.flatMap mvC ++ mcT x q
def RowAt (w : World) (a : Option Addr) (cs : List Value) : Prop :=
  cs = [] ∨ ∃ B off : Nat, a = some ⟨B, off, none⟩ ∧ B < w.heap.size ∧ ∀ (j : Nat) u, cs[j]? = some u → w.cell? ⟨B, off + j, none⟩ = some u
theorem RowAt.below {w w' : World} {a : Option Addr} {vs : List Value} (h : RowAt w a vs) (hb : Below w.heap.size w w') : RowAt w' a vs := by
  rcases h with h | ⟨B, off, e, hB, hc⟩
  · exact .inl h
  · exact .inr ⟨B, off, e, Nat.lt_of_lt_of_le hB hb.size, fun j u hj => by rw [hb.cell (p := ⟨B, off + j, none⟩) hB]; exact hc j u hj⟩
theorem RowAt.vals {w : World} {a : Option Addr} {vs : List MV} (h : RowAt w a (vs.flatMap mvC)) : ValsAt w a vs := by
  rcases h with h | h
  · cases vs with
    | nil => exact .inl rfl
    | cons v vs => cases h
  · exact .inr h
theorem ValsAt.row {w : World} {a : Option Addr} {vs : List MV} (h : ValsAt w a vs) : RowAt w a (vs.flatMap mvC) := by
  rcases h with rfl | h
  · exact .inl rfl
  · exact .inr h
def FrsAt (w : World) (a : Option Addr) (fs : List FR) : Prop := RowAt w a (fs.flatMap frC)
def NumsAt (w : World) (a : Option Addr) (ns : List Int) : Prop := RowAt w a (ns.map nmC)
theorem FrsAt.below {w w' : World} {a : Option Addr} {fs : List FR} (h : FrsAt w a fs) (hb : Below w.heap.size w w') : FrsAt w' a fs := RowAt.below h hb
theorem NumsAt.below {w w' : World} {a : Option Addr} {ns : List Int} (h : NumsAt w a ns) (hb : Below w.heap.size w w') : NumsAt w' a ns := RowAt.below h hb
structure McAt (w : World) (x : MC) (q : MA) : Prop where
  m : ValsAt w q.m x.m
  s : FrsAt w q.s x.s
  o : NumsAt w q.o x.o
  c : x.o.length ≤ q.co ∧ x.m.length ≤ q.cm ∧ q.cm ≤ maxLen
theorem McAt.below {w w' : World} {x : MC} {q : MA} (h : McAt w x q) (hb : Below w.heap.size w w') : McAt w' x q := ⟨h.m.below hb, h.s.below hb, h.o.below hb, h.c⟩
def frOk (f : FR) : Prop := k5b f.c ∧ mvOk f.d
def nmOk (n : Int) : Prop := -9223372036854775808 ≤ n ∧ n ≤ 9223372036854775807
/-- What a machine's numbers may be: nothing but numbers of the machine that it runs on. -/
structure McB (x : MC) : Prop where
  r8 : x.r.length = 8
  r : mvsOk x.r
  k : k5b x.k
  m : mvsOk x.m
  s : ∀ f ∈ x.s, frOk f
  o : ∀ n ∈ x.o, nmOk n
structure McOk (x : MC) (q : MA) : Prop extends McB x where
  zm : x.m.length ≤ q.cm
  ym : q.cm ≤ maxLen
  zs : x.s.length ≤ q.cs
  ys : q.cs ≤ maxLen
  zo : x.o.length ≤ q.co
  yo : q.co ≤ maxLen
theorem flat_len {α : Type} {cell : α → List Value} {n : Nat} (hc : ∀ v, (cell v).length = n) (vs : List α) : (vs.flatMap cell).length = vs.length * n := by
  induction vs with
  | nil => simp
  | cons v vs ih => rw [List.flatMap_cons, List.length_append, ih, List.length_cons, hc, Nat.succ_mul]; omega
theorem flat_cell {α : Type} {cell : α → List Value} {n : Nat} (hc : ∀ v, (cell v).length = n) : ∀ (vs : List α) (k : Nat) (v : α) (j : Nat), vs[k]? = some v → j < n → (vs.flatMap cell)[k * n + j]? = (cell v)[j]?
  | [], k, v, j, h, _ => by simp at h
  | c :: vs, 0, v, j, h, hj => by
    simp only [List.getElem?_cons_zero, Option.some.injEq] at h
    subst h
    rw [List.flatMap_cons, List.getElem?_append_left (by rw [hc]; omega), Nat.zero_mul, Nat.zero_add]
  | c :: vs, k + 1, v, j, h, hj => by
    have ih := flat_cell hc vs k v j (by simpa using h) hj
    rw [List.flatMap_cons, List.getElem?_append_right (by rw [hc, Nat.succ_mul]; omega), hc, show (k + 1) * n + j - n = k * n + j by rw [Nat.succ_mul]; omega]
    exact ih
theorem rows_of {α : Type} (n : Nat) (P : Nat → α → Prop) (h : ∀ i, i < n → ∃ x, P i x) : ∃ xs : List α, xs.length = n ∧ ∀ i x, xs[i]? = some x → P i x := by
  induction n with
  | zero => exact ⟨[], rfl, fun i x hx => by simp at hx⟩
  | succ n ih =>
    obtain ⟨xs, e, hp⟩ := ih (fun i hi => h i (by omega))
    obtain ⟨x, hx⟩ := h n (by omega)
    refine ⟨xs ++ [x], by simp [e], fun i y hy => ?_⟩
    rcases Nat.lt_or_ge i n with h1 | h1
    · rw [List.getElem?_append_left (by omega)] at hy
      exact hp i y hy
    · rw [List.getElem?_append_right (by omega)] at hy
      rcases Nat.eq_or_lt_of_le h1 with h2 | h2
      · subst h2
        rw [e, Nat.sub_self] at hy
        injection hy with hy
        subst hy
        exact hx
      · rw [List.getElem?_eq_none (by simp; omega)] at hy
        cases hy
theorem frC_len (f : FR) : (frC f).length = 12 := rfl
theorem mvC_len (v : MV) : (mvC v).length = 7 := rfl
theorem nms_flat (ns : List Int) : ns.map nmC = ns.flatMap (fun n => [nmC n]) := by
  induction ns with
  | nil => rfl
  | cons n ns ih => rw [List.map_cons, ih]; rfl
section
variable {H : Type} {enc : TypeId × Value → H} {w : World}
theorem open_rows {α : Type} {T E : TypeId} {n : Nat} (cell : α → List Value) (okp : α → Prop) (hu : Tryz.prog.underlying T = some (.slice E)) (hn : Tryz.prog.cellsOf E = n) (hpos : 0 < n) (hc : ∀ v, (cell v).length = n)
    (hone : ∀ (cs : List Value) (y : DataW H × List MemPlace) (k : Nat), cs.length = n → some y = DataW.trod enc Tryz.prog w 0 (fun _ => true) true k E cs → ∃ v, cs = cell v ∧ okp v)
    {fuel : Nat} {cs : List Value} {x : DataW H × List MemPlace} (hf : DataW.trod enc Tryz.prog w 0 (fun _ => true) true fuel T cs = some x) :
    ∃ (a : Option Addr) (vs : List α) (cap : Nat), cs = [.slice a vs.length cap] ∧ vs.length ≤ cap ∧ cap ≤ maxLen ∧ (∀ v ∈ vs, okp v) ∧ RowAt w a (vs.flatMap cell) := by
  rcases Go.Deep.open_slice hu hf with ⟨rfl, _⟩ | ⟨a', len, cap, m, k, D, Pl, rfl, _, hl, hm, hmm, _, hx⟩
  · exact ⟨none, [], 0, rfl, Nat.le_refl _, by unfold maxLen; omega, fun x hx => by simp at hx, .inl rfl⟩
  · have hm' : m = cap := by simpa using hmm
    subst hm'
    obtain ⟨B, off, sp⟩ := a'
    have key : ∀ i, i < len → ∃ v : α, okp v ∧ ∀ j u, (cell v)[j]? = some u → w.cell? ((Addr.add ⟨B, off, sp⟩ (i * n)).add j) = some u := by
      intro i hi
      obtain ⟨cs, h1, h2⟩ := hx i (by omega)
      rw [hn] at h1
      obtain ⟨_, hlen, hcell⟩ := World.cells?_some h1
      obtain ⟨v, rfl, hok⟩ := hone cs _ _ hlen h2.symm
      refine ⟨v, hok, fun j u hj => ?_⟩
      have hj7 : j < n := by rw [← hc v]; exact (List.getElem?_eq_some_iff.1 hj).1
      rw [hcell j hj7]
      exact hj
    obtain ⟨vs, rfl, hp⟩ := rows_of len _ key
    refine ⟨_, vs, m, rfl, hl, hm, ?_, ?_⟩
    · intro v hv
      obtain ⟨i, hi⟩ := List.mem_iff_getElem?.1 hv
      exact (hp i v hi).1
    · rcases Nat.eq_zero_or_pos vs.length with h0 | hl0
      · rw [List.length_eq_zero_iff.1 h0]
        exact .inl rfl
      right
      obtain ⟨v0, hv0⟩ : ∃ v, vs[0]? = some v := ⟨_, List.getElem?_eq_getElem hl0⟩
      obtain ⟨u0, hu0⟩ : ∃ u, (cell v0)[0]? = some u := ⟨_, List.getElem?_eq_getElem (by rw [hc]; exact hpos)⟩
      have h0 := (hp 0 v0 hv0).2 0 _ hu0
      have hsp : sp = none := by simpa [Addr.add] using World.cell?_spot h0
      subst hsp
      refine ⟨B, off, rfl, by simpa [Addr.add] using cell_lt h0, fun j u hj => ?_⟩
      have hlt : j < (vs.flatMap cell).length := (List.getElem?_eq_some_iff.1 hj).1
      rw [flat_len hc] at hlt
      have hk : j / n < vs.length := Nat.div_lt_of_lt_mul (by rw [Nat.mul_comm]; exact hlt)
      obtain ⟨v, hv⟩ : ∃ v, vs[j / n]? = some v := ⟨_, List.getElem?_eq_getElem hk⟩
      have e : j = j / n * n + j % n := by rw [Nat.mul_comm]; exact (Nat.div_add_mod j n).symm
      rw [e, flat_cell hc vs (j / n) v (j % n) hv (Nat.mod_lt _ hpos)] at hj
      have := (hp (j / n) v hv).2 (j % n) u hj
      rw [addr_add, addr_add, Nat.add_assoc, ← e] at this
      exact this
theorem cells_frame : Tryz.prog.cellsOf 76 = 12 := by kernel_rfl
theorem cells_regs : Tryz.prog.cellsOf 26 = 56 := by kernel_rfl
theorem cells_mach : Tryz.prog.cellsOf 31 = 64 := by kernel_rfl
theorem cells_svals : Tryz.prog.cellsOf 27 = 1 := by kernel_rfl
theorem cells_sframes : Tryz.prog.cellsOf 28 = 1 := by kernel_rfl
theorem cells_sints : Tryz.prog.cellsOf 29 = 1 := by kernel_rfl
theorem list2 {α : Type} {l : List α} (h : l.length = 2) : ∃ c0 c1, l = [c0, c1] := by
  match l, h with
  | [c0, c1], _ => exact ⟨c0, c1, rfl⟩
theorem list12 {α : Type} {l : List α} (h : l.length = 12) : ∃ c0 c1 c2 c3 c4 c5 c6 c7 c8 c9 c10 c11, l = [c0, c1, c2, c3, c4, c5, c6, c7, c8, c9, c10, c11] := by
  match l, h with
  | [c0, c1, c2, c3, c4, c5, c6, c7, c8, c9, c10, c11], _ => exact ⟨c0, c1, c2, c3, c4, c5, c6, c7, c8, c9, c10, c11, rfl⟩
theorem list8 {α : Type} {l : List α} (h : l.length = 8) : ∃ c0 c1 c2 c3 c4 c5 c6 c7, l = [c0, c1, c2, c3, c4, c5, c6, c7] := by
  match l, h with
  | [c0, c1, c2, c3, c4, c5, c6, c7], _ => exact ⟨c0, c1, c2, c3, c4, c5, c6, c7, rfl⟩
theorem one_frame {k : Nat} {cs : List Value} {y : DataW H × List MemPlace} (hl : cs.length = 12) (h : some y = DataW.trod enc Tryz.prog w 0 (fun _ => true) true k 76 cs) : ∃ f : FR, cs = frC f ∧ frOk f := by
  obtain ⟨c0, c1, c2, c3, c4, c5, c6, c7, c8, c9, c10, c11, rfl⟩ := list12 hl
  obtain ⟨xs, k, _, _, _, hxl, hg⟩ := DataW.trod_struct Tryz.underlying76 h.symm
  obtain ⟨y0, y1, rfl⟩ := list2 hxl
  have g0 := hg 0 _ rfl
  have g1 := hg 1 _ rfl
  simp [cells_key, cells_val] at g0 g1
  obtain ⟨x0, x1, x2, x3, x4, rfl, rfl, rfl, rfl, rfl, rfl, w0, w1, w2, w3, w4⟩ := five_key g0.symm
  obtain ⟨v, hv, hok⟩ := seven_val rfl g1.symm
  simp only [mvC, List.cons.injEq, and_true] at hv
  obtain ⟨rfl, rfl, rfl, rfl, rfl, rfl, rfl⟩ := hv
  exact ⟨⟨⟨x0, x1, x2, x3, x4⟩, v⟩, rfl, ⟨bounds_i64 w0, bounds_i64 w1, bounds_i64 w2, bounds_i64 w3, bounds_i64 w4⟩, hok⟩
theorem open_mach {r : Reach} {b0 : Nat} {v : Value} {d : DataW H} {p : List MemPlace} (hv : Value.okWide Tryz.prog w r b0 31 v)
    (h : DataW.Trod enc Tryz.prog w 0 (fun _ => true) true 31 v d p) :
    ∃ (x : MC) (q : MA), v = .agg (mcC x q).toArray ∧ McOk x q ∧ McAt w x q := by
  obtain ⟨cs, rfl, hsz⟩ := okWide_struct Tryz.underlying31 hv
  rw [cells_mach] at hsz
  obtain ⟨fuel, hf⟩ := h
  obtain ⟨xs, n, _, _, _, hlen, hg⟩ := DataW.trod_struct Tryz.underlying31 hf
  obtain ⟨y0, y1, y2, y3, y4, rfl⟩ := list5 hlen
  obtain ⟨l⟩ := cs
  have hsz : l.length = 64 := hsz
  have g0 : DataW.trod enc Tryz.prog w 0 (fun _ => true) true n 26 (l.take 56) = some y0 := by have := hg 0 _ rfl; simpa [Value.cells, cells_regs] using this
  have g1 : DataW.trod enc Tryz.prog w 0 (fun _ => true) true n 23 ((l.drop 56).take 5) = some y1 := by have := hg 1 _ rfl; simpa [Value.cells, cells_key] using this
  have g2 : DataW.trod enc Tryz.prog w 0 (fun _ => true) true n 27 ((l.drop 61).take 1) = some y2 := by have := hg 2 _ rfl; simpa [Value.cells, cells_svals] using this
  have g3 : DataW.trod enc Tryz.prog w 0 (fun _ => true) true n 28 ((l.drop 62).take 1) = some y3 := by have := hg 3 _ rfl; simpa [Value.cells, cells_sframes] using this
  have g4 : DataW.trod enc Tryz.prog w 0 (fun _ => true) true n 29 ((l.drop 63).take 1) = some y4 := by have := hg 4 _ rfl; simpa [Value.cells, cells_sints] using this
  clear hg
  obtain ⟨zs, k, _, _, _, hzl, hz⟩ := DataW.trod_array Tryz.underlying26 g0
  have e56 : l = (l.take 56) ++ ((l.drop 56).take 5 ++ ((l.drop 61).take 1 ++ ((l.drop 62).take 1 ++ (l.drop 63).take 1))) := by
    have h1 : l = l.take 56 ++ l.drop 56 := (List.take_append_drop 56 l).symm
    have h2 : l.drop 56 = (l.drop 56).take 5 ++ l.drop 61 := by
      have := (List.take_append_drop 5 (l.drop 56)).symm
      rwa [List.drop_drop] at this
    have h3 : l.drop 61 = (l.drop 61).take 1 ++ l.drop 62 := by
      have := (List.take_append_drop 1 (l.drop 61)).symm
      rwa [List.drop_drop] at this
    have h4 : l.drop 62 = (l.drop 62).take 1 ++ l.drop 63 := by
      have := (List.take_append_drop 1 (l.drop 62)).symm
      rwa [List.drop_drop] at this
    have h5 : (l.drop 63).take 1 = l.drop 63 := List.take_of_length_le (by rw [List.length_drop, hsz]; omega)
    rw [h5, ← h4, ← h3, ← h2, ← h1]
  have rg : ∃ r : List MV, r.length = 8 ∧ mvsOk r ∧ l.take 56 = r.flatMap mvC := by
    have key : ∀ i, i < 8 → ∃ v : MV, mvOk v ∧ ((l.take 56).drop (i * 7)).take 7 = mvC v := fun i hi => by
      have h1 := hz i hi
      rw [cells_val] at h1
      obtain ⟨y, hy⟩ : ∃ y, zs[i]? = some y := ⟨_, List.getElem?_eq_getElem (by omega)⟩
      rw [hy] at h1
      obtain ⟨v, e, ok⟩ := seven_val (by rw [List.length_take, List.length_drop, List.length_take, hsz]; omega) h1.symm
      exact ⟨v, ok, e⟩
    obtain ⟨r, hr, hp⟩ := rows_of 8 _ key
    refine ⟨r, hr, fun v hv => ?_, List.ext_getElem? fun j => ?_⟩
    · obtain ⟨i, hi⟩ := List.mem_iff_getElem?.1 hv
      exact (hp i v hi).1
    · rcases Nat.lt_or_ge j 56 with hj | hj
      · obtain ⟨v, hv⟩ : ∃ v, r[j / 7]? = some v := ⟨_, List.getElem?_eq_getElem (by omega)⟩
        have e : j = j / 7 * 7 + j % 7 := by omega
        have h1 := congrArg (fun z => z[j % 7]?) (hp (j / 7) v hv).2
        simp only [List.getElem?_take, List.getElem?_drop] at h1
        have h2 := mv_cell r (j / 7) v (j % 7) hv (by omega)
        rw [← e] at h1 h2
        rw [h2, ← h1, if_pos (by omega), List.getElem?_take]
      · rw [List.getElem?_eq_none (by rw [List.length_take]; omega), List.getElem?_eq_none (by rw [mv_len, hr]; omega)]
  obtain ⟨r, r8, rok, er⟩ := rg
  obtain ⟨p0, p1, p2, p3, p4, e5⟩ := list5 (l := (l.drop 56).take 5) (by rw [List.length_take, List.length_drop, hsz]; omega)
  rw [e5] at g1
  obtain ⟨x0, x1, x2, x3, x4, rfl, rfl, rfl, rfl, rfl, _, w0, w1, w2, w3, w4⟩ := five_key g1.symm
  obtain ⟨am, vm, cm, e6, zm, ym, om, Am⟩ := open_rows mvC mvOk Tryz.underlying27 cells_val (by omega) mvC_len (fun cs y k hl hh => seven_val hl hh) g2
  obtain ⟨sa, vs, cs, e7, zs, ys, os, As⟩ := open_rows frC frOk Tryz.underlying28 cells_frame (by omega) frC_len (fun cs y k hl hh => one_frame hl hh) g3
  obtain ⟨ao, vo, co, e8, zo, yo, oo, Ao⟩ := open_rows (fun n => [nmC n]) nmOk Tryz.underlying29 cells_int (by omega) (fun _ => rfl) (fun cs y k hl hh => by
    obtain ⟨c, rfl⟩ := List.length_eq_one_iff.1 hl
    obtain ⟨x, rfl, _, wx⟩ := one_int hh
    exact ⟨x, rfl, bounds_i64 wx⟩) g4
  refine ⟨⟨r, ⟨x0, x1, x2, x3, x4⟩, vm, vs, vo⟩, ⟨am, cm, sa, cs, ao, co⟩, ?_, ⟨⟨r8, rok, ⟨bounds_i64 w0, bounds_i64 w1, bounds_i64 w2, bounds_i64 w3, bounds_i64 w4⟩, om, os, oo⟩, zm, ym, zs, ys, zo, yo⟩, ⟨RowAt.vals Am, As, by unfold NumsAt; rw [nms_flat]; exact Ao, ⟨zo, zm, ym⟩⟩⟩
  rw [e56, er, e5, e6, e7, e8]
  rfl
end
end
end Go.Proofs.YtlfeglljpfihhaaGreatDoor
