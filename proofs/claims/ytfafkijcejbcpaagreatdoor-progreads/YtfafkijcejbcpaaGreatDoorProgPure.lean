/- Chapter 7 on lists of bytes and numbers: what Read and Text answer. -/
import Derived.Test.YtfafkijcejbcpaaGreatDoorRows
import Derived.Test.YtfafkijcejbcpaaGreatDoorInstShape
import Derived.Test.YtfafkijcejbcpaaGreatDoorInstDev
import Derived.Test.YtfafkijcejbcpaaGreatDoorTextPure
import Derived.Test.YtfafkijcejbcpaaGreatDoorParsePure
import Derived.Test.YtfafkijcejbcpaaGreatDoorInstParse2
import Derived.Test.YtfafkijcejbcpaaGreatDoorSplitPure
import Derived.Test.YtfafkijcejbcpaaGreatDoorNamePure
namespace Go.Proofs.YtfafkijcejbcpaaGreatDoor
open Go.Lib

/-- The digits of a NUMBER. -/
def numR (d : List UInt8) : Option Int := match atoiAll d with
  | .ok v => if (-2147483648 ≤ v ∧ v ≤ 2147483647) ∧ itoa v = d then some v else none
  | _ => none
theorem numR_itoa {v : Int} (h : -2147483648 ≤ v ∧ v ≤ 2147483647) : numR (itoa v) = some v := by
  unfold numR
  rw [atoi_itoa v ⟨by omega, by omega⟩]
  show (if _ then _ else _) = _
  rw [if_pos ⟨h, rfl⟩]
theorem numR_some {d : List UInt8} {v : Int} (h : numR d = some v) : (-2147483648 ≤ v ∧ v ≤ 2147483647) ∧ itoa v = d := by
  unfold numR at h
  split at h
  · split at h
    · rename_i h1
      injection h with h
      subst h
      exact h1
    · cases h
  · cases h
theorem numR_ok {d : List UInt8} {v : Int} (h : atoiAll d = .ok v) (hn : -2147483648 ≤ v ∧ v ≤ 2147483647) (hi : itoa v = d) : numR d = some v := by
  unfold numR
  rw [h]
  exact if_pos ⟨hn, hi⟩
theorem numR_not {d : List UInt8} {v : Int} (h : atoiAll d = .ok v) (hn : ¬ ((-2147483648 ≤ v ∧ v ≤ 2147483647) ∧ itoa v = d)) : numR d = none := by
  unfold numR
  rw [h]
  exact if_neg hn
theorem numR_none {d : List UInt8} (h : ∀ v, ¬ atoiAll d = .ok v) : numR d = none := by
  unfold numR
  split
  · rename_i v e; exact absurd e (h v)
  · rfl
/-- 'word' and a blank. -/
def wd : List UInt8 := [119, 111, 114, 100, 32]
/-- A line that tells a cell by itself. -/
def cellL (l : List UInt8) : Option Int :=
  if wd.isPrefixOf l = true then numR (l.drop 5)
  else if (parseD l).e = 0 then some (numD (parseD l).o (parseD l).a (parseD l).b (parseD l).c) else none
/-- A line that leads to a name. -/
structure JL where
  o : Int
  a : Int
  b : Int
  c : Int
  lab : List UInt8
def jumpL (l : List UInt8) : Option JL :=
  if Lib.lastIndex l [32] < 0 then none
  else if nameL (l.drop ((Lib.lastIndex l [32]).toNat + 1)) = false then none
  else if (parseD (l.take (Lib.lastIndex l [32]).toNat ++ [32, 48])).e = 0 ∧ ((parseD (l.take (Lib.lastIndex l [32]).toNat ++ [32, 48])).o = 8 ∨ (parseD (l.take (Lib.lastIndex l [32]).toNat ++ [32, 48])).o = 9) then
    some ⟨(parseD (l.take (Lib.lastIndex l [32]).toNat ++ [32, 48])).o, (parseD (l.take (Lib.lastIndex l [32]).toNat ++ [32, 48])).a, (parseD (l.take (Lib.lastIndex l [32]).toNat ++ [32, 48])).b, (parseD (l.take (Lib.lastIndex l [32]).toNat ++ [32, 48])).c, l.drop ((Lib.lastIndex l [32]).toNat + 1)⟩
  else none
theorem jumpL_none {l : List UInt8} (h : Lib.lastIndex l [32] = -1) : jumpL l = none := by
  unfold jumpL
  rw [h]
  exact if_pos (by omega)
theorem jumpL_at {l p q : List UInt8} (e : l = p ++ 32 :: q) (h : Lib.lastIndex l [32] = p.length) :
    jumpL l = if nameL q = false then none else if (parseD (p ++ [32, 48])).e = 0 ∧ ((parseD (p ++ [32, 48])).o = 8 ∨ (parseD (p ++ [32, 48])).o = 9) then
      some ⟨(parseD (p ++ [32, 48])).o, (parseD (p ++ [32, 48])).a, (parseD (p ++ [32, 48])).b, (parseD (p ++ [32, 48])).c, q⟩ else none := by
  unfold jumpL
  have e1 : ((p.length : Nat) : Int).toNat = p.length := by omega
  have e2 : l.drop (p.length + 1) = q := by rw [e, ← List.drop_drop]; simp
  have e3 : l.take p.length = p := by rw [e]; simp
  rw [h, if_neg (by omega), e1, e2, e3]
/-- A label, and a cell that waits for one. -/
structure LB where
  nm : List UInt8
  at_ : Int
structure LD where
  n : Int
  at_ : Int
  j : JL
structure PS where
  cells : List Int
  labels : List LB
  leads : List LD
def placeL : List LB → List UInt8 → Option Int
  | [], _ => none
  | b :: bs, nm => if b.nm = nm then some b.at_ else placeL bs nm
/-- A line that is a label. -/
def takeLb (st : PS) (nm : List UInt8) : PS × Int :=
  if nameL nm = false then (st, 3)
  else if (placeL st.labels nm).isSome = true then (st, 8)
  else if 20 ≤ st.labels.length then (st, 9)
  else (⟨st.cells, st.labels ++ [⟨nm, st.cells.length⟩], st.leads⟩, 0)
/-- A line that is a cell. -/
def takeCl (st : PS) (n : Int) (l : List UInt8) : PS × Int :=
  match cellL l with
  | some v => (⟨st.cells ++ [v], st.labels, st.leads⟩, 0)
  | none => match jumpL l with
    | some J => (⟨st.cells ++ [0], st.labels, st.leads ++ [⟨n, st.cells.length, J⟩]⟩, 0)
    | none => (st, 3)
/-- One line. -/
def takeS (st : PS) (n : Int) (l : List UInt8) : PS × Int :=
  if 80 < l.length then (st, 2)
  else if l = [] then (st, 0)
  else if ([58] : List UInt8).isSuffixOf l = true then takeLb st (l.take (l.length - 1))
  else takeCl st n l
/-- All lines, from the one with number n on: what is left, the line that is wrong and the error. -/
def goS : PS → Nat → List (List UInt8) → PS × Int × Int
  | st, _, [] => (st, 0, 0)
  | st, n, l :: ls => if (takeS st (n : Int) l).2 = 0 then goS (takeS st (n : Int) l).1 (n + 1) ls else (st, n, (takeS st (n : Int) l).2)
/-- The cells that wait are filled in. -/
def joinS (labels : List LB) : List Int → List LD → List Int × Int × Int
  | cs, [] => (cs, 0, 0)
  | cs, d :: ds => match placeL labels d.j.lab with
    | none => (cs, d.n, 7)
    | some p => if chkD d.j.o d.j.a d.j.b (p - d.at_) = 0 then joinS labels (cs.set d.at_.toNat (numD d.j.o d.j.a d.j.b (p - d.at_))) ds else (cs, d.n, 13)
structure RD where
  cells : List Int
  labels : List LB
  n : Int
  e : Int
/-- P14: Read. -/
def readS (l : List UInt8) : RD :=
  if 150 ≤ l.count 10 then ⟨[], [], 0, 2⟩
  else if (goS ⟨[], [], []⟩ 1 (sp 10 l)).2.2 = 0 then
    if (joinS (goS ⟨[], [], []⟩ 1 (sp 10 l)).1.labels (goS ⟨[], [], []⟩ 1 (sp 10 l)).1.cells (goS ⟨[], [], []⟩ 1 (sp 10 l)).1.leads).2.2 = 0 then
      ⟨(joinS (goS ⟨[], [], []⟩ 1 (sp 10 l)).1.labels (goS ⟨[], [], []⟩ 1 (sp 10 l)).1.cells (goS ⟨[], [], []⟩ 1 (sp 10 l)).1.leads).1, (goS ⟨[], [], []⟩ 1 (sp 10 l)).1.labels, 0, 0⟩
    else ⟨[], [], (joinS (goS ⟨[], [], []⟩ 1 (sp 10 l)).1.labels (goS ⟨[], [], []⟩ 1 (sp 10 l)).1.cells (goS ⟨[], [], []⟩ 1 (sp 10 l)).1.leads).2.1, (joinS (goS ⟨[], [], []⟩ 1 (sp 10 l)).1.labels (goS ⟨[], [], []⟩ 1 (sp 10 l)).1.cells (goS ⟨[], [], []⟩ 1 (sp 10 l)).1.leads).2.2⟩
  else ⟨[], [], (goS ⟨[], [], []⟩ 1 (sp 10 l)).2.1, (goS ⟨[], [], []⟩ 1 (sp 10 l)).2.2⟩
theorem readS_large {l : List UInt8} (h : 150 ≤ l.count 10) : readS l = ⟨[], [], 0, 2⟩ := by unfold readS; rw [if_pos h]
theorem readS_bad {l : List UInt8} (h : ¬ 150 ≤ l.count 10) {st : PS} {n e : Int} (hg : goS ⟨[], [], []⟩ 1 (sp 10 l) = (st, n, e)) (he : ¬ e = 0) : readS l = ⟨[], [], n, e⟩ := by
  unfold readS; rw [if_neg h, hg]; exact if_neg he
theorem readS_none {l : List UInt8} (h : ¬ 150 ≤ l.count 10) {st : PS} {n n' e : Int} {cs : List Int} (hg : goS ⟨[], [], []⟩ 1 (sp 10 l) = (st, n, 0)) (hj : joinS st.labels st.cells st.leads = (cs, n', e)) (he : ¬ e = 0) : readS l = ⟨[], [], n', e⟩ := by
  unfold readS; rw [if_neg h, hg, if_pos rfl]; dsimp only; rw [hj]; exact if_neg he
theorem readS_ok {l : List UInt8} (h : ¬ 150 ≤ l.count 10) {st : PS} {n n' : Int} {cs : List Int} (hg : goS ⟨[], [], []⟩ 1 (sp 10 l) = (st, n, 0)) (hj : joinS st.labels st.cells st.leads = (cs, n', 0)) : readS l = ⟨cs, st.labels, 0, 0⟩ := by
  unfold readS; rw [if_neg h, hg, if_pos rfl]; dsimp only; rw [hj, if_pos rfl]
/-- Behind k lines. -/
structure WFK (st : PS) (k : Nat) : Prop where
  n1 : st.cells.length ≤ k
  n2 : st.labels.length ≤ k
  n3 : st.leads.length ≤ k
  lb : ∀ b ∈ st.labels, 0 ≤ b.at_ ∧ b.at_ ≤ st.cells.length
  ld : ∀ d ∈ st.leads, 0 ≤ d.at_ ∧ d.at_ < st.cells.length
theorem WFK.mono {st : PS} {k k' : Nat} (h : WFK st k) (hk : k ≤ k') : WFK st k' := ⟨Nat.le_trans h.n1 hk, Nat.le_trans h.n2 hk, Nat.le_trans h.n3 hk, h.lb, h.ld⟩
theorem WFK.cell {st : PS} {k : Nat} (h : WFK st k) (x : Int) : WFK ⟨st.cells ++ [x], st.labels, st.leads⟩ (k + 1) :=
  ⟨by have := h.n1; simp; omega, Nat.le_succ_of_le h.n2, Nat.le_succ_of_le h.n3, fun b hb => by have := h.lb b hb; simp; omega, fun d hd => by have := h.ld d hd; simp; omega⟩
theorem takeS_wf {st : PS} {k : Nat} (h : WFK st k) (n : Int) (l : List UInt8) : WFK (takeS st n l).1 (k + 1) := by
  have h0 := h.mono (Nat.le_succ k)
  unfold takeS
  split
  · exact h0
  split
  · exact h0
  split
  · unfold takeLb
    split
    · exact h0
    split
    · exact h0
    split
    · exact h0
    refine ⟨h0.n1, ?_, h0.n3, fun b hb => ?_, h0.ld⟩
    · have := h.n2; simp; omega
    · rcases List.mem_append.1 hb with hb | hb
      · exact h.lb b hb
      · simp only [List.mem_cons, List.not_mem_nil, or_false] at hb
        subst hb
        show 0 ≤ (st.cells.length : Int) ∧ (st.cells.length : Int) ≤ st.cells.length
        omega
  · unfold takeCl
    split
    · exact h.cell _
    split
    · rename_i J _
      have h1 := h.cell 0
      refine ⟨h1.n1, h1.n2, ?_, h1.lb, fun d hd => ?_⟩
      · have := h.n3; simp; omega
      · rcases List.mem_append.1 hd with hd | hd
        · exact h1.ld d hd
        · simp only [List.mem_cons, List.not_mem_nil, or_false] at hd
          subst hd
          simp; omega
    · exact h0
/-- P15: the line of a number. -/
def lineN (n : Int) : List UInt8 := if (readD n).e = 0 then textL (readD n).o.toNat (readD n).a (readD n).b (readD n).c else wd ++ itoa n
structure TD where
  s : List UInt8
  e : Int
/-- P15: Text. -/
def textS (code : List Int) : TD :=
  if 150 < code.length then ⟨[], 2⟩
  else if (code.all fun n => decide (-2147483648 ≤ n ∧ n ≤ 2147483647)) = true then ⟨jn 10 (code.map lineN), 0⟩
  else ⟨[], 1⟩
end Go.Proofs.YtfafkijcejbcpaaGreatDoor
