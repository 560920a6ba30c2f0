/- Plain: what a machine can come to (chapter 11), and when a key is no more than another one, seals aside. -/
import Derived.Test.YtlfeglljpfihhaaRows
import Derived.Test.YtlfeglljpfihhaaBits
import Derived.Test.YtlfeglljpfihhaaKeyPure
import Derived.Test.YtlfeglljpfihhaaCellPure
import Derived.Test.YtlfeglljpfihhaaValsArg
import Derived.Test.YtlfeglljpfihhaaMemPure
import Derived.Test.YtlfeglljpfihhaaMachArg
import Derived.Test.YtlfeglljpfihhaaMachMid
namespace Go.Proofs.Ytlfeglljpfihhaa
open Go.RowKit
set_option linter.unusedVariables false

/-- It is no more than that one, seals aside. -/
def Les (k k' : K5) : Prop := (k.l ≤ 0 ∨ (k'.b ≤ k.b ∧ k.b + k.l ≤ k'.b + k'.l)) ∧ inB k.p k'.p = true
theorem les_refl (k : K5) : Les k k := ⟨.inr ⟨Int.le_refl _, Int.le_refl _⟩, in_refl _⟩
theorem les_trans {a b c : K5} (h : Les a b) (k : Les b c) : Les a c := by
  refine ⟨?_, in_trans _ _ _ h.2 k.2⟩
  rcases h.1 with h1 | h1
  · exact .inl h1
  · rcases k.1 with k1 | k1
    · exact .inl (by omega)
    · exact .inr (by omega)
theorem les_cov {k k' : K5} {j : Int} (h : Les k k') (hc : cov5 k j = true) : cov5 k' j = true := by
  have h1 := cov5_lit.1 hc
  refine cov5_lit.2 ?_
  rcases h.1 with h2 | h2 <;> omega
/-- What it holds at first. -/
inductive Rt (x : MC) (d : Bool) : K5 → Prop
  | reg (v : MV) (h : v ∈ x.r) (hi : v.i = true) : Rt x d (vK v)
  | code : Rt x d x.k
  | fc (hd : d = true) (f : FR) (h : f ∈ x.s) : Rt x d f.c
  | fd (hd : d = true) (f : FR) (h : f ∈ x.s) (hi : f.d.i = true) : Rt x d (vK f.d)
/-- A key counts, if it is not sealed, or one looks deep. -/
def Cnt (d : Bool) (k : K5) : Prop := k.s = 0 ∨ d = true
/-- P24: what it has. -/
inductive Has (x : MC) (d : Bool) : K5 → Prop
  | rt {k : K5} (h : Rt x d k) : Has x d k
  | cell (r : K5) (j : Nat) (v : MV) (h : Has x d r) (hc : Cnt d r) (hp : inB 9 r.p = true) (hv : cov5 r j = true) (hm : x.m[j]? = some v) (hi : v.i = true) : Has x d (vK v)
theorem bt_lit : ∀ i : Nat, i < 64 → bt 9 i = (bt 1 i || bt 8 i) := by decide +kernel
theorem in_nine {p : Int} (h1 : inB 1 p = true) (h8 : inB 8 p = true) : inB 9 p = true := by
  refine (inB_iff 9 p).2 fun i hi h => ?_
  rw [bt_lit i hi] at h
  cases h' : bt 1 i
  · rw [h'] at h
    exact (inB_iff 8 p).1 h8 i hi h
  · exact (inB_iff 1 p).1 h1 i hi h'
end Go.Proofs.Ytlfeglljpfihhaa
