/- Plain: what a key that is no more loads; two that are stored, in either order; no program is in it. -/
import Derived.Test.YtpkmpkbgngbkjabRows
import Derived.Test.YtpkmpkbgngbkjabBits
import Derived.Test.YtpkmpkbgngbkjabKeyPure
import Derived.Test.YtpkmpkbgngbkjabCellPure
import Derived.Test.YtpkmpkbgngbkjabValsArg
import Derived.Test.YtpkmpkbgngbkjabMemPure
import Derived.Test.YtpkmpkbgngbkjabEqVal
import Derived.WalkKit
import Derived.Below
namespace Go.Proofs.Ytpkmpkbgngbkjab
open Go.RowKit

theorem uns_yes {k : K5} (h : unsE k.p k.b k.l k.a k.s = 0) : ok5 k ∧ k.s = 0 := by
  unfold unsE at h
  rcases chk5_cases k with ⟨ho, _⟩ | ⟨hno, _⟩
  · rw [if_pos (show ok k.p k.b k.l k.a k.s from ho)] at h
    split at h
    · exact ⟨ho, by assumption⟩
    · cases h
  · rw [if_neg (show ¬ ok k.p k.b k.l k.a k.s from hno)] at h
    cases h
theorem uns_mk {p b l a s : Int} (ho : ok p b l a s) (hs : s = 0) : unsE p b l a s = 0 := by
  unfold unsE
  rw [if_pos ho, if_pos hs]
theorem narrow_cases (k : K5) (n : Int) : (¬ (narrowK k.p k.b k.l k.a k.s n).e = 0) ∨
    (narrowK k.p k.b k.l k.a k.s n = ⟨k.p, k.a, n, k.a, k.s, 0⟩ ∧ ok5 k ∧ k.s = 0 ∧ k.b ≤ k.a ∧ 0 ≤ n ∧ k.a + n ≤ k.b + k.l) := by
  unfold narrowK
  by_cases h : unsE k.p k.b k.l k.a k.s = 0
  · rw [if_pos h]
    by_cases hn : k.b ≤ k.a ∧ 0 ≤ n ∧ k.a + n ≤ k.b + k.l
    · rw [if_pos hn]
      exact .inr ⟨rfl, (uns_yes h).1, (uns_yes h).2, hn⟩
    · rw [if_neg hn]
      exact .inl (by decide)
  · rw [if_neg h]
    exact .inl h
theorem narrow_ok {k : K5} {n : Int} (ho : ok5 k) (hs : k.s = 0) (_h1 : k.b ≤ k.a) (h2 : 0 ≤ n) (h3 : k.a + n ≤ k.b + k.l) (q : Int) : dropK k.p k.a n k.a k.s q = ⟨bits .and .i64 k.p q, k.a, n, k.a, k.s, 0⟩ := by
  unfold dropK
  have := ok5_lit ho
  rw [if_pos (uns_mk (by unfold ok; omega) hs)]
theorem narrow_loads {vs : List MV} {k : K5} {n q off : Int} (ho : ok5 k) (hs : k.s = 0) (h1 : k.b ≤ k.a) (_h2 : 0 ≤ n) (h3 : k.a + n ≤ k.b + k.l) (h : loadE vs ⟨bits .and .i64 k.p q, k.a, n, k.a, k.s⟩ off = 0) :
    loadE vs k off = 0 ∧ (loadV vs ⟨bits .and .i64 k.p q, k.a, n, k.a, k.s⟩ off = loadV vs k off ∨ ((loadV vs k off).i = true ∧ loadV vs ⟨bits .and .i64 k.p q, k.a, n, k.a, k.s⟩ off = nil0)) := by
  obtain ⟨hm, P⟩ := load_yes h
  have hp1 := P.p
  have hc := cov5_lit.1 P.cov
  have hhi := P.hi
  dsimp only at hp1 hc hhi
  rw [in_and, Bool.and_eq_true] at hp1
  have hE : loadE vs k off = 0 := load_mk hm (plE_mk ho hs hp1.1 (cov5_lit.2 ⟨by omega, by omega, by omega⟩) hhi)
  refine ⟨hE, ?_⟩
  have e1 : pl ⟨bits .and .i64 k.p q, k.a, n, k.a, k.s⟩ off = pl k off := rfl
  unfold loadV
  rw [if_pos h, if_pos hE, e1]
  generalize vs.getD (pl k off) nil0 = c
  dsimp only
  rw [in_and]
  cases hi : c.i
  · simp
  · cases h8 : inB 8 k.p
    · simp
    · cases h9 : inB 8 q
      · simp [hi]
      · simp
theorem store_again {vs : List MV} {k : K5} {x y : Int} {v u : MV} (h1 : storeE vs k x v = 0) (h2 : storeE vs k y u = 0) : storeE (storeL vs k x v) k y u = 0 := by
  rw [store_set h1]
  obtain ⟨m1, c1, p1, i1⟩ := store_yes h1
  obtain ⟨m2, c2, p2, i2⟩ := store_yes h2
  exact store_mk (mem_set m1 c1) c2 (by rw [List.length_set]; exact plE_mk p2.ok p2.s p2.p p2.cov p2.hi) i2
theorem store_two {vs : List MV} {k : K5} {x y : Int} {v u : MV} (h1 : storeE vs k x v = 0) (h2 : storeE vs k y u = 0) :
    (¬ x = y → sameL (storeL (storeL vs k x v) k y u) (storeL (storeL vs k y u) k x v) = true) ∧ (x = y → sameL (storeL (storeL vs k x v) k y u) (storeL (storeL vs k y u) k x v) = sm v u) := by
  rw [store_set (store_again h1 h2), store_set (store_again h2 h1), store_set h1, store_set h2]
  obtain ⟨m1, c1, p1, i1⟩ := store_yes h1
  obtain ⟨m2, c2, p2, i2⟩ := store_yes h2
  constructor
  · intro h
    have hne : pl k x ≠ pl k y := fun e => by
      have := p1.at_
      have := p2.at_
      omega
    rw [List.set_comm v u hne]
    exact sameL_iff.2 rfl
  · intro h
    subst h
    rw [List.set_set, List.set_set]
    cases hs : sm v u
    · cases hl : sameL (vs.set (pl k x) u) (vs.set (pl k x) v)
      · rfl
      · have e := sameL_iff.1 hl
        have e2 := congrArg (fun l => l[pl k x]?) e
        simp only [List.getElem?_set_self p1.lt] at e2
        injection e2 with e2
        rw [sm_yes.2 e2.symm] at hs
        cases hs
    · rw [sm_yes.1 hs]
      exact sameL_iff.2 rfl
theorem store_ok {vs : List MV} {k : K5} {x : Int} {v : MV} (hn : mvsOk vs) (hv : mvOk v) : mvsOk (storeL vs k x v) := by
  unfold storeL
  split
  · intro u hu
    rcases List.mem_or_eq_of_mem_set hu with h | rfl
    · exact hn u h
    · exact hv
  · intro u hu
    simp at hu
end Go.Proofs.Ytpkmpkbgngbkjab
