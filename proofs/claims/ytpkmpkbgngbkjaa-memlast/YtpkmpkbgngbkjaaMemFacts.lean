/- Plain: facts on bits of what a key allows, and on memories; no program is in it. -/
import Derived.Test.YtpkmpkbgngbkjaaRows
import Derived.Test.YtpkmpkbgngbkjaaBits
import Derived.Test.YtpkmpkbgngbkjaaKeyPure
import Derived.Test.YtpkmpkbgngbkjaaCellPure
import Derived.Test.YtpkmpkbgngbkjaaValsArg
import Derived.Test.YtpkmpkbgngbkjaaMemPure
import Derived.WalkKit
import Derived.Below
namespace Go.Proofs.Ytpkmpkbgngbkjaa
open Go.RowKit

theorem bt_not (a b : Int) (i : Nat) (hi : i < 64) : bt (bits .andNot .i64 a b) i = (bt a i && !bt b i) := by
  have e : bits .andNot .i64 a b = IntKind.i64.wrap ((BitVec.ofInt 64 a &&& ~~~BitVec.ofInt 64 b).toNat : Nat) := rfl
  unfold bt
  rw [e, ofInt_wrap _ (BitVec.isLt _), BitVec.ofNat_toNat, BitVec.setWidth_eq, BitVec.getLsbD_and, BitVec.getLsbD_not]
  simp [hi]
theorem not_b (a b : Int) : -9223372036854775808 ≤ bits .andNot .i64 a b ∧ bits .andNot .i64 a b ≤ 9223372036854775807 := by
  have e : bits .andNot .i64 a b = IntKind.i64.wrap ((BitVec.ofInt 64 a &&& ~~~BitVec.ofInt 64 b).toNat : Nat) := rfl
  rw [e, IntKind.wrap_i64]; omega
theorem no_take (a : Int) : inB 8 (bits .andNot .i64 a 24) = false := by
  cases h : inB 8 (bits .andNot .i64 a 24)
  · rfl
  · have := (inB_iff _ _).1 h 3 (by decide) (by decide)
    rw [bt_not _ _ _ (by decide), show bt 24 3 = true by decide] at this
    simp at this
theorem no_put (a : Int) : inB 16 (bits .andNot .i64 a 24) = false := by
  cases h : inB 16 (bits .andNot .i64 a 24)
  · rfl
  · have := (inB_iff _ _).1 h 4 (by decide) (by decide)
    rw [bt_not _ _ _ (by decide), show bt 24 4 = true by decide] at this
    simp at this
theorem and_all : ∀ n : Fin 128, decide (0 < bits .and .i64 (n.val : Int) 1) = inB 1 (n.val : Int) ∧ decide (0 < bits .and .i64 (n.val : Int) 2) = inB 2 (n.val : Int) := by decide +kernel
theorem or_all : ∀ n : Fin 128, 0 ≤ bits .or .i64 (n.val : Int) 9 ∧ bits .or .i64 (n.val : Int) 9 ≤ 127 ∧ inB 1 (bits .or .i64 (n.val : Int) 9) = true ∧ inB 8 (bits .or .i64 (n.val : Int) 9) = true := by decide +kernel
theorem and_in {p : Int} (h : 0 ≤ p ∧ p ≤ 127) : decide (0 < bits .and .i64 p 1) = inB 1 p ∧ decide (0 < bits .and .i64 p 2) = inB 2 p := by
  have := and_all ⟨p.toNat, by omega⟩
  simpa [Int.toNat_of_nonneg h.1] using this
theorem or_in {p : Int} (h : 0 ≤ p ∧ p ≤ 127) : 0 ≤ bits .or .i64 p 9 ∧ bits .or .i64 p 9 ≤ 127 ∧ inB 1 (bits .or .i64 p 9) = true ∧ inB 8 (bits .or .i64 p 9) = true := by
  have := or_all ⟨p.toNat, by omega⟩
  simpa [Int.toNat_of_nonneg h.1] using this
theorem load_num {vs : List MV} {k : K5} {off : Int} (h : inB 8 k.p = false) : (loadV vs k off).i = false := by
  unfold loadV
  split
  · split
    · rfl
    · rename_i hx
      cases hi : (vs.getD (pl k off) nil0).i
      · rfl
      · exact absurd ⟨hi, h⟩ hx
  · rfl
theorem store_num {vs : List MV} {k : K5} {off : Int} {v : MV} (h : inB 16 k.p = false) (he : storeE vs k off v = 0) : v.i = false ∧ (storeL vs k off v).length = vs.length := by
  obtain ⟨_, _, _, hi⟩ := store_yes he
  refine ⟨?_, by rw [store_set he, List.length_set]⟩
  cases hv : v.i
  · rfl
  · rw [hi hv] at h
    cases h
/-- What a key, a place and a memory can be to each other. -/
theorem good_cases (vs : List MV) (k : K5) (off : Int) (v : MV) :
    (chk5 k = 1 ∧ ¬ loadE vs k off = 0 ∧ ¬ storeE vs k off v = 0) ∨
    (ok5 k ∧ chk5 k = 0 ∧ ¬ k.s = 0 ∧ ¬ loadE vs k off = 0 ∧ ¬ storeE vs k off v = 0) ∨
    (ok5 k ∧ chk5 k = 0 ∧ k.s = 0 ∧ off < -400 ∧ ¬ loadE vs k off = 0 ∧ ¬ storeE vs k off v = 0) ∨
    (ok5 k ∧ chk5 k = 0 ∧ k.s = 0 ∧ ¬ off < -400 ∧ 400 < off ∧ ¬ loadE vs k off = 0 ∧ ¬ storeE vs k off v = 0) ∨
    (ok5 k ∧ chk5 k = 0 ∧ k.s = 0 ∧ ¬ off < -400 ∧ ¬ 400 < off ∧ cov5 k (k.a + off) = false ∧ ¬ loadE vs k off = 0 ∧ ¬ storeE vs k off v = 0) ∨
    (ok5 k ∧ chk5 k = 0 ∧ k.s = 0 ∧ ¬ off < -400 ∧ ¬ 400 < off ∧ cov5 k (k.a + off) = true ∧ ¬ k.a + off < vs.length ∧ ¬ loadE vs k off = 0 ∧ ¬ storeE vs k off v = 0) ∨
    (ok5 k ∧ chk5 k = 0 ∧ k.s = 0 ∧ ¬ off < -400 ∧ ¬ 400 < off ∧ cov5 k (k.a + off) = true ∧ k.a + off < vs.length) := by
  have nl : ∀ h : loadE vs k off = 0, Plc vs.length k off 1 := fun h => (load_yes h).2
  have ns : ∀ h : storeE vs k off v = 0, Plc vs.length k off 2 := fun h => (store_yes h).2.2.1
  rcases chk5_cases k with ⟨ho, hc⟩ | ⟨hno, hc⟩
  · have hl := ok5_lit ho
    by_cases hs : k.s = 0
    · by_cases h1 : off < -400
      · exact .inr (.inr (.inl ⟨ho, hc, hs, h1, fun h => by have := (nl h).lo; omega, fun h => by have := (ns h).lo; omega⟩))
      · by_cases h2 : 400 < off
        · exact .inr (.inr (.inr (.inl ⟨ho, hc, hs, h1, h2, fun h => by have := cov5_lit.1 (nl h).cov; omega, fun h => by have := cov5_lit.1 (ns h).cov; omega⟩)))
        · cases hv : cov5 k (k.a + off)
          · exact .inr (.inr (.inr (.inr (.inl ⟨ho, hc, hs, h1, h2, rfl, fun h => (by rw [(nl h).cov] at hv; cases hv), fun h => (by rw [(ns h).cov] at hv; cases hv)⟩))))
          · by_cases h3 : k.a + off < vs.length
            · exact .inr (.inr (.inr (.inr (.inr (.inr ⟨ho, hc, hs, h1, h2, rfl, h3⟩)))))
            · exact .inr (.inr (.inr (.inr (.inr (.inl ⟨ho, hc, hs, h1, h2, rfl, h3, fun h => h3 (nl h).hi, fun h => h3 (ns h).hi⟩)))))
    · exact .inr (.inl ⟨ho, hc, hs, fun h => hs (nl h).s, fun h => hs (ns h).s⟩)
  · exact .inl ⟨hc, fun h => hno (nl h).ok, fun h => hno (ns h).ok⟩
end Go.Proofs.Ytpkmpkbgngbkjaa
