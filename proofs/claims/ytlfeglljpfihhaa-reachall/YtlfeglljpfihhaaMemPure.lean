/- Plain: what chapter 8 says of memories, on lists of values; no program is in it. -/
import Derived.Test.YtlfeglljpfihhaaRows
import Derived.Test.YtlfeglljpfihhaaBits
import Derived.Test.YtlfeglljpfihhaaKeyPure
import Derived.Test.YtlfeglljpfihhaaCellPure
import Derived.Test.YtlfeglljpfihhaaValsArg
import Derived.WalkKit
import Derived.Below
namespace Go.Proofs.Ytlfeglljpfihhaa
open Go.RowKit

def chk1 (v : MV) : Int := chkV v.i v.n v.p v.b v.l v.a v.s
def chkL : List MV → Int
  | [] => 0
  | v :: vs => if chk1 v = 0 then chkL vs else chk1 v
/-- P16. -/
def memE (vs : List MV) : Int := if 400 < vs.length then 2 else chkL vs
/-- A key's five numbers. -/
structure K5 where
  p : Int
  b : Int
  l : Int
  a : Int
  s : Int
def k5b (k : K5) : Prop := kb k.p k.b k.l k.a k.s
def ok5 (k : K5) : Prop := ok k.p k.b k.l k.a k.s
def decOk5 (k : K5) : Decidable (ok5 k) := decOk k.p k.b k.l k.a k.s
def chk5 (k : K5) : Int := chkE k.p k.b k.l k.a k.s
def cov5 (k : K5) (x : Int) : Bool := covB k.b k.l x
/-- P17: what is wrong with the place that lies 'off' behind where the key is, by 'q'. -/
def plE (len : Nat) (k : K5) (off q : Int) : Int :=
  if chk5 k = 0 then (if k.s = 0 then (if inB q k.p = true then (if cov5 k (k.a + off) = true ∧ k.a + off < len then 0 else 13) else 12) else 11) else chk5 k
def pl (k : K5) (off : Int) : Nat := (k.a + off).toNat
def loadE (vs : List MV) (k : K5) (off : Int) : Int := if memE vs = 0 then plE vs.length k off 1 else memE vs
def loadV (vs : List MV) (k : K5) (off : Int) : MV :=
  if loadE vs k off = 0 then (if (vs.getD (pl k off) nil0).i = true ∧ inB 8 k.p = false then nil0 else vs.getD (pl k off) nil0) else nil0
def storeE (vs : List MV) (k : K5) (off : Int) (v : MV) : Int :=
  if memE vs = 0 then (if chk1 v = 0 then (if plE vs.length k off 2 = 0 then (if v.i = true ∧ inB 16 k.p = false then 12 else 0) else plE vs.length k off 2) else chk1 v) else memE vs
def storeL (vs : List MV) (k : K5) (off : Int) (v : MV) : List MV := if storeE vs k off v = 0 then vs.set (pl k off) v else []

theorem chk5_cases (k : K5) : (ok5 k ∧ chk5 k = 0) ∨ (¬ ok5 k ∧ chk5 k = 1) := by
  rcases @Decidable.em (ok5 k) (decOk5 k) with h | h
  · exact .inl ⟨h, chk_yes h⟩
  · exact .inr ⟨h, chk_no h⟩
theorem mem_small {vs : List MV} (h : memE vs = 0) : vs.length ≤ 400 ∧ chkL vs = 0 := by
  unfold memE at h
  split at h
  · cases h
  · exact ⟨by omega, h⟩
theorem mem_big {vs : List MV} (h : 400 < vs.length) : memE vs = 2 := by unfold memE; exact if_pos h
theorem mem_not {vs : List MV} (h : ¬ 400 < vs.length) : memE vs = chkL vs := by unfold memE; exact if_neg h
theorem chkL_all {vs : List MV} : chkL vs = 0 ↔ ∀ v ∈ vs, chk1 v = 0 := by
  induction vs with
  | nil => exact ⟨fun _ v h => by simp at h, fun _ => rfl⟩
  | cons v vs ih =>
    unfold chkL
    split
    · rename_i h
      rw [ih]
      exact ⟨fun hh u hu => by rcases List.mem_cons.1 hu with rfl | hu; exact h; exact hh u hu, fun hh u hu => hh u (List.mem_cons_of_mem _ hu)⟩
    · rename_i h
      exact ⟨fun hh => absurd hh h, fun hh => absurd (hh v List.mem_cons_self) h⟩
/-- What is known of a place that is right. -/
structure Plc (len : Nat) (k : K5) (off q : Int) : Prop where
  ok : ok5 k
  s : k.s = 0
  p : inB q k.p = true
  cov : cov5 k (k.a + off) = true
  lo : 0 ≤ k.a + off
  hi : k.a + off < len
  at_ : (pl k off : Int) = k.a + off
  lt : pl k off < len
theorem ok5_lit {k : K5} (h : ok5 k) : 0 ≤ k.p ∧ k.p ≤ 127 ∧ 0 ≤ k.l ∧ 0 ≤ k.b ∧ k.b + k.l ≤ 400 ∧ 0 ≤ k.a ∧ k.a ≤ 400 ∧ 0 ≤ k.s ∧ k.s ≤ 63 := h
theorem cov5_lit {k : K5} {x : Int} : cov5 k x = true ↔ 0 < k.l ∧ k.b ≤ x ∧ x - k.b < k.l := by
  unfold cov5 covB
  exact decide_eq_true_iff
theorem plE_yes {len : Nat} {k : K5} {off q : Int} (h : plE len k off q = 0) : Plc len k off q := by
  unfold plE at h
  rcases chk5_cases k with ⟨ho, hc⟩ | ⟨_, hc⟩
  · rw [if_pos hc] at h
    split at h
    · rename_i hs
      split at h
      · rename_i hp
        split at h
        · rename_i hr
          have h1 := cov5_lit.1 hr.1
          have h2 := ok5_lit ho
          have h3 : (pl k off : Int) = k.a + off := by unfold pl; omega
          exact ⟨ho, hs, hp, hr.1, by omega, hr.2, h3, by have := hr.2; omega⟩
        · cases h
      · cases h
    · cases h
  · rw [hc] at h
    simp at h
theorem plE_mk {len : Nat} {k : K5} {off q : Int} (ho : ok5 k) (hs : k.s = 0) (hp : inB q k.p = true) (hc : cov5 k (k.a + off) = true) (hl : k.a + off < len) : plE len k off q = 0 := by
  unfold plE
  rw [if_pos (show chk5 k = 0 from chk_yes ho), if_pos hs, if_pos hp, if_pos ⟨hc, hl⟩]
/-- The wrapped sum serves as the sum. -/
theorem cov_wrap {k : K5} {off : Int} (ho : ok5 k) (hb : -9223372036854775808 ≤ off ∧ off ≤ 9223372036854775807) :
    (cov5 k (IntKind.i64.wrap (k.a + off)) = cov5 k (k.a + off)) ∧ (cov5 k (k.a + off) = true → IntKind.i64.wrap (k.a + off) = k.a + off) := by
  have h2 := ok5_lit ho
  have key : cov5 k (k.a + off) = true → IntKind.i64.wrap (k.a + off) = k.a + off := fun h => by
    have h1 := cov5_lit.1 h
    rw [IntKind.wrap_i64]; omega
  refine ⟨?_, key⟩
  cases h : cov5 k (k.a + off)
  · cases h' : cov5 k (IntKind.i64.wrap (k.a + off))
    · rfl
    · have h1 := cov5_lit.1 h'
      rw [IntKind.wrap_i64] at h1
      have : ¬ (0 < k.l ∧ k.b ≤ k.a + off ∧ k.a + off - k.b < k.l) := fun hh => by rw [cov5_lit.2 hh] at h; cases h
      omega
  · rw [key h, h]
theorem load_yes {vs : List MV} {k : K5} {off : Int} (h : loadE vs k off = 0) : memE vs = 0 ∧ Plc vs.length k off 1 := by
  unfold loadE at h
  split at h
  · rename_i hm
    exact ⟨hm, plE_yes h⟩
  · rename_i hm
    exact absurd h hm
theorem load_mk {vs : List MV} {k : K5} {off : Int} (hm : memE vs = 0) (h : plE vs.length k off 1 = 0) : loadE vs k off = 0 := by
  unfold loadE
  rw [if_pos hm, h]
theorem load_no {vs : List MV} {k : K5} {off : Int} (h : ¬ loadE vs k off = 0) : loadV vs k off = nil0 := by
  unfold loadV
  rw [if_neg h]
theorem store_yes {vs : List MV} {k : K5} {off : Int} {v : MV} (h : storeE vs k off v = 0) : memE vs = 0 ∧ chk1 v = 0 ∧ Plc vs.length k off 2 ∧ (v.i = true → inB 16 k.p = true) := by
  unfold storeE at h
  split at h
  · rename_i hm
    split at h
    · rename_i hv
      split at h
      · rename_i hp
        split at h
        · cases h
        · rename_i hx
          refine ⟨hm, hv, plE_yes hp, fun hi => ?_⟩
          cases hq : inB 16 k.p
          · exact absurd ⟨hi, hq⟩ hx
          · rfl
      · rename_i hp
        exact absurd h hp
    · rename_i hv
      exact absurd h hv
  · rename_i hm
    exact absurd h hm
theorem store_mk {vs : List MV} {k : K5} {off : Int} {v : MV} (hm : memE vs = 0) (hv : chk1 v = 0) (hp : plE vs.length k off 2 = 0) (hi : v.i = true → inB 16 k.p = true) : storeE vs k off v = 0 := by
  unfold storeE
  rw [if_pos hm, if_pos hv, if_pos hp, if_neg]
  rintro ⟨h1, h2⟩
  rw [hi h1] at h2
  cases h2
theorem store_no {vs : List MV} {k : K5} {off : Int} {v : MV} (h : ¬ storeE vs k off v = 0) : storeL vs k off v = [] := by
  unfold storeL
  rw [if_neg h]
theorem store_set {vs : List MV} {k : K5} {off : Int} {v : MV} (h : storeE vs k off v = 0) : storeL vs k off v = vs.set (pl k off) v := by
  unfold storeL
  rw [if_pos h]
theorem mem_set {vs : List MV} {j : Nat} {v : MV} (hm : memE vs = 0) (hv : chk1 v = 0) : memE (vs.set j v) = 0 := by
  obtain ⟨hl, hc⟩ := mem_small hm
  unfold memE
  rw [if_neg (by rw [List.length_set]; omega), chkL_all]
  intro u hu
  rcases List.mem_or_eq_of_mem_set hu with h | rfl
  · exact chkL_all.1 hc u h
  · exact hv
end Go.Proofs.Ytlfeglljpfihhaa
