/- custodianref.Eq over two lists of values: are they the same? custodianref.Copy: a list of its own. -/
import Derived.Test.YtpkmpkbgngbkjaaRows
import Derived.Test.YtpkmpkbgngbkjaaKeyPure
import Derived.Test.YtpkmpkbgngbkjaaCellPure
import Derived.Test.YtpkmpkbgngbkjaaValsArg
import Derived.Test.YtpkmpkbgngbkjaaMemPure
import Derived.Test.YtpkmpkbgngbkjaaMemUse
import Derived.WalkKit
import Derived.ProofKit
import Derived.OpenShut
import Derived.Deep.AppendLies
namespace Go.Proofs.Ytpkmpkbgngbkjaa
open Go.ChangeShapes Go.WideShapes Go.ChangeAt Go.RowKit
set_option linter.unusedSimpArgs false

def sm (u v : MV) : Bool := sameB u.i u.n u.p u.b u.l u.a u.s v.i v.n v.p v.b v.l v.a v.s
theorem mv_ext {u v : MV} (h0 : u.i = v.i) (h1 : u.n = v.n) (h2 : u.p = v.p) (h3 : u.b = v.b) (h4 : u.l = v.l) (h5 : u.a = v.a) (h6 : u.s = v.s) : u = v := by
  obtain ⟨a, b, c, d, e, f, g⟩ := u
  obtain ⟨a', b', c', d', e', f', g'⟩ := v
  cases h0; cases h1; cases h2; cases h3; cases h4; cases h5; cases h6
  rfl
theorem sm_yes {u v : MV} : sm u v = true ↔ u = v := by
  constructor
  · intro h
    simp only [sm, sameB, Bool.and_eq_true, beq_iff_eq] at h
    exact mv_ext h.1 h.2.1 h.2.2.1 h.2.2.2.1 h.2.2.2.2.1 h.2.2.2.2.2.1 h.2.2.2.2.2.2
  · rintro rfl
    simp [sm, sameB]
theorem mv_diff {u v : MV} (h : ¬ u = v) : (¬ u.i = v.i) ∨ (u.i = v.i ∧ ¬ u.n = v.n) ∨ (u.i = v.i ∧ u.n = v.n ∧ ¬ u.p = v.p) ∨ (u.i = v.i ∧ u.n = v.n ∧ u.p = v.p ∧ ¬ u.b = v.b) ∨ (u.i = v.i ∧ u.n = v.n ∧ u.p = v.p ∧ u.b = v.b ∧ ¬ u.l = v.l) ∨
    (u.i = v.i ∧ u.n = v.n ∧ u.p = v.p ∧ u.b = v.b ∧ u.l = v.l ∧ ¬ u.a = v.a) ∨ (u.i = v.i ∧ u.n = v.n ∧ u.p = v.p ∧ u.b = v.b ∧ u.l = v.l ∧ u.a = v.a ∧ ¬ u.s = v.s) := by
  by_cases h0 : u.i = v.i
  · by_cases h1 : u.n = v.n
    · by_cases h2 : u.p = v.p
      · by_cases h3 : u.b = v.b
        · by_cases h4 : u.l = v.l
          · by_cases h5 : u.a = v.a
            · by_cases h6 : u.s = v.s
              · exact absurd (mv_ext h0 h1 h2 h3 h4 h5 h6) h
              · simp [h0, h1, h2, h3, h4, h5, h6]
            · simp [h0, h1, h2, h3, h4, h5]
          · simp [h0, h1, h2, h3, h4]
        · simp [h0, h1, h2, h3]
      · simp [h0, h1, h2]
    · simp [h0, h1]
  · simp [h0]
def sameL : List MV → List MV → Bool
  | [], [] => true
  | u :: us, v :: vs => sm u v && sameL us vs
  | _, _ => false
theorem sameL_iff : ∀ {us vs : List MV}, sameL us vs = true ↔ us = vs
  | [], [] => by simp [sameL]
  | [], _ :: _ => by simp [sameL]
  | _ :: _, [] => by simp [sameL]
  | u :: us, v :: vs => by simp [sameL, sm_yes, sameL_iff]
set_option maxRecDepth 100000 in
set_option maxHeartbeats 2000000 in
theorem ref_eqv (a b : Option Addr) (c d : Nat) (xs ys : List MV) (w : World) (ha : ValsAt w a xs) (hb : ValsAt w b ys) (hm : xs.length ≤ maxLen) :
    Calls Try.prog 15 #[.slice a xs.length c, .slice b ys.length d] w fun e w' => e = .returned (.bool (sameL xs ys)) ∧ Below w.heap.size w w' := by
  have m1 : (xs.length : Int) ≤ 9223372036854775807 := by unfold maxLen at hm; omega
  by_cases hl : xs.length = ys.length
  · obtain ⟨R, hR⟩ : ∃ R, sameL xs ys = R := ⟨_, rfl⟩
    rw [hR, ← hl]
    have HR : Hid (sameL xs ys = R) := hR
    have HA : Hid (ValsAt w a xs) := ha
    have HB : Hid (ValsAt w b ys) := hb
    have HL : Hid (xs.length = ys.length) := hl
    clear hR hl ha hb
    go_enter Try.func15, Try.ntmps15
    go_wp2
    go_loopw [14] (fun i wr => ∃ k : Nat, k ≤ xs.length ∧ i = .int .i64 (k : Int) ∧ Below w.heap.size w wr ∧ sameL (xs.drop k) (ys.drop k) = R) (fun i _ => xs.length - (intOf i).toNat)
    case atStart => exact ⟨0, Nat.zero_le _, rfl, Below.refl _ _, HR.out⟩
    case round =>
      obtain ⟨k, hk, rfl, hB, hs⟩ := hrel
      by_cases hlt : k < xs.length
      · have gk : (k : Int) < (xs.length : Int) := by omega
        obtain ⟨p, hp⟩ : ∃ p, xs[k]? = some p := ⟨_, List.getElem?_eq_getElem hlt⟩
        obtain ⟨q, hq⟩ : ∃ q, ys[k]? = some q := ⟨_, List.getElem?_eq_getElem (by have := HL.out; omega)⟩
        obtain ⟨B1, o1, e1, hB1, c0, c1, c2, c3, c4, c5, c6⟩ := (HA.out.below hB).at hp
        obtain ⟨B2, o2, e2, hB2, d0, d1, d2, d3, d4, d5, d6⟩ := (HB.out.below hB).at hq
        subst e1
        subst e2
        rw [drop_mv hp, drop_mv hq, sameL] at hs
        have HB1 : ∀ A : Array Value, Hid (Below w.heap.size w (wr.alloc (.cells A 26)).drew) := fun A => (hB.alloc hB.size _).drew
        clear hp hq hB
        by_cases h1 : p = q
        · rw [sm_yes.2 h1, Bool.true_and] at hs
          subst h1
          have HS : Hid (sameL (xs.drop (k + 1)) (ys.drop (k + 1)) = R) := hs
          clear hs
          go_wp2
          go_region
          all_goals go_wp2
          go_roundw
          case rel => exact ⟨k + 1, by omega, rfl, (HB1 _).out, HS.out⟩
          case measure => simp [intOf]; omega
        · have hsm : sm p q = false := by
            cases h : sm p q
            · rfl
            · exact absurd (sm_yes.1 h) h1
          rw [hsm, Bool.false_and] at hs
          subst hs
          have hd := mv_diff h1
          clear h1 HR hsm
          obtain ⟨pi, pn, pp, pb, pl, pa, ps⟩ := p
          obtain ⟨qi, qn, qp, qb, ql, qa, qs⟩ := q
          dsimp only at *
          rcases hd with h | ⟨rfl, h⟩ | ⟨rfl, rfl, h⟩ | ⟨rfl, rfl, rfl, h⟩ | ⟨rfl, rfl, rfl, rfl, h⟩ | ⟨rfl, rfl, rfl, rfl, rfl, h⟩ | ⟨rfl, rfl, rfl, rfl, rfl, rfl, h⟩
          all_goals
            go_wp2
            go_region
            go_wp2
            go_ret
            exact ⟨rfl, (HB1 _).out⟩
      · obtain rfl : k = xs.length := by omega
        have gk : ¬ (xs.length : Int) < (xs.length : Int) := by omega
        rw [List.drop_length, List.drop_of_length_le (by have := HL.out; omega)] at hs
        have hs' : R = true := hs.symm
        subst hs'
        go_wp2
        go_ret
        exact ⟨rfl, hB⟩
  · have gl : ((xs.length : Int) != (ys.length : Int)) = true := by simp; omega
    have hn : sameL xs ys = false := by
      rw [Bool.eq_false_iff]
      intro h
      exact hl (by rw [sameL_iff.1 h])
    rw [hn]
    go_enter Try.func15, Try.ntmps15
    go_wp2
    go_ret
    exact ⟨rfl, Below.refl _ _⟩
set_option maxHeartbeats 2000000 in
theorem ref_copyv (s : Option Addr) (n c : Nat) (vs : List MV) (w : World) (hA : ValsAt w s vs) (hn : n = vs.length) (hl : n * 56 ≤ 140737488355328) :
    Calls Try.prog 16 #[.slice s n c] w fun e w' => ∃ V, e = .returned V ∧ Below w.heap.size w w' ∧ w'.ownsRow w.heap.size 26 7 V n (vs.flatMap mvC) := by
  obtain ⟨i0, hi, hz0, hz1, hz2⟩ := info_val
  by_cases h0 : vs = []
  · subst h0
    simp at hn
    subst hn
    clear hA
    cases s
    all_goals
      go_enter Try.func16, Try.ntmps16
      go_wp2
      go_ret
      exact ⟨_, rfl, Below.refl _ _, World.ownsRow_nil _ _ _ _⟩
  · rcases hA with h | ⟨B, off, rfl, hB, hc⟩
    · exact absurd h h0
    · have hp : 0 < n := by
        rcases Nat.eq_zero_or_pos n with h | h
        · exact absurd (List.length_eq_zero_iff.1 (by omega)) h0
        · exact h
      have zl : (vs.flatMap mvC).length = n * 7 := by rw [mv_len, hn]
      have hnews : ∀ j u, (vs.flatMap mvC)[j]? = some u → w.cell? ((⟨B, off, none⟩ : Addr).add j) = some u := fun j u hj => by rw [addr_add]; exact hc j u hj
      have h1 := mv_one vs
      have hmx : 0 + n ≤ maxLen := by unfold maxLen; omega
      have hby : (0 + n) * 56 ≤ 140737488355328 := by omega
      generalize vs.flatMap mvC = L at *
      have HZ : Hid (L.length = n * 7) := zl
      have HN : Hid (∀ j u, L[j]? = some u → w.cell? ((⟨B, off, none⟩ : Addr).add j) = some u) := hnews
      clear hn hc h0 zl hnews
      go_enter Try.func16, Try.ntmps16
      go_wp2_with (at_builtin; refine wpList_append_lies _ rfl _ _ _ rfl w.heap.size 26 i0 _ 7 56 Try.underlying22 hi hz0 hz1 hz2 rfl (by decide) (.slice none 0 0) 0 [] rfl (World.ownsRow_nil _ _ _ _) ⟨B, off, none⟩ n c L rfl HZ.out HN.out h1 hp hmx hby (Nat.le_refl _) _ rfl ?_; intro g cap w1 hown hgrow hat hlt; have hb := Below.grown (Below.refl _ _) hgrow (Nat.le_refl _) (fun k e => by cases e); rw [Nat.zero_add] at *; rw [List.nil_append] at hown; have HO : Hid (w1.ownsRow w.heap.size 26 7 (.slice (some ⟨g, 0, none⟩) n cap) n L) := hown; clear hown)
      go_ret
      exact ⟨_, rfl, hb, HO.out⟩
theorem own_vals {w : World} {base : Nat} {v : Value} {vs : List MV} {n : Nat} (hn : n = vs.length) (h : w.ownsRow base 26 7 v n (vs.flatMap mvC)) : ∃ a c, v = .slice a n c ∧ n ≤ c ∧ ValsAt w a vs := by
  subst hn
  obtain ⟨hl, h⟩ := h
  rcases h with ⟨rfl, h0⟩ | ⟨g, cap, cur, rfl, hb, hc, hcap, _, hcur, htk⟩
  · exact ⟨none, 0, by rw [h0], by omega, .inl (List.length_eq_zero_iff.1 h0)⟩
  · refine ⟨_, _, rfl, hcap, .inr ⟨g, 0, rfl, (Array.getElem?_eq_some_iff.1 hc).1, fun j u hj => ?_⟩⟩
    rw [Nat.zero_add, World.cell?, hc]
    rw [← htk] at hj
    have hj2 : j < vs.length * 7 := by
      rcases Nat.lt_or_ge j (vs.length * 7) with h1 | h1
      · exact h1
      · rw [List.getElem?_eq_none (by rw [List.length_take]; omega)] at hj; cases hj
    rw [List.getElem?_take_of_lt hj2] at hj
    simpa using hj
end Go.Proofs.Ytpkmpkbgngbkjaa
