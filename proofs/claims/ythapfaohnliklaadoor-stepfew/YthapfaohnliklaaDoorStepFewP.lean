/- Plain: a step changes one cell at most, by a key that allows it, and one register, but by Clear, and tells one number at most. -/
import Derived.Test.YthapfaohnliklaaDoorRows
import Derived.Test.YthapfaohnliklaaDoorBits
import Derived.Test.YthapfaohnliklaaDoorKeyPure
import Derived.Test.YthapfaohnliklaaDoorCellPure
import Derived.Test.YthapfaohnliklaaDoorValsArg
import Derived.Test.YthapfaohnliklaaDoorMemPure
import Derived.Test.YthapfaohnliklaaDoorInstDev
import Derived.Test.YthapfaohnliklaaDoorMachArg
import Derived.Test.YthapfaohnliklaaDoorStepMid
import Derived.Test.YthapfaohnliklaaDoorStepMid2
import Derived.Test.YthapfaohnliklaaDoorStepBack
import Derived.Test.YthapfaohnliklaaDoorStepCall
import Derived.Test.YthapfaohnliklaaDoorStepFetch
import Derived.Test.YthapfaohnliklaaDoorStepAct
import Derived.Test.YthapfaohnliklaaDoorStepStep
import Derived.Test.YthapfaohnliklaaDoorStepTop
import Derived.Test.YthapfaohnliklaaDoorStepKeep
import Derived.Test.YthapfaohnliklaaDoorKeepOp
namespace Go.Proofs.YthapfaohnliklaaDoor
open Go.RowKit
set_option linter.unusedVariables false

def smV (u v : MV) : Bool := sameB u.i u.n u.p u.b u.l u.a u.s v.i v.n v.p v.b v.l v.a v.s
theorem mvExt {u v : MV} (h0 : u.i = v.i) (h1 : u.n = v.n) (h2 : u.p = v.p) (h3 : u.b = v.b) (h4 : u.l = v.l) (h5 : u.a = v.a) (h6 : u.s = v.s) : u = v := by
  obtain ⟨a, b, c, d, e, f, g⟩ := u
  obtain ⟨a', b', c', d', e', f', g'⟩ := v
  cases h0; cases h1; cases h2; cases h3; cases h4; cases h5; cases h6
  rfl
theorem smV_yes {u v : MV} : smV u v = true ↔ u = v := by
  constructor
  · intro h
    simp only [smV, sameB, Bool.and_eq_true, beq_iff_eq] at h
    exact mvExt h.1 h.2.1 h.2.2.1 h.2.2.2.1 h.2.2.2.2.1 h.2.2.2.2.2.1 h.2.2.2.2.2.2
  · rintro rfl
    simp [smV, sameB]
theorem mvDiff {u v : MV} (h : ¬ u = v) : (¬ u.i = v.i) ∨ (u.i = v.i ∧ ¬ u.n = v.n) ∨ (u.i = v.i ∧ u.n = v.n ∧ ¬ u.p = v.p) ∨ (u.i = v.i ∧ u.n = v.n ∧ u.p = v.p ∧ ¬ u.b = v.b) ∨ (u.i = v.i ∧ u.n = v.n ∧ u.p = v.p ∧ u.b = v.b ∧ ¬ u.l = v.l) ∨
    (u.i = v.i ∧ u.n = v.n ∧ u.p = v.p ∧ u.b = v.b ∧ u.l = v.l ∧ ¬ u.a = v.a) ∨ (u.i = v.i ∧ u.n = v.n ∧ u.p = v.p ∧ u.b = v.b ∧ u.l = v.l ∧ u.a = v.a ∧ ¬ u.s = v.s) := by
  by_cases h0 : u.i = v.i
  · by_cases h1 : u.n = v.n
    · by_cases h2 : u.p = v.p
      · by_cases h3 : u.b = v.b
        · by_cases h4 : u.l = v.l
          · by_cases h5 : u.a = v.a
            · by_cases h6 : u.s = v.s
              · exact absurd (mvExt h0 h1 h2 h3 h4 h5 h6) h
              · simp [h0, h1, h2, h3, h4, h5, h6]
            · simp [h0, h1, h2, h3, h4, h5]
          · simp [h0, h1, h2, h3, h4]
        · simp [h0, h1, h2, h3]
      · simp [h0, h1, h2]
    · simp [h0, h1]
  · simp [h0]
/-- What a step may change. -/
structure Few (x y : MC) (i : ID) : Prop where
  ml : y.m.length = x.m.length
  mm : ∀ (j : Nat) (u v : MV), y.m[j]? = some u → x.m[j]? = some v → u = v ∨ (i.o = 11 ∧ covB (reg x i.b).b (reg x i.b).l (j : Int) = true ∧ (bits .and .i64 (reg x i.b).p 2 == 0) = false ∧ (reg x i.b).a + i.c = (j : Int) ∧ u = reg x i.a)
  o : ∃ l : List Int, y.o = x.o ++ l ∧ l.length ≤ 1
  r : i.o = 21 ∨ ∃ a u, y.r = x.r.set a u
theorem and2_all : ∀ n : Fin 128, inB 2 (n.val : Int) = true → (bits .and .i64 (n.val : Int) 2 == 0) = false := by decide +kernel
theorem and2 {p : Int} (h : 0 ≤ p ∧ p ≤ 127) (hi : inB 2 p = true) : (bits .and .i64 p 2 == 0) = false := by
  have := and2_all ⟨p.toNat, by omega⟩
  simp only [Int.toNat_of_nonneg h.1] at this
  exact this hi
theorem eff_few {x x' : MC} {i : ID} {n n' : K5} (h8 : x.r.length = 8) (h : Eff x i n x' n') : Few x { x' with k := n' } i := by
  have same : ∀ (j : Nat) (u v : MV), x.m[j]? = some u → x.m[j]? = some v → u = v := fun j u v hu hv => by
    rw [hu] at hv
    exact Option.some.inj hv
  have s8 : x.r = x.r.set 8 nil0 := (List.set_eq_of_length_le (by omega)).symm
  cases h with
  | put v hv ho => exact ⟨rfl, fun j u v hu hv => .inl (same j u v hu hv), ⟨[], (List.append_nil _).symm, Nat.zero_le _⟩, .inr ⟨_, _, rfl⟩⟩
  | jump ho hb => exact ⟨rfl, fun j u v hu hv => .inl (same j u v hu hv), ⟨[], (List.append_nil _).symm, Nat.zero_le _⟩, .inr ⟨8, nil0, s8⟩⟩
  | pass ho => exact ⟨rfl, fun j u v hu hv => .inl (same j u v hu hv), ⟨[], (List.append_nil _).symm, Nat.zero_le _⟩, .inr ⟨8, nil0, s8⟩⟩
  | store ho hi he =>
    obtain ⟨-, -, hp, -⟩ := store_yes he
    refine ⟨List.length_set, fun j u v hu hv => ?_, ⟨[], (List.append_nil _).symm, Nat.zero_le _⟩, .inr ⟨8, nil0, s8⟩⟩
    by_cases hj : pl (kOf (reg x i.b)) i.c = j
    · subst hj
      have hu' : (x.m.set (pl (kOf (reg x i.b)) i.c) (reg x i.a))[pl (kOf (reg x i.b)) i.c]? = some u := hu
      rw [List.getElem?_set_self hp.lt] at hu'
      have hk := ok5_lit hp.ok
      refine .inr ⟨ho, ?_, and2 ⟨hk.1, hk.2.1⟩ hp.p, hp.at_.symm, (Option.some.inj hu').symm⟩
      rw [hp.at_]
      exact hp.cov
    · have hu' : (x.m.set (pl (kOf (reg x i.b)) i.c) (reg x i.a))[j]? = some u := hu
      rw [List.getElem?_set_ne hj] at hu'
      exact .inl (same j u v hu' hv)
  | call ho ha hb he => exact ⟨rfl, fun j u v hu hv => .inl (same j u v hu hv), ⟨[], (List.append_nil _).symm, Nat.zero_le _⟩, .inr ⟨_, _, rfl⟩⟩
  | back ho f fs hs => exact ⟨rfl, fun j u v hu hv => .inl (same j u v hu hv), ⟨[], (List.append_nil _).symm, Nat.zero_le _⟩, .inr ⟨_, _, rfl⟩⟩
  | clear ho => exact ⟨rfl, fun j u v hu hv => .inl (same j u v hu hv), ⟨[], (List.append_nil _).symm, Nat.zero_le _⟩, .inl ho⟩
  | tell ho hi hl => exact ⟨rfl, fun j u v hu hv => .inl (same j u v hu hv), ⟨_, rfl, Nat.le_refl _⟩, .inr ⟨8, nil0, s8⟩⟩
theorem step_few {x : MC} (h8 : x.r.length = 8) (h : stpE x = 0) : Few x (stpM x) (opI x) ∧ okI (opI x) := by
  obtain ⟨hG, hf, hi, x', n', hE, hM, -⟩ := step_eff h8 h
  rw [opI_fet hG hf, hM]
  exact ⟨eff_few h8 hE, hi⟩
/-- In how many of the first k registers two machines differ. -/
def cntD (x y : MC) : Nat → Nat
  | 0 => 0
  | k + 1 => if smV (reg y (k : Int)) (reg x (k : Int)) = true then cntD x y k else cntD x y k + 1
theorem cnt_one {x y : MC} {a : Nat} {u : MV} (h : y.r = x.r.set a u) : ∀ k : Nat, cntD x y k ≤ if a < k then 1 else 0
  | 0 => by simp [cntD]
  | k + 1 => by
    have ih := cnt_one h k
    unfold cntD
    by_cases hk : a = k
    · subst hk
      rw [if_neg (Nat.lt_irrefl _)] at ih
      rw [if_pos (Nat.lt_succ_self _)]
      split <;> omega
    · have e : reg y (k : Int) = reg x (k : Int) := by
        unfold reg
        rw [Int.toNat_natCast, List.getD_eq_getElem?_getD, List.getD_eq_getElem?_getD, h, List.getElem?_set_ne hk]
      rw [if_pos (smV_yes.2 e)]
      refine Nat.le_trans ih ?_
      split
      · rw [if_pos (by omega)]; exact Nat.le_refl _
      · exact Nat.zero_le _
theorem few_cnt {x y : MC} {i : ID} (h : Few x y i) : i.o = 21 ∨ cntD x y 8 ≤ 1 := by
  rcases h.r with h | ⟨a, u, h⟩
  · exact .inl h
  · refine .inr (Nat.le_trans (cnt_one h 8) ?_)
    split <;> omega
end Go.Proofs.YthapfaohnliklaaDoor
