/- Plain: a register that an instruction does not name is of no matter, and stays. -/
import Derived.Test.YthapfaohnliklaaDoorRows
import Derived.Test.YthapfaohnliklaaDoorBits
import Derived.Test.YthapfaohnliklaaDoorKeyPure
import Derived.Test.YthapfaohnliklaaDoorCellPure
import Derived.Test.YthapfaohnliklaaDoorValsArg
import Derived.Test.YthapfaohnliklaaDoorMemPure
import Derived.Test.YthapfaohnliklaaDoorNum
import Derived.Test.YthapfaohnliklaaDoorInstDev
import Derived.Test.YthapfaohnliklaaDoorMachArg
import Derived.Test.YthapfaohnliklaaDoorStepChk
import Derived.Test.YthapfaohnliklaaDoorStepSmall
import Derived.Test.YthapfaohnliklaaDoorStepMid
import Derived.Test.YthapfaohnliklaaDoorStepMid2
import Derived.Test.YthapfaohnliklaaDoorStepBack
import Derived.Test.YthapfaohnliklaaDoorStepCall
import Derived.Test.YthapfaohnliklaaDoorStepFetch
import Derived.Test.YthapfaohnliklaaDoorStepAct
import Derived.Test.YthapfaohnliklaaDoorStepActs
import Derived.Test.YthapfaohnliklaaDoorStepStep
import Derived.Test.YthapfaohnliklaaDoorStepTop
import Derived.Test.YthapfaohnliklaaDoorStepKeep
import Derived.Test.YthapfaohnliklaaDoorKeepOp
namespace Go.Proofs.YthapfaohnliklaaDoor
open Go.RowKit
set_option linter.unusedVariables false

/-- The same, with register r another one. -/
def AR.putA (A : AR) (r : Nat) (v : MV) : AR := match A with
  | .no t => .no t
  | .ok x n => .ok (putR x r v) n
/-- Is register r named? -/
def namedB (i : ID) (r : Nat) : Bool :=
  if i.o = 18 ∨ i.o = 19 then true
  else if i.o = 21 then bitC i.c r
  else if i.o = 3 ∨ i.o = 4 ∨ i.o = 5 ∨ i.o = 6 ∨ i.o = 7 ∨ i.o = 12 ∨ i.o = 13 ∨ i.o = 15 ∨ i.o = 16 then ((r : Int) == i.a || (r : Int) == i.b || (r : Int) == i.c)
  else ((r : Int) == i.a || (r : Int) == i.b)
section
variable {x : MC} {r : Nat} {v : MV}
theorem reg_put {a : Int} (ha : 0 ≤ a) (h : ¬ (r : Int) = a) : reg (putR x r v) a = reg x a := by
  unfold reg putR
  dsimp only
  rw [List.getD_eq_getElem?_getD, List.getD_eq_getElem?_getD, List.getElem?_set_ne (by omega)]
theorem put_put {a : Nat} {u : MV} (h : ¬ r = a) : putR (putR x r v) a u = putR (putR x a u) r v := by
  unfold putR
  dsimp only
  rw [List.set_comm _ _ h]
theorem key_put {a : Int} {K : KK} {n : K5} (h : ¬ r = a.toNat) : keyR (putR x r v) a K n = (keyR x a K n).putA r v := by
  unfold keyR
  split
  · rw [put_put h]; rfl
  · rfl
theorem calc_put {i : ID} {n : K5} {b c : MV} (h : ¬ r = i.a.toNat) : calcR (putR x r v) i n b c = (calcR x i n b c).putA r v := by
  unfold calcR
  split
  · rfl
  · split
    · rfl
    · split
      · rfl
      · rw [put_put h]; rfl
theorem jump_put {i : ID} {n : K5} : jumpR (putR x r v) i n = (jumpR x i n).putA r v := by
  unfold jumpR
  show (if 0 ≤ x.k.a + i.c ∧ x.k.a + i.c ≤ 400 then AR.ok (putR x r v) { n with a := x.k.a + i.c } else .no (.e 13)) = _
  split <;> rfl
theorem clr_put {c : Int} (h : bitC c r = false) (l : List MV) (k : Nat) : clrN c (l.set r v) k = (clrN c l k).set r v := by
  induction k with
  | zero => rfl
  | succ k ih =>
    unfold clrN
    rw [ih]
    split
    · rename_i hb
      rw [List.set_comm _ _ (fun e => by subst e; rw [h] at hb; cases hb)]
    · rfl
/-- What an instruction does, with a register that it does not name another one. -/
theorem act_local {i : ID} {n : K5} (hi : okI i) (hn : namedB i r = false) : actR (putR x r v) i n = (actR x i n).putA r v := by
  obtain ⟨⟨o1, o2⟩, a1, a2, b1, b2, c1, c2⟩ := chkD_ok hi
  obtain ⟨c3, -, -⟩ := okI_c hi
  obtain ⟨O, hO⟩ := Int.eq_ofNat_of_zero_le o1
  have hO23 : O = 0 ∨ O = 1 ∨ O = 2 ∨ O = 3 ∨ O = 4 ∨ O = 5 ∨ O = 6 ∨ O = 7 ∨ O = 8 ∨ O = 9 ∨ O = 10 ∨ O = 11 ∨ O = 12 ∨ O = 13 ∨ O = 14 ∨ O = 15 ∨ O = 16 ∨ O = 17 ∨ O = 18 ∨ O = 19 ∨ O = 20 ∨ O = 21 ∨ O = 22 := by omega
  unfold namedB at hn
  unfold actR
  rw [hO, Int.toNat_natCast]
  rw [hO] at hn c3
  rcases hO23 with rfl | rfl | rfl | rfl | rfl | rfl | rfl | rfl | rfl | rfl | rfl | rfl | rfl | rfl | rfl | rfl | rfl | rfl | rfl | rfl | rfl | rfl | rfl
  all_goals simp only
  all_goals first
    | (exfalso; simp at hn; done)
    | (have hc : bitC i.c r = false := by simpa using hn
       show AR.ok { putR x r v with r := clrN i.c (x.r.set r v) 8 } n = _
       rw [clr_put hc]
       rfl)
    | (obtain ⟨⟨ha, hb⟩, hc⟩ : (¬ (r : Int) = i.a ∧ ¬ (r : Int) = i.b) ∧ ¬ (r : Int) = i.c := by simpa [not_or] using hn
       have hcc := c3 (by omega)
       rw [reg_put b1 hb, reg_put hcc.1 hc]
       first
         | exact calc_put (by omega)
         | (split
            · split
              · first | rfl | exact key_put (by omega)
              · first | rfl | exact key_put (by omega)
            · rfl))
    | (obtain ⟨ha, hb⟩ : ¬ (r : Int) = i.a ∧ ¬ (r : Int) = i.b := by simpa [not_or] using hn
       have ra : reg (putR x r v) i.a = reg x i.a := reg_put a1 ha
       have rb : reg (putR x r v) i.b = reg x i.b := reg_put b1 hb
       have na : ¬ r = i.a.toNat := by omega
       try rw [ra]
       try rw [rb]
       try rw [show (putR x r v).m = x.m from rfl]
       try rw [show (putR x r v).s = x.s from rfl]
       try rw [show (putR x r v).o = x.o from rfl]
       try rw [show (putR x r v).k = x.k from rfl]
       first
         | rfl
         | exact jump_put
         | (rw [put_put na]; rfl)
         | (split <;> first | rfl | exact key_put na | (split <;> first | rfl | exact jump_put | (rw [put_put na]; rfl)) | (rw [put_put na]; rfl)))
theorem fet_put : fetI (putR x r v) = fetI x := rfl
theorem step_put (hi : okI (insAt x)) (hf : fetI x = 0) (hn : namedB (insAt x) r = false) : stepA (putR x r v) = (stepA x).putA r v := by
  unfold stepA
  rw [fet_put, if_pos hf, if_pos hf]
  exact act_local hi hn
/-- P19: what is not named is of no matter, and stays. -/
theorem step_local (h8 : x.r.length = 8) (hE : stpE x = 0) (hE' : mcE (putR x r v) = 0) (hn : namedB (opI x) r = false) : stpE (putR x r v) = 0 ∧ stpM (putR x r v) = putR (stpM x) r v := by
  obtain ⟨hG, hf, hi, x', n', -, hM, hA⟩ := step_eff h8 hE
  rw [opI_fet hG hf] at hn
  have h1 := step_put (v := v) hi hf hn
  rw [hA] at h1
  unfold stpE stpM
  rw [if_pos hE', if_pos hE', h1, if_pos hG.e, hA]
  exact ⟨rfl, rfl⟩
end
end Go.Proofs.YthapfaohnliklaaDoor
