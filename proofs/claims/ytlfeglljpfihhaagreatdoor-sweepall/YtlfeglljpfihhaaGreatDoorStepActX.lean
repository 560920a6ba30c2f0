/- Plain: what an instruction does to a machine. -/
import Derived.Test.YtlfeglljpfihhaaGreatDoorRows
import Derived.Test.YtlfeglljpfihhaaGreatDoorCardBaseX
import Derived.Test.YtlfeglljpfihhaaGreatDoorValArgX
import Derived.Test.YtlfeglljpfihhaaGreatDoorMemPureX
import Derived.Test.YtlfeglljpfihhaaGreatDoorMemChkX
import Derived.Test.YtlfeglljpfihhaaGreatDoorStepRowX
import Derived.Test.YtlfeglljpfihhaaGreatDoorStepOffX
import Derived.Test.YtlfeglljpfihhaaGreatDoorStepOwnedX
import Derived.Test.YtlfeglljpfihhaaGreatDoorStepMidX
import Derived.Test.YtlfeglljpfihhaaGreatDoorStepMid2X
import Derived.Test.YtlfeglljpfihhaaGreatDoorStepBackX
import Derived.Test.YtlfeglljpfihhaaGreatDoorStepCallX
import Derived.WalkKit
namespace Go.Proofs.YtlfeglljpfihhaaGreatDoor
open Go.RowKit

/-- What comes of it: something is thrown, or a machine, and the key by which it goes on. -/
inductive AR where
  | no (t : Th)
  | ok (x : MC) (n : K5)
def reg (x : MC) (k : Int) : MV := x.r.getD k.toNat nil0
def kOf (v : MV) : K5 := ⟨v.p, v.b, v.l, v.a, v.s⟩
def keyR (x : MC) (a : Int) (K : KK) (n : K5) : AR := if K.e = 0 then .ok (putR x a.toNat (kV ⟨K.p, K.b, K.l, K.a, K.s⟩)) n else .no (.e K.e)
def calcR (x : MC) (i : ID) (n : K5) (b c : MV) : AR :=
  if b.i = true then .no .u else if c.i = true then .no .u else if i.o = 6 ∧ ¬ divE c.n = 0 then .no (.e (divE c.n)) else .ok (putR x i.a.toNat (nV (recI i.o b.n c.n))) n
def jumpR (x : MC) (i : ID) (n : K5) : AR := if 0 ≤ x.k.a + i.c ∧ x.k.a + i.c ≤ 400 then .ok x { n with a := x.k.a + i.c } else .no (.e 13)
/-- P19 to P22. -/
def actR (x : MC) (i : ID) (n : K5) : AR :=
  match i.o.toNat with
  | 0 => .no .h
  | 1 => .ok (putR x i.a.toNat (nV i.c)) n
  | 2 => .ok (putR x i.a.toNat (reg x i.b)) n
  | 3 | 4 | 5 | 6 | 7 => calcR x i n (reg x i.b) (reg x i.c)
  | 8 => jumpR x i n
  | 9 => if (reg x i.a).i = true then .no .u else if (reg x i.a).n = 0 then .ok x n else jumpR x i n
  | 10 => if (reg x i.b).i = true then (if loadE x.m (kOf (reg x i.b)) i.c = 0 then .ok (putR x i.a.toNat (loadV x.m (kOf (reg x i.b)) i.c)) n else .no (.e (loadE x.m (kOf (reg x i.b)) i.c))) else .no .u
  | 11 => if (reg x i.b).i = true then (if storeE x.m (kOf (reg x i.b)) i.c (reg x i.a) = 0 then .ok { x with m := storeL x.m (kOf (reg x i.b)) i.c (reg x i.a) } n else .no (.e (storeE x.m (kOf (reg x i.b)) i.c (reg x i.a)))) else .no .u
  | 12 | 13 => if (reg x i.b).i = true then (if (reg x i.c).i = true then .no .u else keyR x i.a (shiftK i.o (kOf (reg x i.b)) (reg x i.c).n) n) else .no .u
  | 14 => if (reg x i.b).i = true then keyR x i.a (dropK (reg x i.b).p (reg x i.b).b (reg x i.b).l (reg x i.b).a (reg x i.b).s i.c) n else .no .u
  | 15 => if (reg x i.b).i = true then (if (reg x i.c).i = true then keyR x i.a (sealK (reg x i.b).p (reg x i.b).b (reg x i.b).l (reg x i.b).a (reg x i.b).s (reg x i.c).p (reg x i.c).b (reg x i.c).l (reg x i.c).a (reg x i.c).s) n else .no .u) else .no .u
  | 16 => if (reg x i.b).i = true then (if (reg x i.c).i = true then keyR x i.a (openK (reg x i.b).p (reg x i.b).b (reg x i.b).l (reg x i.b).a (reg x i.b).s (reg x i.c).p (reg x i.c).b (reg x i.c).l (reg x i.c).a (reg x i.c).s) n else .no .u) else .no .u
  | 17 => if i.c = 0 then .ok (putR x i.a.toNat (nV (if (reg x i.b).i = true then 1 else 0))) n else if (reg x i.b).i = true then .ok (putR x i.a.toNat (nV (askI (reg x i.b) i.c))) n else .no .u
  | 18 => if (reg x i.a).i = true then (if (reg x i.b).i = true then (if callE (kOf (reg x i.a)) (kOf (reg x i.b)) x.s.length = 0 then .ok (callM x n (kOf (reg x i.b)) (reg x 7)) (open5 (kOf (reg x i.a))) else .no (.e (callE (kOf (reg x i.a)) (kOf (reg x i.b)) x.s.length))) else .no .u) else .no .u
  | 19 => match x.s.getLast? with
    | none => .no .h
    | some f => .ok (backM x f x.s.dropLast) f.c
  | 20 => .ok (putR x i.a.toNat (kV x.k)) n
  | 21 => .ok { x with r := clrN i.c x.r 8 } n
  | 22 => if (reg x i.a).i = true then .no .u else if 100 ≤ x.o.length then .no (.e 9) else .ok { x with o := x.o ++ [(reg x i.a).n] } n
  | _ => .ok x n
/-- What is known behind a call that did it. -/
def Acts (w : World) (S bb : Nat) (i : ID) (a : AR) (r : Ending) (w' : World) : Prop :=
  match a with
  | .no t => r = thrown t ∧ Off S w w'
  | .ok x' n' => r = .returned (.tuple #[]) ∧ Off S w w' ∧ ∃ q', St w' S bb x' q' i n'
theorem reg_at {x : MC} {k : Nat} (h8 : x.r.length = 8) (hk : k < 8) : x.r[k]? = some (reg x (k : Int)) := by
  unfold reg
  rw [Int.toNat_natCast, List.getD_eq_getElem?_getD, List.getElem?_eq_getElem (by omega)]
  rfl
def Ist (S : Nat) (a b c : Int) (W : World) : Prop := W.cell? ⟨S, 65, none⟩ = some (.int .i64 a) ∧ W.cell? ⟨S, 66, none⟩ = some (.int .i64 b) ∧ W.cell? ⟨S, 67, none⟩ = some (.int .i64 c)
theorem Ist.of {W : World} {S bb : Nat} {x : MC} {q : MA} {o a b c e : Int} {n : K5} (h : St W S bb x q ⟨o, a, b, c, e⟩ n) : Ist S a b c W := ⟨h.cells.ia, h.cells.ib, h.cells.ic⟩
end Go.Proofs.YtlfeglljpfihhaaGreatDoor
