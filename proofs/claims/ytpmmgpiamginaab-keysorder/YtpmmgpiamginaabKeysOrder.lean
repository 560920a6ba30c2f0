/- For whatever three keys, the law KeysOrder returns true: to be no more than another one is an order; no condition. -/
import Derived.Test.YtpmmgpiamginaabRows
import Derived.Test.YtpmmgpiamginaabKeyArg
import Derived.Test.YtpmmgpiamginaabBits
import Derived.Test.YtpmmgpiamginaabWithin
import Derived.Test.YtpmmgpiamginaabKeyPure
import Derived.Test.YtpmmgpiamginaabKeys
import Derived.Test.YtpmmgpiamginaabKeyMore
import Derived.Test.YtpmmgpiamginaabKeyed
import Derived.Deep.Cut
import Derived.WalkKit
import Derived.ProofKit
import Derived.OpenShut
namespace Go.Proofs.Ytpmmgpiamginaab.keysOrder
open Go.ChangeShapes Go.WideShapes Go.ChangeAt Go.RowKit
set_option linter.unusedVariables false

theorem own : ownKnob Try.prog.godebug = none := by kernel_rfl

theorem at_list {ops : Array Oper} {Q : Exit → Act → World → Prop} {rest : List Oper} {o : Oper} {a : Act} {w : World} (h : wpList Try.prog ops Q (o :: rest) a w) : wpList Try.prog ops Q (o :: rest) a w := h
/-- A call of Under by a value that lies in a slot: met by its contract. -/
theorem slot_under {ops : Array Oper} {Q : Exit → Act → World → Prop} {rest : List Oper} {o : Oper} {a : Act} {w : World}
    (hw : Region.wanted o (yielded ops a.tmps) = true) (f x y : Operand) (ats : Array TypeId)
    (ho : o.op = .call { callee := .value f, args := #[x, y], argTypes := ats })
    (hf : a.eval f = .func (.func 9) #[] #[]) (p b l t s p' b' l' t' s' : Int)
    (hx : a.eval x = .agg #[.int .i64 p, .int .i64 b, .int .i64 l, .int .i64 t, .int .i64 s]) (hy : a.eval y = .agg #[.int .i64 p', .int .i64 b', .int .i64 l', .int .i64 t', .int .i64 s'])
    (k : kb p b l t s) (k' : kb p' b' l' t' s')
    (h : ∀ w1, Below w.heap.size w w1 → wpList Try.prog ops Q rest (a.put o.dst (.bool (undB p b l s p' b' l' s'))) w1) : wpList Try.prog ops Q (o :: rest) a w := by
  refine BigFrame.wpList_want hw fun K hK => ?_
  unfold Oper.wp
  have e : (execOp a.eval o).run Try.prog w = .ok (.enter 9 #[.agg #[.int .i64 p, .int .i64 b, .int .i64 l, .int .i64 t, .int .i64 s], .agg #[.int .i64 p', .int .i64 b', .int .i64 l', .int .i64 t', .int .i64 s']]) w := by
    have e1 : execOp a.eval o = (do let d ← resolve a.eval { callee := .value f, args := #[x, y], argTypes := ats } o.type; invoke d.target d.args) := by
      unfold execOp; rw [ho]
    rw [e1]
    have e2 : resolve a.eval { callee := .value f, args := #[x, y], argTypes := ats } o.type = pure { target := .fn (.func 9) #[], args := #[.agg #[.int .i64 p, .int .i64 b, .int .i64 l, .int .i64 t, .int .i64 s], .agg #[.int .i64 p', .int .i64 b', .int .i64 l', .int .i64 t', .int .i64 s']] } := by
      unfold resolve
      simp [hf, hx, hy, Deferred.ofValue]
    rw [e2, pure_bind]
    have hfn := Try.func9
    go_simp
  rw [e, Oper.upon_enter]
  refine (keys_under p b l t s p' b' l' t' s' w k k').mono ?_
  rintro e w1 ⟨rfl, hb⟩
  exact hK _ _ (h w1 hb)
theorem und_refl (p b l s : Int) : undB p b l s p b l s = true := by
  unfold undB cwB; rw [in_refl]; simp
theorem und_trans {p b l s p' b' l' s' p2 b2 l2 s2 : Int} (h : undB p b l s p' b' l' s' = true) (k : undB p' b' l' s' p2 b2 l2 s2 = true) : undB p b l s p2 b2 l2 s2 = true := by
  simp only [undB, cwB, Bool.and_eq_true, Bool.or_eq_true, beq_iff_eq, decide_eq_true_eq] at *
  refine ⟨⟨by omega, in_trans _ _ _ h.1.2 k.1.2⟩, by omega⟩
theorem und_same {p b l a s p' b' l' a' s' : Int} (ho : ok p b l a s) (ho' : ok p' b' l' a' s') :
    (undB p b l s p' b' l' s' && undB p' b' l' s' p b l s) = ((l == l') && ((l == 0) || (b == b')) && (p == p') && (s == s')) := by
  unfold ok at ho ho'
  rw [Bool.eq_iff_iff]
  simp only [undB, cwB, Bool.and_eq_true, Bool.or_eq_true, beq_iff_eq, decide_eq_true_eq]
  constructor
  · rintro ⟨⟨⟨h1, h2⟩, h3⟩, ⟨⟨h4, h5⟩, h6⟩⟩
    have hp := in_anti p p' (by omega) (by omega) h2 h5
    omega
  · rintro ⟨⟨⟨h1, h2⟩, rfl⟩, rfl⟩
    refine ⟨⟨⟨by omega, in_refl _⟩, by omega⟩, ⟨⟨by omega, in_refl _⟩, by omega⟩⟩

set_option maxHeartbeats 4000000 in
set_option maxRecDepth 1000000 in
theorem walk (a0p a0b a0l a0a a0s : Int) (a1p a1b a1l a1a a1s : Int) (a2p a2b a2l a2a a2s : Int) (K0 : kb a0p a0b a0l a0a a0s) (K1 : kb a1p a1b a1l a1a a1s) (K2 : kb a2p a2b a2l a2a a2s) (w : World) :
    Calls Try.prog 3 #[.agg #[.int .i64 a0p, .int .i64 a0b, .int .i64 a0l, .int .i64 a0a, .int .i64 a0s], .agg #[.int .i64 a1p, .int .i64 a1b, .int .i64 a1l, .int .i64 a1a, .int .i64 a1s], .agg #[.int .i64 a2p, .int .i64 a2b, .int .i64 a2l, .int .i64 a2a, .int .i64 a2s]] w fun e w' => e = .returned (.bool true) ∧ Below w.heap.size w w' := by
  by_cases ho0 : ok a0p a0b a0l a0a a0s
  case neg =>
    have k0 := chk_no ho0
    clear ho0
    go_enter Try.func3, Try.ntmps3
    go_wp2_with (first | (go_at_call 10; refine (keyed_true _).mono ?_; rintro e w1 ⟨rfl, hbb⟩; first | (replace B3 := (B3.alloc _).below hbb; replace B2 := (B2.alloc _).below hbb; replace B1 := (B1.alloc _).below hbb; have B4 := (Box.new _ _ _).below hbb; clear q1 z1 q2 z2 q3 z3; have q1 := B1.cell; have z1 := B1.lt; have q2 := B2.cell; have z2 := B2.lt; have q3 := B3.cell; have z3 := B3.lt; have q4 := B4.cell; have z4 := B4.lt; replace hB := Below.step0 (hB.alloc hB.size _) hbb; clear hbb) | (replace B3 := B3.below hbb; replace B2 := B2.below hbb; replace B1 := B1.below hbb; clear q1 z1 q2 z2 q3 z3; have q1 := B1.cell; have z1 := B1.lt; have q2 := B2.cell; have z2 := B2.lt; have q3 := B3.cell; have z3 := B3.lt; replace hB := Below.step0 hB hbb; clear hbb) | (have B1 := (((Box.new _ _ _).alloc _).alloc _).below hbb; have B2 := ((Box.new1 _ _ _ _).alloc _).below hbb; have B3 := (Box.new2 _ _ _ _ _).below hbb; have q1 := B1.cell; have z1 := B1.lt; have q2 := B2.cell; have z2 := B2.lt; have q3 := B3.cell; have z3 := B3.lt; have hB := Below.step0 (three _ _ _) hbb; clear hbb)) | (go_at_call 11; refine (keys_check _ _ _ _ _ _ (by first | exact K0 | exact K1 | exact K2)).mono ?_; rintro e w1 ⟨rfl, hbb⟩; first | (replace B3 := (B3.alloc _).below hbb; replace B2 := (B2.alloc _).below hbb; replace B1 := (B1.alloc _).below hbb; have B4 := (Box.new _ _ _).below hbb; clear q1 z1 q2 z2 q3 z3; have q1 := B1.cell; have z1 := B1.lt; have q2 := B2.cell; have z2 := B2.lt; have q3 := B3.cell; have z3 := B3.lt; have q4 := B4.cell; have z4 := B4.lt; replace hB := Below.step0 (hB.alloc hB.size _) hbb; clear hbb) | (replace B3 := B3.below hbb; replace B2 := B2.below hbb; replace B1 := B1.below hbb; clear q1 z1 q2 z2 q3 z3; have q1 := B1.cell; have z1 := B1.lt; have q2 := B2.cell; have z2 := B2.lt; have q3 := B3.cell; have z3 := B3.lt; replace hB := Below.step0 hB hbb; clear hbb) | (have B1 := (((Box.new _ _ _).alloc _).alloc _).below hbb; have B2 := ((Box.new1 _ _ _ _).alloc _).below hbb; have B3 := (Box.new2 _ _ _ _ _).below hbb; have q1 := B1.cell; have z1 := B1.lt; have q2 := B2.cell; have z2 := B2.lt; have q3 := B3.cell; have z3 := B3.lt; have hB := Below.step0 (three _ _ _) hbb; clear hbb)))
    go_ret
    exact ⟨rfl, hB⟩
  have k0 := chk_yes ho0
  by_cases ho1 : ok a1p a1b a1l a1a a1s
  case neg =>
    have k1 := chk_no ho1
    clear ho0 ho1
    go_enter Try.func3, Try.ntmps3
    go_wp2_with (first | (go_at_call 10; refine (keyed_true _).mono ?_; rintro e w1 ⟨rfl, hbb⟩; first | (replace B3 := (B3.alloc _).below hbb; replace B2 := (B2.alloc _).below hbb; replace B1 := (B1.alloc _).below hbb; have B4 := (Box.new _ _ _).below hbb; clear q1 z1 q2 z2 q3 z3; have q1 := B1.cell; have z1 := B1.lt; have q2 := B2.cell; have z2 := B2.lt; have q3 := B3.cell; have z3 := B3.lt; have q4 := B4.cell; have z4 := B4.lt; replace hB := Below.step0 (hB.alloc hB.size _) hbb; clear hbb) | (replace B3 := B3.below hbb; replace B2 := B2.below hbb; replace B1 := B1.below hbb; clear q1 z1 q2 z2 q3 z3; have q1 := B1.cell; have z1 := B1.lt; have q2 := B2.cell; have z2 := B2.lt; have q3 := B3.cell; have z3 := B3.lt; replace hB := Below.step0 hB hbb; clear hbb) | (have B1 := (((Box.new _ _ _).alloc _).alloc _).below hbb; have B2 := ((Box.new1 _ _ _ _).alloc _).below hbb; have B3 := (Box.new2 _ _ _ _ _).below hbb; have q1 := B1.cell; have z1 := B1.lt; have q2 := B2.cell; have z2 := B2.lt; have q3 := B3.cell; have z3 := B3.lt; have hB := Below.step0 (three _ _ _) hbb; clear hbb)) | (go_at_call 11; refine (keys_check _ _ _ _ _ _ (by first | exact K0 | exact K1 | exact K2)).mono ?_; rintro e w1 ⟨rfl, hbb⟩; first | (replace B3 := (B3.alloc _).below hbb; replace B2 := (B2.alloc _).below hbb; replace B1 := (B1.alloc _).below hbb; have B4 := (Box.new _ _ _).below hbb; clear q1 z1 q2 z2 q3 z3; have q1 := B1.cell; have z1 := B1.lt; have q2 := B2.cell; have z2 := B2.lt; have q3 := B3.cell; have z3 := B3.lt; have q4 := B4.cell; have z4 := B4.lt; replace hB := Below.step0 (hB.alloc hB.size _) hbb; clear hbb) | (replace B3 := B3.below hbb; replace B2 := B2.below hbb; replace B1 := B1.below hbb; clear q1 z1 q2 z2 q3 z3; have q1 := B1.cell; have z1 := B1.lt; have q2 := B2.cell; have z2 := B2.lt; have q3 := B3.cell; have z3 := B3.lt; replace hB := Below.step0 hB hbb; clear hbb) | (have B1 := (((Box.new _ _ _).alloc _).alloc _).below hbb; have B2 := ((Box.new1 _ _ _ _).alloc _).below hbb; have B3 := (Box.new2 _ _ _ _ _).below hbb; have q1 := B1.cell; have z1 := B1.lt; have q2 := B2.cell; have z2 := B2.lt; have q3 := B3.cell; have z3 := B3.lt; have hB := Below.step0 (three _ _ _) hbb; clear hbb)))
    go_ret
    exact ⟨rfl, hB⟩
  have k1 := chk_yes ho1
  by_cases ho2 : ok a2p a2b a2l a2a a2s
  case neg =>
    have k2 := chk_no ho2
    clear ho0 ho1 ho2
    go_enter Try.func3, Try.ntmps3
    go_wp2_with (first | (go_at_call 10; refine (keyed_true _).mono ?_; rintro e w1 ⟨rfl, hbb⟩; first | (replace B3 := (B3.alloc _).below hbb; replace B2 := (B2.alloc _).below hbb; replace B1 := (B1.alloc _).below hbb; have B4 := (Box.new _ _ _).below hbb; clear q1 z1 q2 z2 q3 z3; have q1 := B1.cell; have z1 := B1.lt; have q2 := B2.cell; have z2 := B2.lt; have q3 := B3.cell; have z3 := B3.lt; have q4 := B4.cell; have z4 := B4.lt; replace hB := Below.step0 (hB.alloc hB.size _) hbb; clear hbb) | (replace B3 := B3.below hbb; replace B2 := B2.below hbb; replace B1 := B1.below hbb; clear q1 z1 q2 z2 q3 z3; have q1 := B1.cell; have z1 := B1.lt; have q2 := B2.cell; have z2 := B2.lt; have q3 := B3.cell; have z3 := B3.lt; replace hB := Below.step0 hB hbb; clear hbb) | (have B1 := (((Box.new _ _ _).alloc _).alloc _).below hbb; have B2 := ((Box.new1 _ _ _ _).alloc _).below hbb; have B3 := (Box.new2 _ _ _ _ _).below hbb; have q1 := B1.cell; have z1 := B1.lt; have q2 := B2.cell; have z2 := B2.lt; have q3 := B3.cell; have z3 := B3.lt; have hB := Below.step0 (three _ _ _) hbb; clear hbb)) | (go_at_call 11; refine (keys_check _ _ _ _ _ _ (by first | exact K0 | exact K1 | exact K2)).mono ?_; rintro e w1 ⟨rfl, hbb⟩; first | (replace B3 := (B3.alloc _).below hbb; replace B2 := (B2.alloc _).below hbb; replace B1 := (B1.alloc _).below hbb; have B4 := (Box.new _ _ _).below hbb; clear q1 z1 q2 z2 q3 z3; have q1 := B1.cell; have z1 := B1.lt; have q2 := B2.cell; have z2 := B2.lt; have q3 := B3.cell; have z3 := B3.lt; have q4 := B4.cell; have z4 := B4.lt; replace hB := Below.step0 (hB.alloc hB.size _) hbb; clear hbb) | (replace B3 := B3.below hbb; replace B2 := B2.below hbb; replace B1 := B1.below hbb; clear q1 z1 q2 z2 q3 z3; have q1 := B1.cell; have z1 := B1.lt; have q2 := B2.cell; have z2 := B2.lt; have q3 := B3.cell; have z3 := B3.lt; replace hB := Below.step0 hB hbb; clear hbb) | (have B1 := (((Box.new _ _ _).alloc _).alloc _).below hbb; have B2 := ((Box.new1 _ _ _ _).alloc _).below hbb; have B3 := (Box.new2 _ _ _ _ _).below hbb; have q1 := B1.cell; have z1 := B1.lt; have q2 := B2.cell; have z2 := B2.lt; have q3 := B3.cell; have z3 := B3.lt; have hB := Below.step0 (three _ _ _) hbb; clear hbb)))
    go_ret
    exact ⟨rfl, hB⟩
  have k2 := chk_yes ho2
  have u00 : undB a0p a0b a0l a0s a0p a0b a0l a0s = true := und_refl _ _ _ _
  have ut : undB a0p a0b a0l a0s a1p a1b a1l a1s = true → undB a1p a1b a1l a1s a2p a2b a2l a2s = true → undB a0p a0b a0l a0s a2p a2b a2l a2s = true := und_trans
  have us : (undB a0p a0b a0l a0s a1p a1b a1l a1s && undB a1p a1b a1l a1s a0p a0b a0l a0s) = ((a0l == a1l) && ((a0l == 0) || (a0b == a1b)) && (a0p == a1p) && (a0s == a1s)) := und_same ho0 ho1
  obtain ⟨S, hS⟩ : ∃ S, ((a0l == a1l) && ((a0l == 0) || (a0b == a1b)) && (a0p == a1p) && (a0s == a1s)) = S := ⟨_, rfl⟩
  rw [hS] at us
  clear ho0 ho1 ho2
  have HS : Hid (((a0l == a1l) && ((a0l == 0) || (a0b == a1b)) && (a0p == a1p) && (a0s == a1s)) = S) := hS
  clear hS
  go_enter Try.func3, Try.ntmps3
  go_upto_region 4 with (first | (go_at_call 10; refine (keyed_true _).mono ?_; rintro e w1 ⟨rfl, hbb⟩; first | (replace B3 := (B3.alloc _).below hbb; replace B2 := (B2.alloc _).below hbb; replace B1 := (B1.alloc _).below hbb; have B4 := (Box.new _ _ _).below hbb; clear q1 z1 q2 z2 q3 z3; have q1 := B1.cell; have z1 := B1.lt; have q2 := B2.cell; have z2 := B2.lt; have q3 := B3.cell; have z3 := B3.lt; have q4 := B4.cell; have z4 := B4.lt; replace hB := Below.step0 (hB.alloc hB.size _) hbb; clear hbb) | (replace B3 := B3.below hbb; replace B2 := B2.below hbb; replace B1 := B1.below hbb; clear q1 z1 q2 z2 q3 z3; have q1 := B1.cell; have z1 := B1.lt; have q2 := B2.cell; have z2 := B2.lt; have q3 := B3.cell; have z3 := B3.lt; replace hB := Below.step0 hB hbb; clear hbb) | (have B1 := (((Box.new _ _ _).alloc _).alloc _).below hbb; have B2 := ((Box.new1 _ _ _ _).alloc _).below hbb; have B3 := (Box.new2 _ _ _ _ _).below hbb; have q1 := B1.cell; have z1 := B1.lt; have q2 := B2.cell; have z2 := B2.lt; have q3 := B3.cell; have z3 := B3.lt; have hB := Below.step0 (three _ _ _) hbb; clear hbb)) | (go_at_call 11; refine (keys_check _ _ _ _ _ _ (by first | exact K0 | exact K1 | exact K2)).mono ?_; rintro e w1 ⟨rfl, hbb⟩; first | (replace B3 := (B3.alloc _).below hbb; replace B2 := (B2.alloc _).below hbb; replace B1 := (B1.alloc _).below hbb; have B4 := (Box.new _ _ _).below hbb; clear q1 z1 q2 z2 q3 z3; have q1 := B1.cell; have z1 := B1.lt; have q2 := B2.cell; have z2 := B2.lt; have q3 := B3.cell; have z3 := B3.lt; have q4 := B4.cell; have z4 := B4.lt; replace hB := Below.step0 (hB.alloc hB.size _) hbb; clear hbb) | (replace B3 := B3.below hbb; replace B2 := B2.below hbb; replace B1 := B1.below hbb; clear q1 z1 q2 z2 q3 z3; have q1 := B1.cell; have z1 := B1.lt; have q2 := B2.cell; have z2 := B2.lt; have q3 := B3.cell; have z3 := B3.lt; replace hB := Below.step0 hB hbb; clear hbb) | (have B1 := (((Box.new _ _ _).alloc _).alloc _).below hbb; have B2 := ((Box.new1 _ _ _ _).alloc _).below hbb; have B3 := (Box.new2 _ _ _ _ _).below hbb; have q1 := B1.cell; have z1 := B1.lt; have q2 := B2.cell; have z2 := B2.lt; have q3 := B3.cell; have z3 := B3.lt; have hB := Below.step0 (three _ _ _) hbb; clear hbb)))
  go_cut [50] from 27 (fun s50 wx => s50 = .bool false ∧ Below w.heap.size w wx ∧ Box wx w.heap.size #[.int .i64 a0p, .int .i64 a0b, .int .i64 a0l, .int .i64 a0a, .int .i64 a0s] ∧ Box wx (w.heap.size + 1) #[.int .i64 a1p, .int .i64 a1b, .int .i64 a1l, .int .i64 a1a, .int .i64 a1s] ∧ Box wx (w.heap.size + 2) #[.int .i64 a2p, .int .i64 a2b, .int .i64 a2l, .int .i64 a2a, .int .i64 a2s])
  case first =>
    clear us
    have cs : undB a0p a0b a0l a0s a1p a1b a1l a1s = false ∨ (undB a0p a0b a0l a0s a1p a1b a1l a1s = true ∧ undB a1p a1b a1l a1s a2p a2b a2l a2s = false) ∨ (undB a0p a0b a0l a0s a1p a1b a1l a1s = true ∧ undB a1p a1b a1l a1s a2p a2b a2l a2s = true ∧ undB a0p a0b a0l a0s a2p a2b a2l a2s = true) := by
      cases h1 : undB a0p a0b a0l a0s a1p a1b a1l a1s
      · exact .inl rfl
      · cases h2 : undB a1p a1b a1l a1s a2p a2b a2l a2s
        · exact .inr (.inl ⟨rfl, rfl⟩)
        · exact .inr (.inr ⟨rfl, rfl, ut h1 h2⟩)
    clear ut
    rcases cs with h1 | ⟨h1, h2⟩ | ⟨h1, h2, h3⟩
    all_goals
      go_wp2_with (first | (with_reducible refine at_list ?_; refine slot_under rfl _ _ _ _ rfl rfl _ _ _ _ _ _ _ _ _ _ rfl rfl (by first | exact K0 | exact K1 | exact K2) (by first | exact K0 | exact K1 | exact K2) ?_; intro w1 hbb; first | (replace B3 := (B3.alloc _).below hbb; replace B2 := (B2.alloc _).below hbb; replace B1 := (B1.alloc _).below hbb; have B4 := (Box.new _ _ _).below hbb; clear q1 z1 q2 z2 q3 z3; have q1 := B1.cell; have z1 := B1.lt; have q2 := B2.cell; have z2 := B2.lt; have q3 := B3.cell; have z3 := B3.lt; have q4 := B4.cell; have z4 := B4.lt; replace hB := Below.step0 (hB.alloc hB.size _) hbb; clear hbb) | (replace B3 := B3.below hbb; replace B2 := B2.below hbb; replace B1 := B1.below hbb; clear q1 z1 q2 z2 q3 z3; have q1 := B1.cell; have z1 := B1.lt; have q2 := B2.cell; have z2 := B2.lt; have q3 := B3.cell; have z3 := B3.lt; replace hB := Below.step0 hB hbb; clear hbb) | (have B1 := (((Box.new _ _ _).alloc _).alloc _).below hbb; have B2 := ((Box.new1 _ _ _ _).alloc _).below hbb; have B3 := (Box.new2 _ _ _ _ _).below hbb; have q1 := B1.cell; have z1 := B1.lt; have q2 := B2.cell; have z2 := B2.lt; have q3 := B3.cell; have z3 := B3.lt; have hB := Below.step0 (three _ _ _) hbb; clear hbb)))
      go_meet
      exact ⟨rfl, hB, B1, B2, B3⟩
  case rest =>
    obtain ⟨rfl, hBx, X1, X2, X3⟩ := hcut
    clear ut u00 q1 q2 q3 z1 z2 z3 hB B1 B2 B3
    have B1 := X1
    have B2 := X2
    have B3 := X3
    have hB := hBx
    clear X1 X2 X3 hBx
    have q1 := B1.cell
    have z1 := B1.lt
    have q2 := B2.cell
    have z2 := B2.lt
    have q3 := B3.cell
    have z3 := B3.lt
    go_upto_region 6 with fail
    go_cut [8] from 51 (fun s8 wx => s8 = .bool S ∧ Below w.heap.size w wx ∧ Box wx w.heap.size #[.int .i64 a0p, .int .i64 a0b, .int .i64 a0l, .int .i64 a0a, .int .i64 a0s] ∧ Box wx (w.heap.size + 1) #[.int .i64 a1p, .int .i64 a1b, .int .i64 a1l, .int .i64 a1a, .int .i64 a1s] ∧ Box wx (w.heap.size + 2) #[.int .i64 a2p, .int .i64 a2b, .int .i64 a2l, .int .i64 a2a, .int .i64 a2s])
    case first =>
      clear us
      have cs : ((a0l == a1l) = false ∧ S = false) ∨ ((a0l == a1l) = true ∧ (a0l == 0) = true ∧ (a0p == a1p) = false ∧ S = false) ∨ ((a0l == a1l) = true ∧ (a0l == 0) = true ∧ (a0p == a1p) = true ∧ S = (a0s == a1s)) ∨
          ((a0l == a1l) = true ∧ (a0l == 0) = false ∧ (a0b == a1b) = false ∧ S = false) ∨ ((a0l == a1l) = true ∧ (a0l == 0) = false ∧ (a0b == a1b) = true ∧ (a0p == a1p) = false ∧ S = false) ∨ ((a0l == a1l) = true ∧ (a0l == 0) = false ∧ (a0b == a1b) = true ∧ (a0p == a1p) = true ∧ S = (a0s == a1s)) := by
        have h := HS.out
        revert h
        cases (a0l == a1l) <;> cases (a0l == 0) <;> cases (a0b == a1b) <;> cases (a0p == a1p) <;> cases (a0s == a1s) <;> cases S <;> simp
      clear HS
      rcases cs with ⟨h1, h6⟩ | ⟨h1, h2, h3, h6⟩ | ⟨h1, h2, h3, h6⟩ | ⟨h1, h2, h3, h6⟩ | ⟨h1, h2, h3, h4, h6⟩ | ⟨h1, h2, h3, h4, h6⟩
      all_goals
        subst h6
        go_wp2
        go_meet
        exact ⟨rfl, hB, B1, B2, B3⟩
    case rest =>
      obtain ⟨rfl, hBx, X1, X2, X3⟩ := hcut
      clear HS q1 q2 q3 z1 z2 z3 hB B1 B2 B3
      have B1 := X1
      have B2 := X2
      have B3 := X3
      have hB := hBx
      clear X1 X2 X3 hBx
      have q1 := B1.cell
      have z1 := B1.lt
      have q2 := B2.cell
      have z2 := B2.lt
      have q3 := B3.cell
      have z3 := B3.lt
      cases h1 : undB a0p a0b a0l a0s a1p a1b a1l a1s
      · rw [h1, Bool.false_and] at us
        subst us
        go_wp2_with (first | (with_reducible refine at_list ?_; refine slot_under rfl _ _ _ _ rfl rfl _ _ _ _ _ _ _ _ _ _ rfl rfl (by first | exact K0 | exact K1 | exact K2) (by first | exact K0 | exact K1 | exact K2) ?_; intro w1 hbb; first | (replace B3 := (B3.alloc _).below hbb; replace B2 := (B2.alloc _).below hbb; replace B1 := (B1.alloc _).below hbb; have B4 := (Box.new _ _ _).below hbb; clear q1 z1 q2 z2 q3 z3; have q1 := B1.cell; have z1 := B1.lt; have q2 := B2.cell; have z2 := B2.lt; have q3 := B3.cell; have z3 := B3.lt; have q4 := B4.cell; have z4 := B4.lt; replace hB := Below.step0 (hB.alloc hB.size _) hbb; clear hbb) | (replace B3 := B3.below hbb; replace B2 := B2.below hbb; replace B1 := B1.below hbb; clear q1 z1 q2 z2 q3 z3; have q1 := B1.cell; have z1 := B1.lt; have q2 := B2.cell; have z2 := B2.lt; have q3 := B3.cell; have z3 := B3.lt; replace hB := Below.step0 hB hbb; clear hbb) | (have B1 := (((Box.new _ _ _).alloc _).alloc _).below hbb; have B2 := ((Box.new1 _ _ _ _).alloc _).below hbb; have B3 := (Box.new2 _ _ _ _ _).below hbb; have q1 := B1.cell; have z1 := B1.lt; have q2 := B2.cell; have z2 := B2.lt; have q3 := B3.cell; have z3 := B3.lt; have hB := Below.step0 (three _ _ _) hbb; clear hbb)))
        go_ret
        exact ⟨rfl, hB⟩
      · rw [h1, Bool.true_and] at us
        go_wp2_with (first | (with_reducible refine at_list ?_; refine slot_under rfl _ _ _ _ rfl rfl _ _ _ _ _ _ _ _ _ _ rfl rfl (by first | exact K0 | exact K1 | exact K2) (by first | exact K0 | exact K1 | exact K2) ?_; intro w1 hbb; first | (replace B3 := (B3.alloc _).below hbb; replace B2 := (B2.alloc _).below hbb; replace B1 := (B1.alloc _).below hbb; have B4 := (Box.new _ _ _).below hbb; clear q1 z1 q2 z2 q3 z3; have q1 := B1.cell; have z1 := B1.lt; have q2 := B2.cell; have z2 := B2.lt; have q3 := B3.cell; have z3 := B3.lt; have q4 := B4.cell; have z4 := B4.lt; replace hB := Below.step0 (hB.alloc hB.size _) hbb; clear hbb) | (replace B3 := B3.below hbb; replace B2 := B2.below hbb; replace B1 := B1.below hbb; clear q1 z1 q2 z2 q3 z3; have q1 := B1.cell; have z1 := B1.lt; have q2 := B2.cell; have z2 := B2.lt; have q3 := B3.cell; have z3 := B3.lt; replace hB := Below.step0 hB hbb; clear hbb) | (have B1 := (((Box.new _ _ _).alloc _).alloc _).below hbb; have B2 := ((Box.new1 _ _ _ _).alloc _).below hbb; have B3 := (Box.new2 _ _ _ _ _).below hbb; have q1 := B1.cell; have z1 := B1.lt; have q2 := B2.cell; have z2 := B2.lt; have q3 := B3.cell; have z3 := B3.lt; have hB := Below.step0 (three _ _ _) hbb; clear hbb)))
        go_ret
        exact ⟨rfl, hB⟩

set_option maxRecDepth 100000 in
theorem lifted (os : Os) (started : os.Started) (H : Type) (enc : TypeId × Value → H) :
    ReturnsInHanded {} Try.checked os 3 .any (Rows.keysOrderSpec.pre6 enc Try.prog Try.f3 Rows.keysOrderRow.domain false) (Rows.keysOrderSpec.post enc Try.prog Try.f3 false true false false) := by
  refine returnsInHanded_of_change (C := Try.checked) own started (by kernel_rfl) Try.func3
    (ChangeSpec.witness6 (enc := enc) (C := Try.checked) false ⟨#[], #[.agg #[.int .i64 0, .int .i64 0, .int .i64 0, .int .i64 0, .int .i64 0], .agg #[.int .i64 0, .int .i64 0, .int .i64 0, .int .i64 0, .int .i64 0], .agg #[.int .i64 0, .int .i64 0, .int .i64 0, .int .i64 0, .int .i64 0]], []⟩ 8 (by kernel_rfl) (by kernel_rfl) (by kernel_rfl) (by kernel_rfl)) ?_
  intro W base args ds gs before hval0 hW hcnd _
  have hval : ∀ (j : Nat) t v, Try.f3.params[j]? = some t → args[j]? = some v → Value.okWide Try.prog W .any base t v := hval0
  have hW' := hW
  obtain ⟨p, q, hA0, hV, rfl, hfz, hnd⟩ := hW
  have hA : DataW.TrodAll enc Try.prog W 0 (fun _ => true) true Try.f3.params.toList args.toList ds p := hA0
  rw [Try.params3] at hA hval
  obtain ⟨v0, vs0, d0, ds0, p0, q0, hargs, rfl, rfl, h0, r0⟩ := trodAll_cons hA
  obtain ⟨v1, vs1, d1, ds1, p1, q1, rfl, rfl, rfl, h1, r1⟩ := trodAll_cons r0
  obtain ⟨v2, vs2, d2, ds2, p2, q2, rfl, rfl, rfl, h2, r2⟩ := trodAll_cons r1
  obtain ⟨rfl, rfl, rfl⟩ := trodAll_nil r2
  obtain rfl : args = #[v0, v1, v2] := by cases args; simp_all
  obtain ⟨rfl, rfl⟩ := trodVars_none hV
  obtain ⟨a0p, a0b, a0l, a0a, a0s, rfl, rfl, rfl, w0p, w0b, w0l, w0a, w0s⟩ := open_key (hval 0 23 v0 rfl rfl) h0
  obtain ⟨a1p, a1b, a1l, a1a, a1s, rfl, rfl, rfl, w1p, w1b, w1l, w1a, w1s⟩ := open_key (hval 1 23 v1 rfl rfl) h1
  obtain ⟨a2p, a2b, a2l, a2a, a2s, rfl, rfl, rfl, w2p, w2b, w2l, w2a, w2s⟩ := open_key (hval 2 23 v2 rfl rfl) h2
  clear hA0 hval0
  refine (walk a0p a0b a0l a0a a0s a1p a1b a1l a1a a1s a2p a2b a2l a2a a2s ⟨bounds_i64 w0p, bounds_i64 w0b, bounds_i64 w0l, bounds_i64 w0a, bounds_i64 w0s⟩ ⟨bounds_i64 w1p, bounds_i64 w1b, bounds_i64 w1l, bounds_i64 w1a, bounds_i64 w1s⟩ ⟨bounds_i64 w2p, bounds_i64 w2b, bounds_i64 w2l, bounds_i64 w2a, bounds_i64 w2s⟩ W).mono fun e W' ⟨he, bel⟩ => ?_
  subst he
  exact ⟨_, rfl, _, _, _, [], [], [], hW', trodAll_mk1 (shut_bool Try.underlying4 _), (trodAll_cons_mk (shut_key w0p w0b w0l w0a w0s) (trodAll_cons_mk (shut_key w1p w1b w1l w1a w1s) (trodAll_cons_mk (shut_key w2p w2b w2l w2a w2s) trodAll_mk0))), rfl, bel.frame _, fun h => by cases h⟩

theorem over : Rows.keysOrderRow.holds Try.pinned (OpenSpec.ofChange Rows.keysOrderSpec) :=
  OpenClaim.holds_of_wide 3 Try.f3 rfl rfl rfl rfl rfl rfl rfl ⟨rfl, rfl, rfl, rfl, rfl⟩ rfl rfl rfl rfl rfl (by kernel_rfl) Try.func3 (by kernel_rfl)
    (of_decide_eq_true (by kernel_rfl)) (by unfold Func.isWrapper; first | (rw [if_pos (by decide +kernel)]; kernel_rfl) | (rw [if_neg (by decide +kernel)]; exact ⟨rfl, rfl⟩))
    (fun os started H enc _ => lifted os started H enc)

theorem proved : Rows.KeysOrderSaid :=
  over
#print axioms proved
end Go.Proofs.Ytpmmgpiamginaab.keysOrder
