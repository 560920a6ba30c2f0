/- For whatever three ints, the law PermLattice returns true: to be within is an order, what both have is the most that is within both, and what one of them has is the least that both are within; no condition. -/
import Derived.Test.YtbmnkgblfapolaaRows
import Derived.Test.YtbmnkgblfapolaaBits
import Derived.Test.YtbmnkgblfapolaaWithin
import Derived.Deep.Cut
import Derived.WalkKit
import Derived.ProofKit
import Derived.OpenShut
import Derived.ShutString
namespace Go.Proofs.Ytbmnkgblfapolaa.permLattice
open Go.ChangeShapes Go.WideShapes Go.ChangeAt Go.RowKit
open Go.ChangeMaps (open_string shut_string)
set_option linter.unusedVariables false      -- a walk need not use every 'w<i>' (that an integer argument fits its kind)

theorem own : ownKnob Try.prog.godebug = none := by kernel_rfl

theorem in31 : inB 3 1 = false := by decide
theorem tri (x y : Bool) : x = false ∨ (x = true ∧ y = false) ∨ (x = true ∧ y = true) := by revert x y; decide
theorem cs (x1 x2 x3 x4 : Bool) (ht : x1 = true → x3 = true → x4 = false → False) :
    x1 = false ∨ (x1 = true ∧ x2 = false ∧ x3 = false) ∨ (x1 = true ∧ x2 = false ∧ x4 = true ∧ x3 = true) ∨ (x1 = true ∧ x2 = true ∧ x3 = false) ∨ (x1 = true ∧ x2 = true ∧ x4 = true ∧ x3 = true) := by
  cases x1 <;> cases x2 <;> cases x3 <;> cases x4 <;> simp at ht ⊢
theorem at_list {ops : Array Oper} {Q : Exit → Act → World → Prop} {rest : List Oper} {o : Oper} {a : Act} {w : World} (h : wpList Try.prog ops Q (o :: rest) a w) : wpList Try.prog ops Q (o :: rest) a w := h
/-- A call of Within by a value that lies in a slot: met by its contract, the operation not laid open. -/
theorem slot_call {ops : Array Oper} {Q : Exit → Act → World → Prop} {rest : List Oper} {o : Oper} {a : Act} {w : World}
    (hw : Region.wanted o (yielded ops a.tmps) = true) (f x y : Operand) (ats : Array TypeId)
    (ho : o.op = .call { callee := .value f, args := #[x, y], argTypes := ats })
    (hf : a.eval f = .func (.func 11) #[] #[]) (u v : Int) (hx : a.eval x = .int .i64 u) (hy : a.eval y = .int .i64 v)
    (h : wpList Try.prog ops Q rest (a.put o.dst (.bool (inB u v))) w) : wpList Try.prog ops Q (o :: rest) a w := by
  refine BigFrame.wpList_want hw fun K hK => ?_
  unfold Oper.wp
  have e : (execOp a.eval o).run Try.prog w = .ok (.enter 11 #[.int .i64 u, .int .i64 v]) w := by
    have e1 : execOp a.eval o = (do let d ← resolve a.eval { callee := .value f, args := #[x, y], argTypes := ats } o.type; invoke d.target d.args) := by
      unfold execOp; rw [ho]
    rw [e1]
    have e2 : resolve a.eval { callee := .value f, args := #[x, y], argTypes := ats } o.type = pure { target := .fn (.func 11) #[], args := #[.int .i64 u, .int .i64 v] } := by
      unfold resolve
      simp [hf, hx, hy, Deferred.ofValue]
    rw [e2, pure_bind]
    have hfn := Try.func11
    go_simp
  rw [e, Oper.upon_enter]
  refine (perm_within u v w).mono ?_
  rintro e w' ⟨rfl, rfl⟩
  exact hK _ _ h

/-! ### STEP 1: THE WALK: the Go text returns true. 'Grown w w'': the world has at most new blocks (Derived/RowKit3.lean). Part the cases AHEAD of 'go_enter' where a test parts the walk; take each callee by a contract of your own. -/
set_option maxHeartbeats 4000000 in
set_option maxRecDepth 1000000 in
theorem walk (a0 : Int) (a1 : Int) (a2 : Int) (w0 : (Lit.int .i64 a0).wf = true) (w1 : (Lit.int .i64 a1).wf = true) (w2 : (Lit.int .i64 a2).wf = true) (w : World) :
    Calls Try.prog 6 #[.int .i64 a0, .int .i64 a1, .int .i64 a2] w fun e w' => e = .returned (.bool true) ∧ Grown w w' := by
  have b0 := bounds_i64 w0
  have b1 := bounds_i64 w1
  have c31 := in31
  have caa := in_refl a0
  have cl := in_and_l a0 a1
  have cr := in_and_r a0 a1
  have dl := in_or_l a0 a1
  have dr := in_or_r a0 a1
  have ca := in_and a0 a1 a2
  have co := in_or a0 a1 a2
  have ht : inB a0 a1 = true → inB a1 a2 = true → inB a0 a2 = false → False := fun h k l => by rw [in_trans a0 a1 a2 h k] at l; cases l
  have hn : inB a0 a1 = true → inB a1 a0 = true → (a0 != a1) = false := fun h k => by simp [in_anti a0 a1 b0 b1 h k]
  clear b0 b1 w0 w1
  obtain ⟨A, hA⟩ : ∃ A, bits .and .i64 a0 a1 = A := ⟨_, rfl⟩
  obtain ⟨B, hB⟩ : ∃ B, bits .or .i64 a0 a1 = B := ⟨_, rfl⟩
  rw [hA] at cl cr ca
  rw [hB] at dl dr co
  go_enter Try.func6, Try.ntmps6
  go_upto_region 2 with fail
  go_cut [52] from 8 (fun s52 wx => s52 = .bool false ∧ wx = w)
  case first =>
    clear cl cr dl dr ca co hA hB
    rcases cs (inB a0 a1) (inB a1 a0) (inB a1 a2) (inB a0 a2) ht with x1 | ⟨x1, x2, x3⟩ | ⟨x1, x2, x4, x3⟩ | ⟨x1, x2, x3⟩ | ⟨x1, x2, x4, x3⟩
    · clear hn ht
      go_wp2_with (with_reducible refine at_list ?_; refine slot_call rfl _ _ _ _ rfl rfl _ _ rfl rfl ?_)
      go_meet
      exact ⟨rfl, rfl⟩
    · clear hn ht
      go_wp2_with (with_reducible refine at_list ?_; refine slot_call rfl _ _ _ _ rfl rfl _ _ rfl rfl ?_)
      go_meet
      exact ⟨rfl, rfl⟩
    · clear hn ht
      go_wp2_with (with_reducible refine at_list ?_; refine slot_call rfl _ _ _ _ rfl rfl _ _ rfl rfl ?_)
      go_meet
      exact ⟨rfl, rfl⟩
    · have hm := hn x1 x2
      clear hn ht
      go_wp2_with (with_reducible refine at_list ?_; refine slot_call rfl _ _ _ _ rfl rfl _ _ rfl rfl ?_)
      go_meet
      exact ⟨rfl, rfl⟩
    · have hm := hn x1 x2
      clear hn ht
      go_wp2_with (with_reducible refine at_list ?_; refine slot_call rfl _ _ _ _ rfl rfl _ _ rfl rfl ?_)
      go_meet
      exact ⟨rfl, rfl⟩
  case rest =>
    obtain ⟨rfl, rfl⟩ := hcut
    clear hn ht caa c31
    go_upto_region 4 with fail
    simp only [List.append_eq, List.cons_append, List.nil_append]
    rcases tri (inB a2 a0) (inB a2 a1) with x5 | ⟨x5, x6⟩ | ⟨x5, x6⟩
    all_goals
      rcases tri (inB a0 a2) (inB a1 a2) with x4 | ⟨x4, x3⟩ | ⟨x4, x3⟩
      all_goals
        as_aux_lemma =>
          simp only [x5, Bool.false_and, Bool.true_and] at ca
          simp only [x4, Bool.false_and, Bool.true_and] at co
          go_wp2_with (with_reducible refine at_list ?_; refine slot_call rfl _ _ _ _ rfl rfl _ _ rfl rfl ?_)
          go_ret
          exact ⟨rfl, Grown.refl _⟩

/-! ### THE ROW's STEP: WRITTEN OUT: LEAVE IT -/
set_option maxRecDepth 100000 in
theorem lifted (os : Os) (started : os.Started) (H : Type) (enc : TypeId × Value → H) :
    ReturnsInHanded {} Try.checked os 6 .any (Rows.permLatticeSpec.pre6 enc Try.prog Try.f6 Rows.permLatticeRow.domain false) (Rows.permLatticeSpec.post enc Try.prog Try.f6 false true false false) := by
  refine returnsInHanded_of_change (C := Try.checked) own started (by kernel_rfl) Try.func6
    (ChangeSpec.witness6 (enc := enc) (C := Try.checked) false ⟨#[], #[.int .i64 0, .int .i64 0, .int .i64 0], []⟩ 8 (by kernel_rfl) (by kernel_rfl) (by kernel_rfl) (by kernel_rfl)) ?_
  intro W base args ds gs before hval0 hW hcnd _
  have hval : ∀ (j : Nat) t v, Try.f6.params[j]? = some t → args[j]? = some v → Value.okWide Try.prog W .any base t v := hval0
  have hW' := hW
  obtain ⟨p, q, hA0, hV, rfl, hfz, hnd⟩ := hW
  have hA : DataW.TrodAll enc Try.prog W 0 (fun _ => true) true Try.f6.params.toList args.toList ds p := hA0
  rw [Try.params6] at hA hval
  obtain ⟨v0, vs0, d0, ds0, p0, q0, hargs, rfl, rfl, h0, r0⟩ := trodAll_cons hA
  obtain ⟨v1, vs1, d1, ds1, p1, q1, rfl, rfl, rfl, h1, r1⟩ := trodAll_cons r0
  obtain ⟨v2, vs2, d2, ds2, p2, q2, rfl, rfl, rfl, h2, r2⟩ := trodAll_cons r1
  obtain ⟨rfl, rfl, rfl⟩ := trodAll_nil r2
  obtain rfl : args = #[v0, v1, v2] := by cases args; simp_all
  obtain ⟨rfl, rfl⟩ := trodVars_none hV
  obtain ⟨a0, rfl, rfl, rfl, w0⟩ := open_int Try.underlying3 (hval 0 3 v0 rfl rfl) h0
  obtain ⟨a1, rfl, rfl, rfl, w1⟩ := open_int Try.underlying3 (hval 1 3 v1 rfl rfl) h1
  obtain ⟨a2, rfl, rfl, rfl, w2⟩ := open_int Try.underlying3 (hval 2 3 v2 rfl rfl) h2
  clear hA0 hval0
  simp only [List.append_nil] at hW'
  refine (walk a0 a1 a2 w0 w1 w2 W).mono fun e W' ⟨he, hg⟩ => ?_
  subst he
  exact ⟨_, rfl, post_of_same (pa := []) (pv := []) hW' (fun _ _ _ => (trodAll_cons_mk (shut_bool Try.underlying4 _) trodAll_mk0)) (fun sp _ => (trodAll_cons_mk (shut_int Try.underlying3 w0) (trodAll_cons_mk (shut_int Try.underlying3 w1) (trodAll_cons_mk (shut_int Try.underlying3 w2) trodAll_mk0)))) (fun _ _ => rfl) rfl
    (hg.frame _) hg.2.1 (ok_one (by kernel_rfl) rfl (okWide_bool_mk Try.underlying4 _))⟩

theorem over : Rows.permLatticeRow.holds Try.pinned (OpenSpec.ofChange Rows.permLatticeSpec) :=
  OpenClaim.holds_of_wide 6 Try.f6 rfl rfl rfl rfl rfl rfl rfl ⟨rfl, rfl, rfl, rfl, rfl⟩ rfl rfl rfl rfl rfl (by kernel_rfl) Try.func6 (by kernel_rfl)
    (of_decide_eq_true (by kernel_rfl)) (by unfold Func.isWrapper; first | (rw [if_pos (by decide +kernel)]; kernel_rfl) | (rw [if_neg (by decide +kernel)]; exact ⟨rfl, rfl⟩))
    (fun os started H enc _ => lifted os started H enc)

/-- ████ THE STATEMENT ████ -/
theorem proved : Rows.PermLatticeSaid :=
  over
#print axioms proved
end Go.Proofs.Ytbmnkgblfapolaa.permLattice
