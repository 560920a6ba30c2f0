/- package step: what is thrown, and what is asked of a register. -/
import Derived.Test.YthapfaohnliklaaDoorRows
import Derived.Test.YthapfaohnliklaaDoorBits
import Derived.Test.YthapfaohnliklaaDoorKeyPure
import Derived.Test.YthapfaohnliklaaDoorCellPure
import Derived.Test.YthapfaohnliklaaDoorValsArg
import Derived.Test.YthapfaohnliklaaDoorMemPure
import Derived.Test.YthapfaohnliklaaDoorNum
import Derived.Test.YthapfaohnliklaaDoorInstDev
import Derived.Test.YthapfaohnliklaaDoorMachArg
import Derived.Test.YthapfaohnliklaaDoorStepOff
import Derived.WalkKit
import Derived.ProofKit
import Derived.OpenShut
import Derived.WalkLawsBesides
namespace Go.Proofs.YthapfaohnliklaaDoor
open Go.ChangeShapes Go.WideShapes Go.ChangeAt Go.RowKit
set_option linter.unusedSimpArgs false
set_option linter.unusedVariables false
set_option maxRecDepth 100000

/-- What is thrown. -/
inductive Th where
  | e (n : Int)
  | u
  | h
def thV : Th → Value
  | .e n => .iface 32 (.int .i64 n)
  | .u => .iface 79 (.agg #[])
  | .h => .iface 80 (.agg #[])
/-- What it is told as. -/
def thE : Th → Int
  | .e n => n
  | .u => 10
  | .h => 16
def thrown (t : Th) : Ending := .panicked [{ v := thV t, recovered := false }]
theorem step_refuse_no (e : Int) (w : World) : Calls Tryd.prog 48 #[.bool false, .int .i64 e] w fun r w' => r = .returned (.tuple #[]) ∧ w' = w := by
  go_enter Tryd.func48, Tryd.ntmps48
  go_wp2
  go_end0
  exact ⟨rfl, rfl⟩
theorem step_refuse_yes (e : Int) (w : World) : Calls Tryd.prog 48 #[.bool true, .int .i64 e] w fun r w' => r = thrown (.e e) ∧ w' = w := by
  go_enter Tryd.func48, Tryd.ntmps48
  go_wp2
  exact ⟨rfl, rfl, rfl⟩
theorem step_refuse_no' (b : Bool) (hb : b = false) (e : Int) (w : World) : Calls Tryd.prog 48 #[.bool b, .int .i64 e] w fun r w' => r = .returned (.tuple #[]) ∧ w' = w := by
  subst hb
  exact step_refuse_no e w
theorem step_refuse_yes' (b : Bool) (hb : b = true) (e : Int) (w : World) : Calls Tryd.prog 48 #[.bool b, .int .i64 e] w fun r w' => r = thrown (.e e) ∧ w' = w := by
  subst hb
  exact step_refuse_yes e w
theorem sure_key_yes (p b l a s : Int) (w : World) : Calls Tryd.prog 62 #[.agg #[.int .i64 p, .int .i64 b, .int .i64 l, .int .i64 a, .int .i64 s], .int .i64 0] w fun r w' => r = .returned (.agg #[.int .i64 p, .int .i64 b, .int .i64 l, .int .i64 a, .int .i64 s]) ∧ Below w.heap.size w w' := by
  go_enter Tryd.func62, Tryd.ntmps62
  go_wp2_with (go_at_call 48; refine (step_refuse_no _ _).mono ?_; rintro e w1 ⟨rfl, rfl⟩)
  exact bodyPost_ret (v := .agg #[.int .i64 p, .int .i64 b, .int .i64 l, .int .i64 a, .int .i64 s]) (by simp [results, Tryd.results62, go_sem]) rfl ⟨rfl, two _ _⟩
theorem sure_key_no (p b l a s e : Int) (h : ¬ e = 0) (w : World) : Calls Tryd.prog 62 #[.agg #[.int .i64 p, .int .i64 b, .int .i64 l, .int .i64 a, .int .i64 s], .int .i64 e] w fun r w' => r = thrown (.e e) ∧ Below w.heap.size w w' := by
  have g : (e != 0) = true := by simpa using h
  go_enter Tryd.func62, Tryd.ntmps62
  go_wp2_with (go_at_call 48; refine (step_refuse_yes _ _).mono ?_; unfold thrown; rintro e w1 ⟨rfl, rfl⟩)
  exact ⟨rfl, rfl, two _ _⟩
theorem sure_inst_yes (o a b c : Int) (w : World) : Calls Tryd.prog 50 #[.agg #[.int .i64 o, .int .i64 a, .int .i64 b, .int .i64 c], .int .i64 0] w fun r w' => r = .returned (.agg #[.int .i64 o, .int .i64 a, .int .i64 b, .int .i64 c]) ∧ Below w.heap.size w w' := by
  go_enter Tryd.func50, Tryd.ntmps50
  go_wp2_with (go_at_call 48; refine (step_refuse_no _ _).mono ?_; rintro e w1 ⟨rfl, rfl⟩)
  exact bodyPost_ret (v := .agg #[.int .i64 o, .int .i64 a, .int .i64 b, .int .i64 c]) (by simp [results, Tryd.results50, go_sem]) rfl ⟨rfl, two _ _⟩
theorem sure_inst_no (o a b c e : Int) (h : ¬ e = 0) (w : World) : Calls Tryd.prog 50 #[.agg #[.int .i64 o, .int .i64 a, .int .i64 b, .int .i64 c], .int .i64 e] w fun r w' => r = thrown (.e e) ∧ Below w.heap.size w w' := by
  have g : (e != 0) = true := by simpa using h
  go_enter Tryd.func50, Tryd.ntmps50
  go_wp2_with (go_at_call 48; refine (step_refuse_yes _ _).mono ?_; unfold thrown; rintro e w1 ⟨rfl, rfl⟩)
  exact ⟨rfl, rfl, two _ _⟩
theorem sure_val_yes (v : MV) (w : World) : Calls Tryd.prog 55 #[.agg #[.bool v.i, .int .i64 v.n, .int .i64 v.p, .int .i64 v.b, .int .i64 v.l, .int .i64 v.a, .int .i64 v.s], .int .i64 0] w fun r w' => r = .returned (.agg #[.bool v.i, .int .i64 v.n, .int .i64 v.p, .int .i64 v.b, .int .i64 v.l, .int .i64 v.a, .int .i64 v.s]) ∧ Below w.heap.size w w' := by
  go_enter Tryd.func55, Tryd.ntmps55
  go_wp2_with (go_at_call 48; refine (step_refuse_no _ _).mono ?_; rintro e w1 ⟨rfl, rfl⟩)
  exact bodyPost_ret (v := .agg #[.bool v.i, .int .i64 v.n, .int .i64 v.p, .int .i64 v.b, .int .i64 v.l, .int .i64 v.a, .int .i64 v.s]) (by simp [results, Tryd.results55, go_sem]) rfl ⟨rfl, two _ _⟩
theorem sure_val_no (v : MV) (e : Int) (h : ¬ e = 0) (w : World) : Calls Tryd.prog 55 #[.agg #[.bool v.i, .int .i64 v.n, .int .i64 v.p, .int .i64 v.b, .int .i64 v.l, .int .i64 v.a, .int .i64 v.s], .int .i64 e] w fun r w' => r = thrown (.e e) ∧ Below w.heap.size w w' := by
  have g : (e != 0) = true := by simpa using h
  go_enter Tryd.func55, Tryd.ntmps55
  go_wp2_with (go_at_call 48; refine (step_refuse_yes _ _).mono ?_; unfold thrown; rintro e w1 ⟨rfl, rfl⟩)
  exact ⟨rfl, rfl, two _ _⟩
theorem sure_vals_yes (V : Value) (w : World) : Calls Tryd.prog 58 #[V, .int .i64 0] w fun r w' => r = .returned V ∧ w' = w := by
  go_enter Tryd.func58, Tryd.ntmps58
  go_wp2_with (go_at_call 48; refine (step_refuse_no _ _).mono ?_; rintro e w1 ⟨rfl, rfl⟩)
  go_ret
  exact ⟨rfl, rfl⟩
theorem sure_vals_no (V : Value) (e : Int) (h : ¬ e = 0) (w : World) : Calls Tryd.prog 58 #[V, .int .i64 e] w fun r w' => r = thrown (.e e) ∧ w' = w := by
  have g : (e != 0) = true := by simpa using h
  go_enter Tryd.func58, Tryd.ntmps58
  go_wp2_with (go_at_call 48; refine (step_refuse_yes _ _).mono ?_; unfold thrown; rintro e w1 ⟨rfl, rfl⟩)
  exact ⟨rfl, rfl, rfl⟩
theorem sure_int_yes (n : Int) (w : World) : Calls Tryd.prog 75 #[.int .i64 n, .int .i64 0] w fun r w' => r = .returned (.int .i64 n) ∧ w' = w := by
  go_enter Tryd.func75, Tryd.ntmps75
  go_wp2_with (go_at_call 48; refine (step_refuse_no _ _).mono ?_; rintro e w1 ⟨rfl, rfl⟩)
  go_ret
  exact ⟨rfl, rfl⟩
theorem sure_int_no (n e : Int) (h : ¬ e = 0) (w : World) : Calls Tryd.prog 75 #[.int .i64 n, .int .i64 e] w fun r w' => r = thrown (.e e) ∧ w' = w := by
  have g : (e != 0) = true := by simpa using h
  go_enter Tryd.func75, Tryd.ntmps75
  go_wp2_with (go_at_call 48; refine (step_refuse_yes _ _).mono ?_; unfold thrown; rintro e w1 ⟨rfl, rfl⟩)
  exact ⟨rfl, rfl, rfl⟩
section
variable {w : World} {S bb : Nat} {x : MC} {q : MA} {i : ID} {n : K5} {k : Nat} {v : MV}
theorem reg_lt (h : St w S bb x q i n) (hv : x.r[k]? = some v) : k < 8 := by
  have := (List.getElem?_eq_some_iff.1 hv).1
  have := h.r8
  omega
theorem step_number_yes (h : St w S bb x q i n) (hv : x.r[k]? = some v) (hi : v.i = false) :
    Calls Tryd.prog 53 #[.pointer (some ⟨S, 0, none⟩), .int .i64 (k : Int)] w fun r w' => r = .returned (.int .i64 v.n) ∧ w' = w := by
  obtain ⟨c0, c1, _⟩ := h.reg hv
  have hk := reg_lt h hv
  have g1 : (k : Int) < 8 := by omega
  rw [hi] at c0
  go_enter Tryd.func53, Tryd.ntmps53
  go_wp2
  go_ret
  exact ⟨rfl, rfl⟩
theorem step_number_no (h : St w S bb x q i n) (hv : x.r[k]? = some v) (hi : v.i = true) :
    Calls Tryd.prog 53 #[.pointer (some ⟨S, 0, none⟩), .int .i64 (k : Int)] w fun r w' => r = thrown .u ∧ w' = w := by
  obtain ⟨c0, c1, _⟩ := h.reg hv
  have hk := reg_lt h hv
  have g1 : (k : Int) < 8 := by omega
  rw [hi] at c0
  go_enter Tryd.func53, Tryd.ntmps53
  go_wp2
  exact ⟨rfl, rfl, rfl⟩
theorem step_key_yes (h : St w S bb x q i n) (hv : x.r[k]? = some v) (hi : v.i = true) :
    Calls Tryd.prog 57 #[.pointer (some ⟨S, 0, none⟩), .int .i64 (k : Int)] w fun r w' => r = .returned (.agg #[.int .i64 v.p, .int .i64 v.b, .int .i64 v.l, .int .i64 v.a, .int .i64 v.s]) ∧ Below w.heap.size w w' := by
  have h' := h.below ((Below.refl _ _).alloc (Nat.le_refl _) (.cells #[.int .i64 0, .int .i64 0, .int .i64 0, .int .i64 0, .int .i64 0] 23))
  obtain ⟨c0, c1, c2, c3, c4, c5, c6⟩ := h'.reg hv
  have hk := reg_lt h hv
  have g1 : (k : Int) < 8 := by omega
  rw [hi] at c0
  clear h'
  go_enter Tryd.func57, Tryd.ntmps57
  go_wp2
  exact bodyPost_ret (v := .agg #[.int .i64 v.p, .int .i64 v.b, .int .i64 v.l, .int .i64 v.a, .int .i64 v.s]) (by simp [results, Tryd.results57, go_sem]) rfl ⟨rfl, (Below.refl _ _).alloc (Nat.le_refl _) _⟩
theorem step_key_no (h : St w S bb x q i n) (hv : x.r[k]? = some v) (hi : v.i = false) :
    Calls Tryd.prog 57 #[.pointer (some ⟨S, 0, none⟩), .int .i64 (k : Int)] w fun r w' => r = thrown .u ∧ Below w.heap.size w w' := by
  have h' := h.below ((Below.refl _ _).alloc (Nat.le_refl _) (.cells #[.int .i64 0, .int .i64 0, .int .i64 0, .int .i64 0, .int .i64 0] 23))
  obtain ⟨c0, c1, c2, c3, c4, c5, c6⟩ := h'.reg hv
  have hk := reg_lt h hv
  have g1 : (k : Int) < 8 := by omega
  rw [hi] at c0
  clear h'
  go_enter Tryd.func57, Tryd.ntmps57
  go_wp2
  exact ⟨rfl, rfl, (Below.refl _ _).alloc (Nat.le_refl _) _⟩
end
end Go.Proofs.YthapfaohnliklaaDoor
