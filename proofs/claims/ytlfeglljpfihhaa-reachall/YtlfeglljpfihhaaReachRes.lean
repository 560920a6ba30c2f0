/- package reach, as laws use it: what is answered, and where it lies; what a machine comes to, deep or not, allowed more or less. -/
import Derived.Test.YtlfeglljpfihhaaRows
import Derived.Test.YtlfeglljpfihhaaBits
import Derived.Test.YtlfeglljpfihhaaKeyPure
import Derived.Test.YtlfeglljpfihhaaCellPure
import Derived.Test.YtlfeglljpfihhaaValsArg
import Derived.Test.YtlfeglljpfihhaaMemPure
import Derived.Test.YtlfeglljpfihhaaMachArg
import Derived.Test.YtlfeglljpfihhaaStepChk
import Derived.Test.YtlfeglljpfihhaaStepChk2
import Derived.Test.YtlfeglljpfihhaaMachMid
import Derived.Test.YtlfeglljpfihhaaRowApp
import Derived.Test.YtlfeglljpfihhaaReachPure
import Derived.Test.YtlfeglljpfihhaaReachGo
import Derived.Test.YtlfeglljpfihhaaReachAdd
import Derived.Test.YtlfeglljpfihhaaReachSeek
import Derived.Test.YtlfeglljpfihhaaReachPls
import Derived.WalkKit
namespace Go.Proofs.Ytlfeglljpfihhaa
open Go.ChangeShapes Go.WideShapes Go.ChangeAt Go.RowKit
set_option linter.unusedVariables false
set_option maxRecDepth 100000

/-- By some key that it comes to all of p may be done there. -/
def Plc1 (x : MC) (d : Bool) (p j : Int) : Prop := ∃ k, Has x d k ∧ srvB d k p = true ∧ covB k.b k.l j = true
theorem own_nums {w : World} {base : Nat} {v : Value} {ns : List Int} (h : w.ownsRow base 3 1 v ns.length (ns.map nmC)) : ∃ a c, v = .slice a ns.length c ∧ NumsAt w a ns := by
  obtain ⟨a, c, hv, _, hr, _⟩ := own_row2 h
  exact ⟨a, c, hv, hr⟩
theorem cls_ok (x : MC) (q : MA) (p : Int) (d : Bool) (w : World) (hA : McAt w x q) (hO : McB x) (h : mcE x = 0) :
    Calls Try.prog 14 #[.agg (mcC x q).toArray, .int .i64 p, .bool d] w fun e w' => ∃ a c b, e = .returned (.tuple #[.slice a (filtN b 0 x.m.length).length c, .int .i64 0]) ∧ Below w.heap.size w w' ∧ NumsAt w' a (filtN b 0 x.m.length) ∧ ∀ j, b j = true ↔ Plc1 x d p j :=
  (reach_cls x q p d w hA hO hA.c.2.1 hA.c.2.2 h).mono fun e w' ⟨v, b, he, hb, ho, hj⟩ => by
    obtain ⟨a, c, rfl, hn⟩ := own_nums ho
    exact ⟨a, c, b, he, hb, hn, hj⟩
theorem sls_ok (x : MC) (q : MA) (p : Int) (d : Bool) (w : World) (hA : McAt w x q) (hO : McB x) (h : mcE x = 0) :
    Calls Try.prog 17 #[.agg (mcC x q).toArray, .int .i64 p, .bool d] w fun e w' => ∃ a c b, e = .returned (.tuple #[.slice a (filtN b 1 63).length c, .int .i64 0]) ∧ Below w.heap.size w w' ∧ NumsAt w' a (filtN b 1 63) ∧ ∀ j, b j = true ↔ Plc1 x d p j :=
  (reach_sls x q p d w hA hO hA.c.2.1 hA.c.2.2 h).mono fun e w' ⟨v, b, he, hb, ho, hj⟩ => by
    obtain ⟨a, c, rfl, hn⟩ := own_nums ho
    exact ⟨a, c, b, he, hb, hn, hj⟩
theorem filt_ok {b : Int → Bool} {f : Int} {m : Nat} (hf : 0 ≤ f ∧ f + m ≤ 1000) : ∀ n ∈ filtN b f m, nmOk n := fun n hn => by
  have := (filt_mem b f n m).1 hn
  unfold nmOk
  omega
theorem filt_sub {b c : Int → Bool} {f : Int} {m : Nat} (h : ∀ j, b j = true → c j = true) : ((filtN b f m).all fun n => (filtN c f m).contains n) = true := by
  rw [List.all_eq_true]
  intro n hn
  have h1 := (filt_mem b f n m).1 hn
  rw [List.contains_iff_mem]
  exact (filt_mem c f n m).2 ⟨h n h1.1, h1.2⟩
theorem has_deep {x : MC} {k : K5} (h : Has x false k) : Has x true k := by
  induction h with
  | rt hr =>
    cases hr with
    | reg v hv hi => exact .rt (.reg v hv hi)
    | code => exact .rt .code
    | fc hd => cases hd
    | fd hd => cases hd
  | cell r j v _ hc hp hv hm hi ih => exact .cell r j v ih (.inr rfl) hp hv hm hi
theorem srv_deep {k : K5} {p : Int} (h : srvB false k p = true) : srvB true k p = true := by
  unfold srvB at *
  simp at h ⊢
  exact h.2
theorem plc_deep {x : MC} {p j : Int} (h : Plc1 x false p j) : Plc1 x true p j := by
  obtain ⟨k, h1, h2, h3⟩ := h
  exact ⟨k, has_deep h1, srv_deep h2, h3⟩
theorem plc_less {x : MC} {d : Bool} {p q j : Int} (hq : inB p q = true) (h : Plc1 x d q j) : Plc1 x d p j := by
  obtain ⟨k, h1, h2, h3⟩ := h
  refine ⟨k, h1, ?_, h3⟩
  unfold srvB at *
  rw [Bool.and_eq_true] at *
  exact ⟨h2.1, in_trans _ _ _ hq h2.2⟩
/-- A machine that has but its key. -/
theorem bare_has {x : MC} {d : Bool} (hr : ∀ v ∈ x.r, v.i = false) (hm : ∀ v ∈ x.m, v.i = false) (hs : x.s = []) (k : K5) : Has x d k ↔ k = x.k := by
  constructor
  · intro h
    induction h with
    | rt hk =>
      cases hk with
      | reg v hv hi => rw [hr v hv] at hi; cases hi
      | code => rfl
      | fc hd f hf => rw [hs] at hf; cases hf
      | fd hd f hf hi => rw [hs] at hf; cases hf
    | cell r j v _ _ _ _ hmm hi _ => rw [hm v (List.mem_of_getElem? hmm)] at hi; cases hi
  · rintro rfl
    exact .rt .code
theorem bare_plc {x : MC} {d : Bool} {p j : Int} (hr : ∀ v ∈ x.r, v.i = false) (hm : ∀ v ∈ x.m, v.i = false) (hs : x.s = []) : Plc1 x d p j ↔ srvB d x.k p = true ∧ covB x.k.b x.k.l j = true := by
  constructor
  · rintro ⟨k, h1, h2, h3⟩
    rw [bare_has hr hm hs] at h1
    subst h1
    exact ⟨h2, h3⟩
  · rintro ⟨h2, h3⟩
    exact ⟨_, .rt .code, h2, h3⟩
theorem z8_no : ∀ v ∈ [nil0, nil0, nil0, nil0, nil0, nil0, nil0, nil0], v.i = false := fun v hv => by
  simp only [List.mem_cons, List.not_mem_nil, or_false, or_self] at hv
  rw [hv]
  rfl
theorem nil0_ok : mvOk nil0 := by
  show vb 0 0 0 0 0 0
  unfold vb kb
  decide
theorem z8_ok : mvsOk [nil0, nil0, nil0, nil0, nil0, nil0, nil0, nil0] := fun v hv => by
  simp only [List.mem_cons, List.not_mem_nil, or_false, or_self] at hv
  rw [hv]
  exact nil0_ok
end Go.Proofs.Ytlfeglljpfihhaa
