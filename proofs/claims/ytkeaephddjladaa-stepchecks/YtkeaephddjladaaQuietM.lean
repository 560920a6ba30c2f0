/- A region that leaves its order open, over boxes that nothing in it turns; a whole machine is loaded in it. -/
import Derived.Test.YtkeaephddjladaaRows
import Derived.Test.YtkeaephddjladaaKeyPure
import Derived.WalkKit
import Derived.ProofKit
import Derived.BigQuiet
import Derived.Deep.MidRow
namespace Go.Proofs.Ytkeaephddjladaa
open Go.RowKit

/-- What of the memory is the same at whatever time: nothing old has turned, and these boxes hold what they held. -/
def Cls (w : World) (bs : List (Nat × Array Value)) (w' : World) : Prop := Below w.heap.size w w' ∧ ∀ x ∈ bs, Box w' x.1 x.2
theorem Cls.step {w w0 w1 : World} {bs : List (Nat × Array Value)} (h : Cls w bs w0) (hb : Below w0.heap.size w0 w1) : Cls w bs w1 :=
  ⟨Below.step0 h.1 hb, fun x hx => (h.2 x hx).below hb⟩
theorem Cls.drew {w w0 : World} {bs : List (Nat × Array Value)} (h : Cls w bs w0) : Cls w bs { w0 with drawn := w0.drawn + 1 } :=
  ⟨h.1.drew, fun x hx => ⟨(h.2 x hx).1, (h.2 x hx).2.1, (h.2 x hx).2.2⟩⟩
theorem quiet_load_row {ops : Array Oper} {C : World → Prop} {Q : Act → Prop} {rest : List Oper} {o : Oper} {a : Act} (hw : Region.wanted o (yielded ops a.tmps) = true) (ty : TypeId) (x : Operand)
    (ho : o.op = .load ty x) (k : Nat) (hx : a.eval x = .pointer (some ⟨k, 0, none⟩)) (M : Array Value) (d : TypeDesc)
    (hu : Try.prog.underlying ty = some d) (hd : d.isRow = true) (hi : (Try.prog.info? ty).map (·.size) = some M.size)
    (hC : ∀ w, C w → Box w k M)
    (h : wpQuiet Try.prog ops C Q rest (a.put o.dst (.agg M))) : wpQuiet Try.prog ops C Q (o :: rest) a := by
  refine BigFrame.wpQuiet_want hw fun K hK => ⟨_, fun w hcw => ?_, hK _ h⟩
  have q := run_loadVar_mid (P := Try.prog) w k 0 ty M.toList d (fun j v hj => by rw [Nat.zero_add, (hC w hcw).cell]; simpa using hj) hu hd (by simpa using hi)
  rw [Array.toArray_toList] at q
  unfold Oper.quietAt execOp
  simp only [ho, hx, Instr.loadAt, Instr.sureAddr, Sem.run_bind, Sem.run_pure, Result.andThen_ok, q]
  simp [Oper.quietUpon]
theorem at_quiet {ops : Array Oper} {C : World → Prop} {Q : Act → Prop} {rest : List Oper} {o : Oper} {a : Act} (h : wpQuiet Try.prog ops C Q (o :: rest) a) : wpQuiet Try.prog ops C Q (o :: rest) a := h
end Go.Proofs.Ytkeaephddjladaa
