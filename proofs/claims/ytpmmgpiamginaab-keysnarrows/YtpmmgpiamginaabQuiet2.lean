/- A region that leaves its order open, over boxes that nothing in it turns: the laws for one walk of it. -/
import Derived.Test.YtpmmgpiamginaabRows
import Derived.Test.YtpmmgpiamginaabBits
import Derived.Test.YtpmmgpiamginaabKeyPure
import Derived.WalkKit
import Derived.ProofKit
import Derived.BigQuiet
namespace Go.Proofs.Ytpmmgpiamginaab
open Go.RowKit

/-- What of the memory is the same at whatever time: nothing old has turned, and these boxes hold what they held. -/
def Cls (w : World) (bs : List (Nat × Array Value)) (w' : World) : Prop := Below w.heap.size w w' ∧ ∀ x ∈ bs, Box w' x.1 x.2
theorem Cls.step {w w0 w1 : World} {bs : List (Nat × Array Value)} (h : Cls w bs w0) (hb : Below w0.heap.size w0 w1) : Cls w bs w1 :=
  ⟨Below.step0 h.1 hb, fun x hx => (h.2 x hx).below hb⟩
theorem Cls.drew {w w0 : World} {bs : List (Nat × Array Value)} (h : Cls w bs w0) : Cls w bs { w0 with drawn := w0.drawn + 1 } :=
  ⟨h.1.drew, fun x hx => ⟨(h.2 x hx).1, (h.2 x hx).2.1, (h.2 x hx).2.2⟩⟩
theorem quiet_load_key {ops : Array Oper} {C : World → Prop} {Q : Act → Prop} {rest : List Oper} {o : Oper} {a : Act} (hw : Region.wanted o (yielded ops a.tmps) = true) (x : Operand)
    (ho : o.op = .load 23 x) (k : Nat) (hx : a.eval x = .pointer (some ⟨k, 0, none⟩)) (p b l t s : Int)
    (hC : ∀ w, C w → Box w k #[.int .i64 p, .int .i64 b, .int .i64 l, .int .i64 t, .int .i64 s])
    (h : wpQuiet Try.prog ops C Q rest (a.put o.dst (.agg #[.int .i64 p, .int .i64 b, .int .i64 l, .int .i64 t, .int .i64 s]))) : wpQuiet Try.prog ops C Q (o :: rest) a := by
  refine BigFrame.wpQuiet_want hw fun K hK => ⟨_, fun w hcw => ?_, hK _ h⟩
  have q := (hC w hcw).cell
  unfold Oper.quietAt execOp
  rw [ho]
  simp only [hx]
  go_simp
theorem quiet_load_int {ops : Array Oper} {C : World → Prop} {Q : Act → Prop} {rest : List Oper} {o : Oper} {a : Act} (hw : Region.wanted o (yielded ops a.tmps) = true) (x : Operand)
    (ho : o.op = .load 3 x) (k i : Nat) (hx : a.eval x = .pointer (some ⟨k, i, none⟩)) (c : Array Value) (v : Int)
    (hC : ∀ w, C w → Box w k c) (hi : c[i]? = some (.int .i64 v))
    (h : wpQuiet Try.prog ops C Q rest (a.put o.dst (.int .i64 v))) : wpQuiet Try.prog ops C Q (o :: rest) a := by
  refine BigFrame.wpQuiet_want hw fun K hK => ⟨_, fun w hcw => ?_, hK _ h⟩
  have q := (hC w hcw).cell i
  rw [hi] at q
  unfold Oper.quietAt execOp
  rw [ho]
  simp only [hx]
  go_simp
theorem at_quiet {ops : Array Oper} {C : World → Prop} {Q : Act → Prop} {rest : List Oper} {o : Oper} {a : Act} (h : wpQuiet Try.prog ops C Q (o :: rest) a) : wpQuiet Try.prog ops C Q (o :: rest) a := h
end Go.Proofs.Ytpmmgpiamginaab
