/- custodianref.MachineEq over two machines that are the same: true. -/
import Derived.Test.YthijebhhbflclaaRows
import Derived.Test.YthijebhhbflclaaKeyPure
import Derived.Test.YthijebhhbflclaaCellPure
import Derived.Test.YthijebhhbflclaaValsArg
import Derived.Test.YthijebhhbflclaaMemPure
import Derived.Test.YthijebhhbflclaaMachArg
import Derived.Test.YthijebhhbflclaaStepChk
import Derived.Test.YthijebhhbflclaaStepChk2
import Derived.Test.YthijebhhbflclaaEqSame
import Derived.Test.YthijebhhbflclaaMachMid
import Derived.WalkKit
import Derived.ProofKit
import Derived.OpenShut
import Derived.Deep.MidRow
import Derived.Deep.CutBlock
namespace Go.Proofs.Ythijebhhbflclaa
open Go.ChangeShapes Go.WideShapes Go.ChangeAt Go.RowKit
set_option linter.unusedSimpArgs false
set_option linter.unusedVariables false
set_option maxRecDepth 100000

/-- A load of a row that stands behind a guard. -/
theorem wpList_load_midG {P : Program} {ops : Array Oper} {rest : List Oper} {op : Oper} {a : Act} {w : World} {Q : Exit → Act → World → Prop} (hgd : Region.wanted op (yielded ops a.tmps) = true) (ty : TypeId) (x : Operand) (ho : op.op = .load ty x)
    (b o : Nat) (hx : a.eval x = .pointer (some ⟨b, o, none⟩)) (cs : List Value) (d : TypeDesc) (hc : w.rangeAt b o cs)
    (hu : P.underlying ty = some d) (hd : d.isRow = true) (hi : (P.info? ty).map (·.size) = some cs.length)
    (h : wpList P ops Q rest (a.put op.dst (.agg cs.toArray)) w) : wpList P ops Q (op :: rest) a w :=
  BigFrame.wpList_want hgd fun _ hK => wp_load_mid ty x ho b o hx cs d hc hu hd hi (hK _ _ h)
set_option maxHeartbeats 4000000 in
theorem mach_eq (x : MC) (q p : MA) (w : World) (hA : McAt w x q) (hA' : McAt w x p) (h8 : x.r.length = 8) (lm : x.m.length ≤ maxLen) (ls : x.s.length ≤ maxLen) (lo : x.o.length ≤ maxLen) :
    Calls Try.prog 11 #[.agg (mcC x q).toArray, .agg (mcC x p).toArray] w fun e w' => e = .returned (.bool true) ∧ Below w.heap.size w w' := by
  have C1 := mc_cells x q h8
  have C2 := mc_cells x p h8
  have hq := eql_regs x h8
  obtain ⟨M, hM⟩ : ∃ M, (mcC x q).toArray = M := ⟨_, rfl⟩
  obtain ⟨N, hN⟩ : ∃ N, (mcC x p).toArray = N := ⟨_, rfl⟩
  rw [hM] at C1 ⊢
  rw [hN] at C2 ⊢
  obtain ⟨-, zM, rM, c0, c1, c2, c3, c4, c5, c6, c7⟩ := C1
  obtain ⟨-, zN, rN, d0, d1, d2, d3, d4, d5, d6, d7⟩ := C2
  obtain ⟨L, hL⟩ : ∃ L, x.r.flatMap mvC = L := ⟨_, rfl⟩
  rw [hL] at rM rN hq
  have hlen : L.length = 56 := by rw [← hL, mv_len, h8]
  have HI : Hid ((Try.prog.info? 26).map (·.size) = some L.length) := by show _ = _; rw [hlen]; kernel_rfl
  have cV := fun w ha hb => eq_vals q.m p.m q.cm p.cm x.m w ha hb lm
  have cF := fun w ha hb => eq_frames q.s p.s q.cs p.cs x.s w ha hb ls
  have cN := fun w ha hb => eq_nums q.o p.o q.co p.co x.o w ha hb lo
  have HA : Hid (∀ w', Below w.heap.size w w' → McAt w' x q) := fun w' hb => hA.below hb
  have HB : Hid (∀ w', Below w.heap.size w w' → McAt w' x p) := fun w' hb => hA'.below hb
  have HM : Hid (∀ (j : Nat) u, L[j]? = some u → M[j]? = some u) := rM
  have HN : Hid (∀ (j : Nat) u, L[j]? = some u → N[j]? = some u) := rN
  clear hA hA' hM hN rM rN lm ls lo hL hlen zM zN
  go_enter Try.func11, Try.ntmps11
  go_upto_region 1 with fail
  obtain ⟨w0, hw0⟩ : ∃ w0, w0 = (w.alloc (.cells M 31)).alloc (.cells N 31) := ⟨_, rfl⟩
  rw [← hw0]
  have b1 : Box w0 w.heap.size M := by rw [hw0]; exact (Box.new _ _ _).alloc _
  have b2 : Box w0 (w.heap.size + 1) N := by rw [hw0]; exact Box.new1 _ _ _ _
  have hB : Below w.heap.size w w0 := by rw [hw0]; exact two _ _
  have g1 : w0.rangeAt w.heap.size 0 L := fun j u hj => by rw [Nat.zero_add, b1.cell]; exact HM.out j u hj
  have g2 : w0.rangeAt (w.heap.size + 1) 0 L := fun j u hj => by rw [Nat.zero_add, b2.cell]; exact HN.out j u hj
  have HG : Hid (w0.rangeAt w.heap.size 0 L ∧ w0.rangeAt (w.heap.size + 1) 0 L) := ⟨g1, g2⟩
  have q1 := b1.cell
  have q2 := b2.cell
  clear hw0 g1 g2 HM HN
  go_wp2_with (first | (refine wpList_load_mid rfl 26 (.tmp 5) rfl w.heap.size 0 (by rfl) L _ HG.out.1 Try.underlying26 rfl HI.out ?_) | (refine wpList_load_mid rfl 26 (.tmp 7) rfl (w.heap.size + 1) 0 (by rfl) L _ HG.out.2 Try.underlying26 rfl HI.out ?_) | (go_at_call 25; refine (cV _ (HA.out _ hB).m (HB.out _ hB).m).mono ?_; rintro e w1 ⟨rfl, hbb⟩; replace b1 := b1.below hbb; replace b2 := b2.below hbb; replace hB := Below.step0 hB hbb; replace q1 := b1.cell; replace q2 := b2.cell; clear hbb cV HG) | (go_at_call 26; refine (cF _ (HA.out _ hB).s (HB.out _ hB).s).mono ?_; rintro e w2 ⟨rfl, hbb⟩; replace b1 := b1.below hbb; replace b2 := b2.below hbb; replace hB := Below.step0 hB hbb; replace q1 := b1.cell; replace q2 := b2.cell; clear hbb cF) | (go_at_call 15; refine (cN _ (HA.out _ hB).o (HB.out _ hB).o).mono ?_; rintro e w3 ⟨rfl, hw3⟩; obtain rfl := hw3.symm))
  go_ret
  exact ⟨rfl, hB⟩
end Go.Proofs.Ythijebhhbflclaa
