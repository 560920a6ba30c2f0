/- step.act: the others. -/
import Derived.Test.YtlfeglljpfihhaaGreatDoorRows
import Derived.Test.YtlfeglljpfihhaaGreatDoorCardBaseX
import Derived.Test.YtlfeglljpfihhaaGreatDoorKeyCovX
import Derived.Test.YtlfeglljpfihhaaGreatDoorKeySealX
import Derived.Test.YtlfeglljpfihhaaGreatDoorValArgX
import Derived.Test.YtlfeglljpfihhaaGreatDoorMemPureX
import Derived.Test.YtlfeglljpfihhaaGreatDoorMemChkX
import Derived.Test.YtlfeglljpfihhaaGreatDoorStepOffX
import Derived.Test.YtlfeglljpfihhaaGreatDoorStepRowX
import Derived.Test.YtlfeglljpfihhaaGreatDoorStepOwnedX
import Derived.Test.YtlfeglljpfihhaaGreatDoorStepMidX
import Derived.Test.YtlfeglljpfihhaaGreatDoorStepMid2X
import Derived.Test.YtlfeglljpfihhaaGreatDoorStepBackX
import Derived.Test.YtlfeglljpfihhaaGreatDoorStepCallX
import Derived.Test.YtlfeglljpfihhaaGreatDoorStepActX
import Derived.WalkKit
import Derived.ProofKit
import Derived.OpenShut
import Derived.WalkLawsBesides
import Derived.Deep.RegionHeld3
namespace Go.Proofs.YtlfeglljpfihhaaGreatDoor
open Go.ChangeShapes Go.WideShapes Go.ChangeAt Go.RowKit
set_option linter.unusedSimpArgs false
set_option linter.unusedVariables false
set_option maxRecDepth 100000

section
variable {w : World} {S bb : Nat} {x : MC} {q : MA} {n : K5} {o e c : Int} {a b k : Nat} {u v : MV}
set_option maxHeartbeats 1000000 in
theorem act_halt (h : St w S bb x q ⟨0, a, b, c, e⟩ n)  :
    Calls Tryz.prog 51 #[.pointer (some ⟨S, 0, none⟩)] w fun r w' => Acts w S bb ⟨0, a, b, c, e⟩ (.no .h) r w' := by
  have hio : w.cell? ⟨S, 64, none⟩ = some (.int .i64 0) := h.cells.io
  clear h
  go_enter Tryz.func51, Tryz.ntmps51
  go_wp2
  exact ⟨rfl, rfl, Off.refl _ _⟩
set_option maxHeartbeats 1000000 in
theorem act_set (h : St w S bb x q ⟨1, a, b, c, e⟩ n) (la : a < 8) :
    Calls Tryz.prog 51 #[.pointer (some ⟨S, 0, none⟩)] w fun r w' => Acts w S bb ⟨1, a, b, c, e⟩ (.ok (putR x a (nV c)) n) r w' := by
  have hio : w.cell? ⟨S, 64, none⟩ = some (.int .i64 1) := h.cells.io
  have hic : w.cell? ⟨S, 67, none⟩ = some (.int .i64 c) := h.cells.ic
  have cP := step_putnumber h rfl la c
  clear h
  go_enter Tryz.func51, Tryz.ntmps51
  go_wp2_with (go_at_call 76; refine cP.mono ?_; rintro e1 w1 ⟨rfl, hO, hst⟩)
  go_end0
  exact ⟨rfl, hO, _, hst⟩
set_option maxHeartbeats 1000000 in
theorem act_copy (h : St w S bb x q ⟨2, a, b, c, e⟩ n) (la : a < 8) (vb : x.r[b]? = some u) :
    Calls Tryz.prog 51 #[.pointer (some ⟨S, 0, none⟩)] w fun r w' => Acts w S bb ⟨2, a, b, c, e⟩ (.ok (putR x a u) n) r w' := by
  have hio : w.cell? ⟨S, 64, none⟩ = some (.int .i64 2) := h.cells.io
  have hia : w.cell? ⟨S, 65, none⟩ = some (.int .i64 (a : Int)) := h.cells.ia
  have hib : w.cell? ⟨S, 66, none⟩ = some (.int .i64 (b : Int)) := h.cells.ib
  obtain ⟨c0, c1, c2, c3, c4, c5, c6⟩ := h.reg vb
  obtain ⟨y, hy⟩ := h.reg? la
  obtain ⟨d0, d1, d2, d3, d4, d5, d6⟩ := h.reg hy
  have fz := h.box.free
  have HP := h.put la u
  have HP' : Hid (_ ∧ _) := HP
  have g1 : (a : Int) < 8 := by omega
  have g2 : (b : Int) < 8 := by have := reg_lt h vb; omega
  clear h HP hy
  go_enter Tryz.func51, Tryz.ntmps51
  go_wp2
  go_region
  all_goals go_wp2
  go_end0
  exact ⟨rfl, HP'.out.2.drew, _, HP'.out.1.drew⟩
set_option maxHeartbeats 1000000 in
theorem act_jump (h : St w S bb x q ⟨8, a, b, c, e⟩ n) (hk : 0 ≤ x.k.a ∧ x.k.a ≤ 400) (hc : -2048 ≤ c ∧ c ≤ 2047) :
    Calls Tryz.prog 51 #[.pointer (some ⟨S, 0, none⟩)] w fun r w' => Acts w S bb ⟨8, a, b, c, e⟩ (jumpR x ⟨8, a, b, c, e⟩ n) r w' := by
  have hio : w.cell? ⟨S, 64, none⟩ = some (.int .i64 8) := h.cells.io
  unfold jumpR
  by_cases hj : 0 ≤ x.k.a + c ∧ x.k.a + c ≤ 400
  · have cJ := step_jump_yes h hj.1 hj.2
    rw [show (if 0 ≤ x.k.a + (ID.mk 8 a b c e).c ∧ x.k.a + (ID.mk 8 a b c e).c ≤ 400 then AR.ok x { n with a := x.k.a + (ID.mk 8 a b c e).c } else .no (.e 13)) = .ok x { n with a := x.k.a + c } from if_pos hj]
    clear h hj
    go_enter Tryz.func51, Tryz.ntmps51
    go_wp2_with (go_at_call 79; refine cJ.mono ?_; rintro e1 w1 ⟨rfl, hO, hst⟩)
    go_end0
    exact ⟨rfl, hO, _, hst⟩
  · have cJ := step_jump_no h (by show x.k.a + c < 0 ∨ 400 < x.k.a + c; omega) (by show -4000 ≤ x.k.a + c ∧ x.k.a + c ≤ 4000; omega)
    rw [show (if 0 ≤ x.k.a + (ID.mk 8 a b c e).c ∧ x.k.a + (ID.mk 8 a b c e).c ≤ 400 then AR.ok x { n with a := x.k.a + (ID.mk 8 a b c e).c } else .no (.e 13)) = .no (.e 13) from if_neg hj]
    clear h hj
    go_enter Tryz.func51, Tryz.ntmps51
    go_wp2_with (go_at_call 79; refine cJ.mono ?_; unfold thrown; rintro e1 w1 ⟨rfl, hbb⟩)
    exact ⟨rfl, rfl, (Off.refl _ _).below hbb⟩
set_option maxHeartbeats 1000000 in
theorem act_if (h : St w S bb x q ⟨9, a, b, c, e⟩ n) (va : x.r[a]? = some u) (hk : 0 ≤ x.k.a ∧ x.k.a ≤ 400) (hc : -2048 ≤ c ∧ c ≤ 2047) :
    Calls Tryz.prog 51 #[.pointer (some ⟨S, 0, none⟩)] w fun r w' => Acts w S bb ⟨9, a, b, c, e⟩ (if u.i = true then .no .u else if u.n = 0 then .ok x n else jumpR x ⟨9, a, b, c, e⟩ n) r w' := by
  have hio : w.cell? ⟨S, 64, none⟩ = some (.int .i64 9) := h.cells.io
  have hia : w.cell? ⟨S, 65, none⟩ = some (.int .i64 (a : Int)) := h.cells.ia
  cases hu : u.i
  · rw [if_neg (by decide)]
    have cN := step_number_yes h va hu
    by_cases hz : u.n = 0
    · rw [if_pos hz]
      rw [hz] at cN
      have H : Hid (St w S bb x q ⟨9, a, b, c, e⟩ n) := h
      clear h
      go_enter Tryz.func51, Tryz.ntmps51
      go_wp2_with (go_at_call 78; refine cN.mono ?_; rintro e1 w1 ⟨rfl, hw⟩; obtain rfl := hw.symm)
      go_end0
      exact ⟨rfl, Off.refl _ _, _, H.out⟩
    · rw [if_neg hz]
      have gz : (u.n != 0) = true := by simpa using hz
      unfold jumpR
      by_cases hj : 0 ≤ x.k.a + c ∧ x.k.a + c ≤ 400
      · have cJ := step_jump_yes h hj.1 hj.2
        rw [show (if 0 ≤ x.k.a + (ID.mk 9 a b c e).c ∧ x.k.a + (ID.mk 9 a b c e).c ≤ 400 then AR.ok x { n with a := x.k.a + (ID.mk 9 a b c e).c } else .no (.e 13)) = .ok x { n with a := x.k.a + c } from if_pos hj]
        clear h hj hz
        go_enter Tryz.func51, Tryz.ntmps51
        go_wp2_with (first | (go_at_call 78; refine cN.mono ?_; rintro e1 w1 ⟨rfl, hw⟩; obtain rfl := hw.symm) | (go_at_call 79; refine cJ.mono ?_; rintro e1 w1 ⟨rfl, hO, hst⟩))
        go_end0
        exact ⟨rfl, hO, _, hst⟩
      · have cJ := step_jump_no h (by show x.k.a + c < 0 ∨ 400 < x.k.a + c; omega) (by show -4000 ≤ x.k.a + c ∧ x.k.a + c ≤ 4000; omega)
        rw [show (if 0 ≤ x.k.a + (ID.mk 9 a b c e).c ∧ x.k.a + (ID.mk 9 a b c e).c ≤ 400 then AR.ok x { n with a := x.k.a + (ID.mk 9 a b c e).c } else .no (.e 13)) = .no (.e 13) from if_neg hj]
        clear h hj hz
        go_enter Tryz.func51, Tryz.ntmps51
        go_wp2_with (first | (go_at_call 78; refine cN.mono ?_; rintro e1 w1 ⟨rfl, hw⟩; obtain rfl := hw.symm) | (go_at_call 79; refine cJ.mono ?_; unfold thrown; rintro e1 w1 ⟨rfl, hbb⟩))
        exact ⟨rfl, rfl, (Off.refl _ _).below hbb⟩
  · rw [if_pos rfl]
    have cN := step_number_no h va hu
    clear h
    go_enter Tryz.func51, Tryz.ntmps51
    go_wp2_with (go_at_call 78; refine cN.mono ?_; unfold thrown; rintro e1 w1 ⟨rfl, hw⟩)
    exact ⟨rfl, rfl, by first | exact Off.refl _ _ | (rw [hw]; exact Off.refl _ _)⟩
set_option maxHeartbeats 1000000 in
theorem act_ask (h : St w S bb x q ⟨17, a, b, c, e⟩ n) (la : a < 8) (vb : x.r[b]? = some u) (hc : 0 ≤ c ∧ c ≤ 5) :
    Calls Tryz.prog 51 #[.pointer (some ⟨S, 0, none⟩)] w fun r w' => Acts w S bb ⟨17, a, b, c, e⟩ (if c = 0 then .ok (putR x a (nV (if u.i = true then 1 else 0))) n else if u.i = true then .ok (putR x a (nV (askI u c))) n else .no .u) r w' := by
  have hio : w.cell? ⟨S, 64, none⟩ = some (.int .i64 17) := h.cells.io
  have H : Hid (St w S bb x q ⟨17, a, b, c, e⟩ n) := h
  by_cases h0 : c = 0
  · rw [if_pos h0]
    have cA := step_ask0 h rfl vb h0
    have cP := fun (w' : World) (hb : Below w.heap.size w w') m => step_putnumber (h.below hb) rfl la m
    generalize (if u.i = true then (1 : Int) else 0) = m at *
    clear h
    go_enter Tryz.func51, Tryz.ntmps51
    go_wp2_with (first | (go_at_call 91; refine cA.mono ?_; rintro e1 w1 ⟨rfl, hbb⟩) | (go_at_call 76; refine (cP _ hbb _).mono ?_; rintro e1 w2 ⟨rfl, hO, hst⟩))
    go_end0
    exact ⟨rfl, ((Off.refl _ _).below hbb).trans hO, _, hst⟩
  · rw [if_neg h0]
    cases hu : u.i
    · rw [if_neg (by decide)]
      have cA := step_ask_no h rfl vb h0 hu
      clear h
      go_enter Tryz.func51, Tryz.ntmps51
      go_wp2_with (go_at_call 91; refine cA.mono ?_; unfold thrown; rintro e1 w1 ⟨rfl, hbb⟩)
      exact ⟨rfl, rfl, (Off.refl _ _).below hbb⟩
    · rw [if_pos rfl]
      have cA := step_ask h rfl vb (by show 1 ≤ c ∧ c ≤ 5; omega) hu
      have cP := fun (w' : World) (hb : Below w.heap.size w w') m => step_putnumber (h.below hb) rfl la m
      have cA2 : Calls Tryz.prog 91 #[.pointer (some ⟨S, 0, none⟩)] w fun r w' => r = .returned (.int .i64 (askI u c)) ∧ Below w.heap.size w w' := cA
      generalize askI u c = m at *
      clear h cA
      go_enter Tryz.func51, Tryz.ntmps51
      go_wp2_with (first | (go_at_call 91; refine cA2.mono ?_; rintro e1 w1 ⟨rfl, hbb⟩) | (go_at_call 76; refine (cP _ hbb _).mono ?_; rintro e1 w2 ⟨rfl, hO, hst⟩))
      go_end0
      exact ⟨rfl, ((Off.refl _ _).below hbb).trans hO, _, hst⟩
set_option maxHeartbeats 1000000 in
theorem act_back (h : St w S bb x q ⟨19, a, b, c, e⟩ n) (hl : x.s.length ≤ 16) (hf : q.cs = x.s.length) :
    Calls Tryz.prog 51 #[.pointer (some ⟨S, 0, none⟩)] w fun r w' => Acts w S bb ⟨19, a, b, c, e⟩ (match x.s.getLast? with | none => .no .h | some f => .ok (backM x f x.s.dropLast) f.c) r w' := by
  have hio : w.cell? ⟨S, 64, none⟩ = some (.int .i64 19) := h.cells.io
  cases hg : x.s.getLast? with
  | none =>
    have hs : x.s = [] := List.getLast?_eq_none_iff.1 hg
    have cB := step_back_no h hs
    clear h
    go_enter Tryz.func51, Tryz.ntmps51
    go_wp2_with (go_at_call 93; refine cB.mono ?_; unfold thrown; rintro e1 w1 ⟨rfl, hw⟩)
    exact ⟨rfl, rfl, by first | exact Off.refl _ _ | (rw [hw]; exact Off.refl _ _)⟩
  | some f =>
    have hs : x.s = x.s.dropLast ++ [f] := by
      obtain ⟨ys, hy⟩ := List.getLast?_eq_some_iff.1 hg
      rw [hy, List.dropLast_concat]
    have hlen : x.s.dropLast.length < 16 := by
      have := congrArg List.length hs
      rw [List.length_append] at this
      simp only [List.length_cons, List.length_nil] at this
      omega
    have cB := step_back_yes h x.s.dropLast f hs hlen hf
    generalize x.s.dropLast = fs at *
    clear h
    go_enter Tryz.func51, Tryz.ntmps51
    go_wp2_with (go_at_call 93; refine cB.mono ?_; rintro e1 w1 ⟨rfl, hO, q', hst⟩)
    go_end0
    exact ⟨rfl, hO, _, hst⟩
set_option maxHeartbeats 1000000 in
theorem act_here (h : St w S bb x q ⟨20, a, b, c, e⟩ n) (la : a < 8) :
    Calls Tryz.prog 51 #[.pointer (some ⟨S, 0, none⟩)] w fun r w' => Acts w S bb ⟨20, a, b, c, e⟩ (.ok (putR x a (kV x.k)) n) r w' := by
  have hio : w.cell? ⟨S, 64, none⟩ = some (.int .i64 20) := h.cells.io
  obtain ⟨k0, k1, k2, k3, k4, -, -, -, -, -, -, -, -, -, -, -, -⟩ := h.cells
  have cP := step_putkey h rfl la x.k
  clear h
  go_enter Tryz.func51, Tryz.ntmps51
  go_wp2_with (go_at_call 85; refine cP.mono ?_; rintro e1 w1 ⟨rfl, hO, hst⟩)
  go_end0
  exact ⟨rfl, hO, _, hst⟩
set_option maxHeartbeats 1000000 in
theorem act_clear (h : St w S bb x q ⟨21, a, b, c, e⟩ n) (hc : 0 ≤ c ∧ c ≤ 255) :
    Calls Tryz.prog 51 #[.pointer (some ⟨S, 0, none⟩)] w fun r w' => Acts w S bb ⟨21, a, b, c, e⟩ (.ok { x with r := clrN c x.r 8 } n) r w' := by
  have hio : w.cell? ⟨S, 64, none⟩ = some (.int .i64 21) := h.cells.io
  have cC := step_clear h hc
  clear h
  go_enter Tryz.func51, Tryz.ntmps51
  go_wp2_with (go_at_call 94; refine cC.mono ?_; rintro e1 w1 ⟨rfl, hO, hst⟩)
  go_end0
  exact ⟨rfl, hO, _, hst⟩
set_option maxHeartbeats 1000000 in
theorem act_tell (h : St w S bb x q ⟨22, a, b, c, e⟩ n) (va : x.r[a]? = some u) (hf : q.co = x.o.length) :
    Calls Tryz.prog 51 #[.pointer (some ⟨S, 0, none⟩)] w fun r w' => Acts w S bb ⟨22, a, b, c, e⟩ (if u.i = true then .no .u else if 100 ≤ x.o.length then .no (.e 9) else .ok { x with o := x.o ++ [u.n] } n) r w' := by
  have hio : w.cell? ⟨S, 64, none⟩ = some (.int .i64 22) := h.cells.io
  have hia : w.cell? ⟨S, 65, none⟩ = some (.int .i64 (a : Int)) := h.cells.ia
  cases hu : u.i
  · rw [if_neg (by decide)]
    have cN := step_number_yes h va hu
    by_cases hz : 100 ≤ x.o.length
    · rw [if_pos hz]
      have cT := step_tell_no h hz u.n
      clear h
      go_enter Tryz.func51, Tryz.ntmps51
      go_wp2_with (first | (go_at_call 78; refine cN.mono ?_; rintro e1 w1 ⟨rfl, hw⟩; obtain rfl := hw.symm) | (go_at_call 95; refine cT.mono ?_; unfold thrown; rintro e1 w1 ⟨rfl, hw⟩))
      exact ⟨rfl, rfl, by first | exact Off.refl _ _ | (rw [hw]; exact Off.refl _ _)⟩
    · rw [if_neg hz]
      have cT := step_tell_yes h (by omega) hf u.n
      clear h
      go_enter Tryz.func51, Tryz.ntmps51
      go_wp2_with (first | (go_at_call 78; refine cN.mono ?_; rintro e1 w1 ⟨rfl, hw⟩; obtain rfl := hw.symm) | (go_at_call 95; refine cT.mono ?_; rintro e1 w1 ⟨rfl, hO, q', hst⟩))
      go_end0
      exact ⟨rfl, hO, _, hst⟩
  · rw [if_pos rfl]
    have cN := step_number_no h va hu
    clear h
    go_enter Tryz.func51, Tryz.ntmps51
    go_wp2_with (go_at_call 78; refine cN.mono ?_; unfold thrown; rintro e1 w1 ⟨rfl, hw⟩)
    exact ⟨rfl, rfl, by first | exact Off.refl _ _ | (rw [hw]; exact Off.refl _ _)⟩
end
end Go.Proofs.YtlfeglljpfihhaaGreatDoor
