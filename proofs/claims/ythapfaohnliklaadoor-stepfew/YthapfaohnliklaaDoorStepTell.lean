/- package step: tell and back; a machine with lists of its own. -/
import Derived.Test.YthapfaohnliklaaDoorRows
import Derived.Test.YthapfaohnliklaaDoorBits
import Derived.Test.YthapfaohnliklaaDoorKeyPure
import Derived.Test.YthapfaohnliklaaDoorCellPure
import Derived.Test.YthapfaohnliklaaDoorValsArg
import Derived.Test.YthapfaohnliklaaDoorMemPure
import Derived.Test.YthapfaohnliklaaDoorInstDev
import Derived.Test.YthapfaohnliklaaDoorMachArg
import Derived.Test.YthapfaohnliklaaDoorStepRow
import Derived.Test.YthapfaohnliklaaDoorStepOff
import Derived.Test.YthapfaohnliklaaDoorStepSmall
import Derived.Test.YthapfaohnliklaaDoorStepMid
import Derived.Test.YthapfaohnliklaaDoorStepFresh
import Derived.WalkKit
import Derived.ProofKit
import Derived.OpenShut
import Derived.WalkLawsBesides
import Derived.ArgAppend
import Derived.OwnWalk
namespace Go.Proofs.YthapfaohnliklaaDoor
open Go.ChangeShapes Go.WideShapes Go.ChangeAt Go.RowKit
set_option linter.unusedSimpArgs false
set_option linter.unusedVariables false
set_option maxRecDepth 100000

section
variable {w : World} {S bb : Nat} {x : MC} {q : MA} {i : ID} {n : K5} {k : Nat} {v : MV}
theorem st_len (h8 : x.r.length = 8) : (stC x q i n).length = 73 := by unfold stC; rw [List.length_append, mc_len h8]; rfl
theorem st_set (h8 : x.r.length = 8) (j : Nat) (u : Value) (hj : j < 8) : (stC x q i n).set (56 + j) u = x.r.flatMap mvC ++ (mcT x q).set j u ++ stT i n := by
  have hl : (x.r.flatMap mvC).length = 56 := by rw [mv_len, h8]
  unfold stC mcC
  rw [List.append_assoc, List.set_append_right _ _ (by omega), hl, Nat.add_sub_cancel_left, List.set_append_left _ _ (by show j < 8; exact hj), List.append_assoc]
theorem St.setO (h : St w S bb x q i n) (ns : List Int) (a : Option Addr) (c : Nat) (hr : RowAt w a (ns.map nmC)) (hf : Far S bb a) (hc : ns.length ≤ c) :
    St (w.setCell ⟨S, 63, none⟩ (.slice a ns.length c)) S bb { x with o := ns } { q with o := a, co := c } i n ∧ Off S w (w.setCell ⟨S, 63, none⟩ (.slice a ns.length c)) := by
  have hO : Off S w (w.setCell ⟨S, 63, none⟩ (.slice a ns.length c)) := (Off.refl _ _).set _ _
  have e : (stC x q i n).set 63 (.slice a ns.length c) = stC { x with o := ns } { q with o := a, co := c } i n := st_set h.r8 7 _ (by omega)
  have b := h.box.setL (v := .slice a ns.length c) (j := 63) (by rw [st_len h.r8]; omega)
  rw [e] at b
  exact ⟨⟨b, ⟨(hO.mc h.at_ h.far).m, (hO.mc h.at_ h.far).s, hO.row hr hf, hc⟩, ⟨h.far.m, h.far.s, hf⟩, h.r8, Nat.lt_of_lt_of_le h.lb hO.size⟩, hO⟩
theorem St.setS (h : St w S bb x q i n) (fs : List FR) (a : Option Addr) (c : Nat) (hr : RowAt w a (fs.flatMap frC)) (hf : Far S bb a) :
    St (w.setCell ⟨S, 62, none⟩ (.slice a fs.length c)) S bb { x with s := fs } { q with s := a, cs := c } i n ∧ Off S w (w.setCell ⟨S, 62, none⟩ (.slice a fs.length c)) := by
  have hO : Off S w (w.setCell ⟨S, 62, none⟩ (.slice a fs.length c)) := (Off.refl _ _).set _ _
  have e : (stC x q i n).set 62 (.slice a fs.length c) = stC { x with s := fs } { q with s := a, cs := c } i n := st_set h.r8 6 _ (by omega)
  have b := h.box.setL (v := .slice a fs.length c) (j := 62) (by rw [st_len h.r8]; omega)
  rw [e] at b
  exact ⟨⟨b, ⟨(hO.mc h.at_ h.far).m, hO.row hr hf, (hO.mc h.at_ h.far).o, h.at_.c⟩, ⟨h.far.m, hf, h.far.o⟩, h.r8, Nat.lt_of_lt_of_le h.lb hO.size⟩, hO⟩
theorem St.setM (h : St w S bb x q i n) (vs : List MV) (a : Option Addr) (c : Nat) (hr : RowAt w a (vs.flatMap mvC)) (hf : Far S bb a) :
    St (w.setCell ⟨S, 61, none⟩ (.slice a vs.length c)) S bb { x with m := vs } { q with m := a, cm := c } i n ∧ Off S w (w.setCell ⟨S, 61, none⟩ (.slice a vs.length c)) := by
  have hO : Off S w (w.setCell ⟨S, 61, none⟩ (.slice a vs.length c)) := (Off.refl _ _).set _ _
  have e : (stC x q i n).set 61 (.slice a vs.length c) = stC { x with m := vs } { q with m := a, cm := c } i n := st_set h.r8 5 _ (by omega)
  have b := h.box.setL (v := .slice a vs.length c) (j := 61) (by rw [st_len h.r8]; omega)
  rw [e] at b
  exact ⟨⟨b, ⟨RowAt.vals (hO.row hr hf), (hO.mc h.at_ h.far).s, (hO.mc h.at_ h.far).o, h.at_.c⟩, ⟨hf, h.far.s, h.far.o⟩, h.r8, Nat.lt_of_lt_of_le h.lb hO.size⟩, hO⟩
/-- The key by which it goes on is another one. -/
theorem St.setN (h : St w S bb x q i n) (m : K5) :
    St (((((w.setCell ⟨S, 68, none⟩ (.int .i64 m.p)).setCell ⟨S, 69, none⟩ (.int .i64 m.b)).setCell ⟨S, 70, none⟩ (.int .i64 m.l)).setCell ⟨S, 71, none⟩ (.int .i64 m.a)).setCell ⟨S, 72, none⟩ (.int .i64 m.s)) S bb x q i m ∧
    Off S w (((((w.setCell ⟨S, 68, none⟩ (.int .i64 m.p)).setCell ⟨S, 69, none⟩ (.int .i64 m.b)).setCell ⟨S, 70, none⟩ (.int .i64 m.l)).setCell ⟨S, 71, none⟩ (.int .i64 m.a)).setCell ⟨S, 72, none⟩ (.int .i64 m.s)) := by
  have hO : Off S w (((((w.setCell ⟨S, 68, none⟩ (.int .i64 m.p)).setCell ⟨S, 69, none⟩ (.int .i64 m.b)).setCell ⟨S, 70, none⟩ (.int .i64 m.l)).setCell ⟨S, 71, none⟩ (.int .i64 m.a)).setCell ⟨S, 72, none⟩ (.int .i64 m.s)) := (((((Off.refl _ _).set _ _).set _ _).set _ _).set _ _).set _ _
  have e : ((((((stC x q i n).set 68 (.int .i64 m.p)).set 69 (.int .i64 m.b)).set 70 (.int .i64 m.l)).set 71 (.int .i64 m.a)).set 72 (.int .i64 m.s)) = stC x q i m := by
    unfold stC
    have hl := mc_len (q := q) h.r8
    rw [List.set_append_right _ _ (by omega), List.set_append_right _ _ (by omega), List.set_append_right _ _ (by omega), List.set_append_right _ _ (by omega), List.set_append_right _ _ (by omega), hl]
    rfl
  have hl := st_len (q := q) (i := i) (n := n) h.r8
  have b := ((((h.box.setL (v := .int .i64 m.p) (j := 68) (by omega)).setL (v := .int .i64 m.b) (j := 69) (by simp only [List.length_set]; omega)).setL (v := .int .i64 m.l) (j := 70) (by simp only [List.length_set]; omega)).setL (v := .int .i64 m.a) (j := 71) (by simp only [List.length_set]; omega)).setL (v := .int .i64 m.s) (j := 72) (by simp only [List.length_set]; omega)
  rw [e] at b
  exact ⟨⟨b, hO.mc h.at_ h.far, h.far, h.r8, Nat.lt_of_lt_of_le h.lb hO.size⟩, hO⟩
theorem Far.of_le {a : Option Addr} {B : Nat} (h : ∀ y ∈ a, B ≤ y.block) (hS : S < B) (hb : bb < B) : Far S bb a := fun y hy => by have := h y hy; omega
set_option maxHeartbeats 1000000 in
theorem step_tell_yes (h : St w S bb x q i n) (hl : x.o.length < 100) (hf : q.co = x.o.length) (m : Int) :
    Calls Tryd.prog 70 #[.pointer (some ⟨S, 0, none⟩), .int .i64 m] w fun r w' => r = .returned (.tuple #[]) ∧ Off S w w' ∧ ∃ q', St w' S bb { x with o := x.o ++ [m] } q' i n := by
  obtain ⟨i0, hi, hz0, hz1, hz2⟩ := info_ints
  have hlo := h.cells.lo
  rw [hf] at hlo
  have hlt := h.box.lt
  have n1 : ¬ S = w.heap.size := by omega
  have n2 : ¬ w.heap.size = S := by omega
  have g : ¬ (100 : Int) ≤ (x.o.length : Int) := by omega
  have HH : Hid (St w S bb x q i n) := h
  have hnone : q.o = none → x.o.length = 0 ∧ x.o.length = 0 := fun e => by
    rcases h.at_.o with h0 | ⟨B, off, e2, _⟩
    · have : x.o = [] := by cases hx : x.o with | nil => rfl | cons a b => rw [hx] at h0; cases h0
      rw [this]; exact ⟨rfl, rfl⟩
    · rw [e] at e2; cases e2
  have holds : ∀ b, q.o = some b → ∀ j u, (x.o.map nmC)[j]? = some u → (w.alloc (.cells #[.int .i64 m] 3)).cell? (b.add j) = some u := fun b eb j u hj => by
    rcases h.at_.o with h0 | ⟨B, off, e2, hB, hc⟩
    · rw [h0] at hj; simp at hj
    · rw [eb] at e2
      injection e2 with e2
      subst e2
      rw [addr_add, cell_old _ _ _ _ hB]
      exact hc j u hj
  have HX : Hid ((q.o = none → x.o.length = 0 ∧ x.o.length = 0) ∧ ∀ b, q.o = some b → ∀ j u, (x.o.map nmC)[j]? = some u → (w.alloc (.cells #[.int .i64 m] 3)).cell? (b.add j) = some u) := ⟨hnone, holds⟩
  have hlen : (x.o.map nmC).length = x.o.length * 1 := by rw [List.length_map, Nat.mul_one]
  have HN : Hid ((x.o.map nmC).length = x.o.length * 1) := hlen
  clear hnone holds hlen h
  go_enter Tryd.func70, Tryd.ntmps70
  go_wp2_with (first | (go_at_call 48; refine (step_refuse_no' _ (by first | rfl | (simp; omega)) _ _).mono ?_; rintro e w0 ⟨rfl, hw0⟩; obtain rfl := hw0.symm) | (at_builtin; refine wpList_append_grows _ rfl _ _ _ rfl 3 i0 _ 1 8 Tryd.underlying29 hi hz0 hz1 hz2 rfl (by decide) q.o x.o.length x.o.length (x.o.map nmC) rfl HX.out.1 HN.out HX.out.2 ⟨w.heap.size, 0, none⟩ 1 1 [nmC m] rfl rfl (fun j u hj => by rw [addr_add, Nat.zero_add, cell_new]; exact (List.getElem?_toArray (xs := [nmC m])).trans hj) (nm_one [m]) (by omega) (by unfold maxLen; omega) (by omega) ?_; intro V w1 hown hgrow; obtain ⟨a, c, hV, hcap, hrow, hfar⟩ := own_row hown; rw [hV]; have hb := Below.grown (Below.refl _ _) hgrow (Nat.le_refl _) (fun k e => by cases e); have hst := (HH.out.below ((Below.refl _ _).alloc (Nat.le_refl _) _)).below hb; have hO1 := ((Off.refl S w).alloc _).below hb; have c63 := hst.cells.lo; have f63 := hst.box.free 63; have hFar : Far S bb a := Far.of_le hfar (by simp; omega) (by have := HH.out.lb; simp; omega); rw [show x.o.map nmC ++ [nmC m] = (x.o ++ [m]).map nmC from (by rw [List.map_append]; rfl)] at hrow; have HR : Hid (St w1 S bb x q i n ∧ RowAt w1 a ((x.o ++ [m]).map nmC) ∧ Far S bb a ∧ (x.o ++ [m]).length ≤ c) := ⟨hst, hrow, hFar, by rw [List.length_append]; exact hcap⟩; clear hst hrow hFar hfar hown hgrow hb HX HN hV hlo))
  go_end0
  obtain ⟨s1, s2, s3, s4⟩ := HR.out
  obtain ⟨p1, p2⟩ := s1.setO (x.o ++ [m]) a c s2 s3 s4
  rw [show (x.o ++ [m]).length = x.o.length + 1 from (by simp)] at p1 p2
  exact ⟨rfl, hO1.trans p2, _, p1⟩
set_option maxHeartbeats 1000000 in
theorem step_tell_no (h : St w S bb x q i n) (hl : 100 ≤ x.o.length) (m : Int) :
    Calls Tryd.prog 70 #[.pointer (some ⟨S, 0, none⟩), .int .i64 m] w fun r w' => r = thrown (.e 9) ∧ w' = w := by
  have hlo := h.cells.lo
  have g : (100 : Int) ≤ (x.o.length : Int) := by omega
  clear h
  go_enter Tryd.func70, Tryd.ntmps70
  go_wp2_with (go_at_call 48; refine (step_refuse_yes' _ (by first | rfl | (simp; omega)) _ _).mono ?_; unfold thrown; rintro e w1 ⟨rfl, rfl⟩)
  exact ⟨rfl, rfl, rfl⟩
end
end Go.Proofs.YthapfaohnliklaaDoor
