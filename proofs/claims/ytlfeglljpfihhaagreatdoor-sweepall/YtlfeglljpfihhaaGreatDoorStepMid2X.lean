/- package step: what the machine's greater methods do to it. package step: tell and back; a machine with lists of its own. -/
import Derived.Test.YtlfeglljpfihhaaGreatDoorRows
import Derived.Test.YtlfeglljpfihhaaGreatDoorCardBaseX
import Derived.Test.YtlfeglljpfihhaaGreatDoorValArgX
import Derived.Test.YtlfeglljpfihhaaGreatDoorMemPureX
import Derived.Test.YtlfeglljpfihhaaGreatDoorMemChkX
import Derived.Test.YtlfeglljpfihhaaGreatDoorKeyCovX
import Derived.Test.YtlfeglljpfihhaaGreatDoorKeySealX
import Derived.Test.YtlfeglljpfihhaaGreatDoorStepRowX
import Derived.Test.YtlfeglljpfihhaaGreatDoorStepOffX
import Derived.Test.YtlfeglljpfihhaaGreatDoorStepOwnedX
import Derived.Test.YtlfeglljpfihhaaGreatDoorStepMidX
import Derived.WalkKit
import Derived.ProofKit
import Derived.OpenShut
import Derived.WalkLawsBesides
import Derived.RegionCalls
import Derived.ArgAppend
import Derived.OwnWalk
namespace Go.Proofs.YtlfeglljpfihhaaGreatDoor
section
open Go.ChangeShapes Go.WideShapes Go.ChangeAt Go.RowKit
set_option linter.unusedSimpArgs false
set_option linter.unusedVariables false
set_option maxRecDepth 100000

section
variable {w : World} {S bb : Nat} {x : MC} {q : MA} {i : ID} {n : K5} {k : Nat} {v : MV}
set_option maxHeartbeats 400000 in
theorem step_ask (h : St w S bb x q i n) (hb : i.b = (k : Int)) (hv : x.r[k]? = some v) (hc : 1 ≤ i.c ∧ i.c ≤ 5) (hi : v.i = true) :
    Calls Tryz.prog 91 #[.pointer (some ⟨S, 0, none⟩)] w fun r w' => r = .returned (.int .i64 (askI v i.c)) ∧ Below w.heap.size w w' := by
  have hic := h.cells.ic
  have hib := h.cells.ib
  rw [hb] at hib
  have cK := fun (w' : World) (hb : Below w.heap.size w w') => step_key_yes (h.below hb) hv hi
  have HK : Hid (∀ w', Below w.heap.size w w' → w'.cell? ⟨S, 67, none⟩ = some (.int .i64 i.c) ∧ S < w'.heap.size) := fun w' hb => ⟨(h.below hb).cells.ic, (h.below hb).box.lt⟩
  clear h
  generalize i.c = c at *
  have h5 : c = 1 ∨ c = 2 ∨ c = 3 ∨ c = 4 ∨ c = 5 := by omega
  unfold askI
  rcases h5 with rfl | rfl | rfl | rfl | rfl
  all_goals
    simp only [if_pos, if_neg, reduceIte, Int.reduceEq]
    clear hc
    go_enter Tryz.func91, Tryz.ntmps91
    go_wp2_with (go_at_call 82; refine (cK _ (Below.refl _ _)).mono ?_; rintro e w1 ⟨rfl, hbb⟩; have hB1 := hbb; obtain ⟨h67, hlt⟩ := HK.out _ hbb; have n1 : ¬ S = w1.heap.size := (by omega); have n2 : ¬ w1.heap.size = S := (by omega); clear hbb hic)
    go_ret
    exact ⟨rfl, hB1.alloc hB1.size _⟩
set_option maxHeartbeats 400000 in
theorem step_ask_no (h : St w S bb x q i n) (hb : i.b = (k : Int)) (hv : x.r[k]? = some v) (hc : ¬ i.c = 0) (hi : v.i = false) :
    Calls Tryz.prog 91 #[.pointer (some ⟨S, 0, none⟩)] w fun r w' => r = thrown .u ∧ Below w.heap.size w w' := by
  have hic := h.cells.ic
  have hib := h.cells.ib
  rw [hb] at hib
  have g1 : (i.c == 0) = false := by simpa using hc
  have cK := step_key_no h hv hi
  clear h
  go_enter Tryz.func91, Tryz.ntmps91
  go_wp2_with (go_at_call 82; refine cK.mono ?_; unfold thrown; rintro e w1 ⟨rfl, hbb⟩)
  exact ⟨rfl, rfl, hbb⟩
/-- Is bit k of c set? -/
def bitC (c : Int) (k : Nat) : Bool := bits .and .i64 (c / 2 ^ k) 1 == 1
def clrN (c : Int) (r : List MV) : Nat → List MV
  | 0 => r
  | k + 1 => if bitC c k = true then (clrN c r k).set k nil0 else clrN c r k
theorem clr_len (c : Int) (r : List MV) (k : Nat) : (clrN c r k).length = r.length := by
  induction k with
  | zero => rfl
  | succ k ih =>
    unfold clrN
    split
    · rw [List.length_set, ih]
    · exact ih
set_option maxHeartbeats 1000000 in
theorem step_clear (h : St w S bb x q i n) (hc : 0 ≤ i.c ∧ i.c ≤ 255) :
    Calls Tryz.prog 94 #[.pointer (some ⟨S, 0, none⟩)] w fun r w' => r = .returned (.tuple #[]) ∧ Off S w w' ∧ St w' S bb { x with r := clrN i.c x.r 8 } q i n := by
  have H0 : Hid (St w S bb x q i n) := h
  clear h
  go_enter Tryz.func94, Tryz.ntmps94
  go_wp2
  go_loopw [3] (fun j wr => ∃ k : Nat, k ≤ 8 ∧ j = .int .i64 (k : Int) ∧ Off S w wr ∧ St wr S bb { x with r := clrN i.c x.r k } q i n) (fun j _ => 8 - (intOf j).toNat)
  case atStart => exact ⟨0, Nat.zero_le _, rfl, Off.refl _ _, H0.out⟩
  case round =>
    obtain ⟨k, hk, rfl, hO, hS⟩ := hrel
    have HS : Hid (St wr S bb { x with r := clrN i.c x.r k } q i n) := hS
    have hic := hS.cells.ic
    by_cases hlt : k < 8
    · have gk : (k : Int) < 8 := by omega
      obtain ⟨v, hv⟩ := hS.reg? hlt
      obtain ⟨c0, c1, c2, c3, c4, c5, c6⟩ := hS.reg hv
      have f := hS.box.free
      have HP := St.put hS hlt nil0
      have HP' : Hid (_ ∧ _) := HP
      have HC : Hid (clrN i.c x.r (k + 1) = if bitC i.c k = true then (clrN i.c x.r k).set k nil0 else clrN i.c x.r k) := rfl
      cases hb : bitC i.c k
      · have gb : (bits .and .i64 (i.c / 2 ^ k) 1 == 1) = false := hb
        clear hv hS HP
        go_wp2
        go_roundw
        case rel =>
          refine ⟨k + 1, by omega, rfl, hO, ?_⟩
          rw [HC.out, if_neg (by rw [hb]; decide)]
          exact HS.out
        case measure => simp [intOf]; omega
      · have gb : (bits .and .i64 (i.c / 2 ^ k) 1 == 1) = true := hb
        clear hv hS HP
        go_wp2
        go_roundw
        case rel =>
          refine ⟨k + 1, by omega, rfl, hO.trans HP'.out.2, ?_⟩
          rw [HC.out, if_pos hb]
          exact HP'.out.1
        case measure => simp [intOf]; omega
    · obtain rfl : k = 8 := by omega
      clear hS hic
      go_wp2
      go_end0
      exact ⟨rfl, hO, HS.out⟩
end
end
section
open Go.ChangeShapes Go.WideShapes Go.ChangeAt Go.RowKit
set_option linter.unusedSimpArgs false
set_option linter.unusedVariables false
set_option maxRecDepth 100000

section
variable {w : World} {S bb : Nat} {x : MC} {q : MA} {i : ID} {n : K5} {k : Nat} {v : MV}
theorem st_len (h8 : x.r.length = 8) : (stC x q i n).length = 73 := by unfold stC; rw [List.length_append, mc_len h8]; rfl
theorem st_set (h8 : x.r.length = 8) (j : Nat) (u : Value) (hj : j < 8) : (stC x q i n).set (56 + j) u = x.r.flatMap mvC ++ (mcT x q).set j u ++ stT i n := by
  have hl : (x.r.flatMap mvC).length = 56 := by rw [mv_len, h8]
  unfold stC mcC
  rw [List.append_assoc, List.set_append_right _ _ (by omega), hl, Nat.add_sub_cancel_left, List.set_append_left _ _ (by show j < 8; exact hj), List.append_assoc]
theorem St.setO (h : St w S bb x q i n) (ns : List Int) (a : Option Addr) (c : Nat) (hr : RowAt w a (ns.map nmC)) (hf : Far S bb a) (hc : ns.length ≤ c) :
    St (w.setCell ⟨S, 63, none⟩ (.slice a ns.length c)) S bb { x with o := ns } { q with o := a, co := c } i n ∧ Off S w (w.setCell ⟨S, 63, none⟩ (.slice a ns.length c)) := by
  have hO : Off S w (w.setCell ⟨S, 63, none⟩ (.slice a ns.length c)) := (Off.refl _ _).set _ _
  have e : (stC x q i n).set 63 (.slice a ns.length c) = stC { x with o := ns } { q with o := a, co := c } i n := st_set h.r8 7 _ (by omega)
  have b := h.box.setL (v := .slice a ns.length c) (j := 63) (by rw [st_len h.r8]; omega)
  rw [e] at b
  exact ⟨⟨b, ⟨(hO.mc h.at_ h.far).m, (hO.mc h.at_ h.far).s, hO.row hr hf, hc, h.at_.c.2⟩, ⟨h.far.m, h.far.s, hf⟩, h.r8, Nat.lt_of_lt_of_le h.lb hO.size⟩, hO⟩
theorem St.setS (h : St w S bb x q i n) (fs : List FR) (a : Option Addr) (c : Nat) (hr : RowAt w a (fs.flatMap frC)) (hf : Far S bb a) :
    St (w.setCell ⟨S, 62, none⟩ (.slice a fs.length c)) S bb { x with s := fs } { q with s := a, cs := c } i n ∧ Off S w (w.setCell ⟨S, 62, none⟩ (.slice a fs.length c)) := by
  have hO : Off S w (w.setCell ⟨S, 62, none⟩ (.slice a fs.length c)) := (Off.refl _ _).set _ _
  have e : (stC x q i n).set 62 (.slice a fs.length c) = stC { x with s := fs } { q with s := a, cs := c } i n := st_set h.r8 6 _ (by omega)
  have b := h.box.setL (v := .slice a fs.length c) (j := 62) (by rw [st_len h.r8]; omega)
  rw [e] at b
  exact ⟨⟨b, ⟨(hO.mc h.at_ h.far).m, hO.row hr hf, (hO.mc h.at_ h.far).o, h.at_.c⟩, ⟨h.far.m, hf, h.far.o⟩, h.r8, Nat.lt_of_lt_of_le h.lb hO.size⟩, hO⟩
theorem St.setM (h : St w S bb x q i n) (vs : List MV) (a : Option Addr) (c : Nat) (hr : RowAt w a (vs.flatMap mvC)) (hf : Far S bb a) (hcm : vs.length ≤ c ∧ c ≤ maxLen) :
    St (w.setCell ⟨S, 61, none⟩ (.slice a vs.length c)) S bb { x with m := vs } { q with m := a, cm := c } i n ∧ Off S w (w.setCell ⟨S, 61, none⟩ (.slice a vs.length c)) := by
  have hO : Off S w (w.setCell ⟨S, 61, none⟩ (.slice a vs.length c)) := (Off.refl _ _).set _ _
  have e : (stC x q i n).set 61 (.slice a vs.length c) = stC { x with m := vs } { q with m := a, cm := c } i n := st_set h.r8 5 _ (by omega)
  have b := h.box.setL (v := .slice a vs.length c) (j := 61) (by rw [st_len h.r8]; omega)
  rw [e] at b
  exact ⟨⟨b, ⟨RowAt.vals (hO.row hr hf), (hO.mc h.at_ h.far).s, (hO.mc h.at_ h.far).o, h.at_.c.1, hcm⟩, ⟨hf, h.far.s, h.far.o⟩, h.r8, Nat.lt_of_lt_of_le h.lb hO.size⟩, hO⟩
/-- The key by which it goes on is another one. -/
theorem St.setN (h : St w S bb x q i n) (m : K5) :
    St (((((w.setCell ⟨S, 68, none⟩ (.int .i64 m.p)).setCell ⟨S, 69, none⟩ (.int .i64 m.b)).setCell ⟨S, 70, none⟩ (.int .i64 m.l)).setCell ⟨S, 71, none⟩ (.int .i64 m.a)).setCell ⟨S, 72, none⟩ (.int .i64 m.s)) S bb x q i m ∧
    Off S w (((((w.setCell ⟨S, 68, none⟩ (.int .i64 m.p)).setCell ⟨S, 69, none⟩ (.int .i64 m.b)).setCell ⟨S, 70, none⟩ (.int .i64 m.l)).setCell ⟨S, 71, none⟩ (.int .i64 m.a)).setCell ⟨S, 72, none⟩ (.int .i64 m.s)) := by
  have hO : Off S w (((((w.setCell ⟨S, 68, none⟩ (.int .i64 m.p)).setCell ⟨S, 69, none⟩ (.int .i64 m.b)).setCell ⟨S, 70, none⟩ (.int .i64 m.l)).setCell ⟨S, 71, none⟩ (.int .i64 m.a)).setCell ⟨S, 72, none⟩ (.int .i64 m.s)) := (((((Off.refl _ _).set _ _).set _ _).set _ _).set _ _).set _ _
  have e : ((((((stC x q i n).set 68 (.int .i64 m.p)).set 69 (.int .i64 m.b)).set 70 (.int .i64 m.l)).set 71 (.int .i64 m.a)).set 72 (.int .i64 m.s)) = stC x q i m := by
    unfold stC
    have hl := mc_len (q := q) h.r8
    rw [List.set_append_right _ _ (by omega), List.set_append_right _ _ (by omega), List.set_append_right _ _ (by omega), List.set_append_right _ _ (by omega), List.set_append_right _ _ (by omega), hl]
    rfl
  have hl := st_len (q := q) (i := i) (n := n) h.r8
  have b := ((((h.box.setL (v := .int .i64 m.p) (j := 68) (by omega)).setL (v := .int .i64 m.b) (j := 69) (by simp only [List.length_set]; omega)).setL (v := .int .i64 m.l) (j := 70) (by simp only [List.length_set]; omega)).setL (v := .int .i64 m.a) (j := 71) (by simp only [List.length_set]; omega)).setL (v := .int .i64 m.s) (j := 72) (by simp only [List.length_set]; omega)
  rw [e] at b
  exact ⟨⟨b, hO.mc h.at_ h.far, h.far, h.r8, Nat.lt_of_lt_of_le h.lb hO.size⟩, hO⟩
theorem Far.of_le {a : Option Addr} {B : Nat} (h : ∀ y ∈ a, B ≤ y.block) (hS : S < B) (hb : bb < B) : Far S bb a := fun y hy => by have := h y hy; omega
set_option maxHeartbeats 1000000 in
theorem step_tell_yes (h : St w S bb x q i n) (hl : x.o.length < 100) (hf : q.co = x.o.length) (m : Int) :
    Calls Tryz.prog 95 #[.pointer (some ⟨S, 0, none⟩), .int .i64 m] w fun r w' => r = .returned (.tuple #[]) ∧ Off S w w' ∧ ∃ q', St w' S bb { x with o := x.o ++ [m] } q' i n := by
  obtain ⟨i0, hi, hz0, hz1, hz2⟩ := info_ints
  have hlo := h.cells.lo
  rw [hf] at hlo
  have hlt := h.box.lt
  have n1 : ¬ S = w.heap.size := by omega
  have n2 : ¬ w.heap.size = S := by omega
  have g : ¬ (100 : Int) ≤ (x.o.length : Int) := by omega
  have HH : Hid (St w S bb x q i n) := h
  have hnone : q.o = none → x.o.length = 0 ∧ x.o.length = 0 := fun e => by
    rcases h.at_.o with h0 | ⟨B, off, e2, _⟩
    · have : x.o = [] := by cases hx : x.o with | nil => rfl | cons a b => rw [hx] at h0; cases h0
      rw [this]; exact ⟨rfl, rfl⟩
    · rw [e] at e2; cases e2
  have holds : ∀ b, q.o = some b → ∀ j u, (x.o.map nmC)[j]? = some u → (w.alloc (.cells #[.int .i64 m] 3)).cell? (b.add j) = some u := fun b eb j u hj => by
    rcases h.at_.o with h0 | ⟨B, off, e2, hB, hc⟩
    · rw [h0] at hj; simp at hj
    · rw [eb] at e2
      injection e2 with e2
      subst e2
      rw [addr_add, cell_old _ _ _ _ hB]
      exact hc j u hj
  have HX : Hid ((q.o = none → x.o.length = 0 ∧ x.o.length = 0) ∧ ∀ b, q.o = some b → ∀ j u, (x.o.map nmC)[j]? = some u → (w.alloc (.cells #[.int .i64 m] 3)).cell? (b.add j) = some u) := ⟨hnone, holds⟩
  have hlen : (x.o.map nmC).length = x.o.length * 1 := by rw [List.length_map, Nat.mul_one]
  have HN : Hid ((x.o.map nmC).length = x.o.length * 1) := hlen
  clear hnone holds hlen h
  go_enter Tryz.func95, Tryz.ntmps95
  go_wp2_with (first | (go_at_call 73; refine (step_refuse_no' _ (by first | rfl | (simp; omega)) _ _).mono ?_; rintro e w0 ⟨rfl, hw0⟩; obtain rfl := hw0.symm) | (at_builtin; refine wpList_append_grows _ rfl _ _ _ rfl 3 i0 _ 1 8 Tryz.underlying29 hi hz0 hz1 hz2 rfl (by decide) q.o x.o.length x.o.length (x.o.map nmC) rfl HX.out.1 HN.out HX.out.2 ⟨w.heap.size, 0, none⟩ 1 1 [nmC m] rfl rfl (fun j u hj => by rw [addr_add, Nat.zero_add, cell_new]; exact (List.getElem?_toArray (xs := [nmC m])).trans hj) (nm_one [m]) (by omega) (by unfold maxLen; omega) (by omega) ?_; intro V w1 hown hgrow; obtain ⟨a, c, hV, hcap, hrow, hfar⟩ := own_row hown; rw [hV]; have hb := Below.grown (Below.refl _ _) hgrow (Nat.le_refl _) (fun k e => by cases e); have hst := (HH.out.below ((Below.refl _ _).alloc (Nat.le_refl _) _)).below hb; have hO1 := ((Off.refl S w).alloc _).below hb; have c63 := hst.cells.lo; have f63 := hst.box.free 63; have hFar : Far S bb a := Far.of_le hfar (by simp; omega) (by have := HH.out.lb; simp; omega); rw [show x.o.map nmC ++ [nmC m] = (x.o ++ [m]).map nmC from (by rw [List.map_append]; rfl)] at hrow; have HR : Hid (St w1 S bb x q i n ∧ RowAt w1 a ((x.o ++ [m]).map nmC) ∧ Far S bb a ∧ (x.o ++ [m]).length ≤ c) := ⟨hst, hrow, hFar, by rw [List.length_append]; exact hcap⟩; clear hst hrow hFar hfar hown hgrow hb HX HN hV hlo))
  go_end0
  obtain ⟨s1, s2, s3, s4⟩ := HR.out
  obtain ⟨p1, p2⟩ := s1.setO (x.o ++ [m]) a c s2 s3 s4
  rw [show (x.o ++ [m]).length = x.o.length + 1 from (by simp)] at p1 p2
  exact ⟨rfl, hO1.trans p2, _, p1⟩
set_option maxHeartbeats 1000000 in
theorem step_tell_no (h : St w S bb x q i n) (hl : 100 ≤ x.o.length) (m : Int) :
    Calls Tryz.prog 95 #[.pointer (some ⟨S, 0, none⟩), .int .i64 m] w fun r w' => r = thrown (.e 9) ∧ w' = w := by
  have hlo := h.cells.lo
  have g : (100 : Int) ≤ (x.o.length : Int) := by omega
  clear h
  go_enter Tryz.func95, Tryz.ntmps95
  go_wp2_with (go_at_call 73; refine (step_refuse_yes' _ (by first | rfl | (simp; omega)) _ _).mono ?_; unfold thrown; rintro e w1 ⟨rfl, rfl⟩)
  exact ⟨rfl, rfl, rfl⟩
end
end
end Go.Proofs.YtlfeglljpfihhaaGreatDoor
