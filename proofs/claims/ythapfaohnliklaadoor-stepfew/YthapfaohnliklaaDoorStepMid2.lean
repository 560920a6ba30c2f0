/- package step: what the machine's greater methods do to it. -/
import Derived.Test.YthapfaohnliklaaDoorRows
import Derived.Test.YthapfaohnliklaaDoorBits
import Derived.Test.YthapfaohnliklaaDoorKeyPure
import Derived.Test.YthapfaohnliklaaDoorCellPure
import Derived.Test.YthapfaohnliklaaDoorValsArg
import Derived.Test.YthapfaohnliklaaDoorMemPure
import Derived.Test.YthapfaohnliklaaDoorNum
import Derived.Test.YthapfaohnliklaaDoorKeyCov
import Derived.Test.YthapfaohnliklaaDoorKeySeal
import Derived.Test.YthapfaohnliklaaDoorInstDev
import Derived.Test.YthapfaohnliklaaDoorMachArg
import Derived.Test.YthapfaohnliklaaDoorStepOff
import Derived.Test.YthapfaohnliklaaDoorStepSmall
import Derived.Test.YthapfaohnliklaaDoorStepMid
import Derived.WalkKit
import Derived.ProofKit
import Derived.OpenShut
import Derived.WalkLawsBesides
import Derived.RegionCalls
namespace Go.Proofs.YthapfaohnliklaaDoor
open Go.ChangeShapes Go.WideShapes Go.ChangeAt Go.RowKit
set_option linter.unusedSimpArgs false
set_option linter.unusedVariables false
set_option maxRecDepth 100000

section
variable {w : World} {S bb : Nat} {x : MC} {q : MA} {i : ID} {n : K5} {k : Nat} {v : MV}
set_option maxHeartbeats 400000 in
theorem step_ask (h : St w S bb x q i n) (hb : i.b = (k : Int)) (hv : x.r[k]? = some v) (hc : 1 ≤ i.c ∧ i.c ≤ 5) (hi : v.i = true) :
    Calls Tryd.prog 66 #[.pointer (some ⟨S, 0, none⟩)] w fun r w' => r = .returned (.int .i64 (askI v i.c)) ∧ Below w.heap.size w w' := by
  have hic := h.cells.ic
  have hib := h.cells.ib
  rw [hb] at hib
  have cK := fun (w' : World) (hb : Below w.heap.size w w') => step_key_yes (h.below hb) hv hi
  have HK : Hid (∀ w', Below w.heap.size w w' → w'.cell? ⟨S, 67, none⟩ = some (.int .i64 i.c) ∧ S < w'.heap.size) := fun w' hb => ⟨(h.below hb).cells.ic, (h.below hb).box.lt⟩
  clear h
  generalize i.c = c at *
  have h5 : c = 1 ∨ c = 2 ∨ c = 3 ∨ c = 4 ∨ c = 5 := by omega
  unfold askI
  rcases h5 with rfl | rfl | rfl | rfl | rfl
  all_goals
    simp only [if_pos, if_neg, reduceIte, Int.reduceEq]
    clear hc
    go_enter Tryd.func66, Tryd.ntmps66
    go_wp2_with (go_at_call 57; refine (cK _ (Below.refl _ _)).mono ?_; rintro e w1 ⟨rfl, hbb⟩; have hB1 := hbb; obtain ⟨h67, hlt⟩ := HK.out _ hbb; have n1 : ¬ S = w1.heap.size := (by omega); have n2 : ¬ w1.heap.size = S := (by omega); clear hbb hic)
    go_ret
    exact ⟨rfl, hB1.alloc hB1.size _⟩
set_option maxHeartbeats 400000 in
theorem step_ask_no (h : St w S bb x q i n) (hb : i.b = (k : Int)) (hv : x.r[k]? = some v) (hc : ¬ i.c = 0) (hi : v.i = false) :
    Calls Tryd.prog 66 #[.pointer (some ⟨S, 0, none⟩)] w fun r w' => r = thrown .u ∧ Below w.heap.size w w' := by
  have hic := h.cells.ic
  have hib := h.cells.ib
  rw [hb] at hib
  have g1 : (i.c == 0) = false := by simpa using hc
  have cK := step_key_no h hv hi
  clear h
  go_enter Tryd.func66, Tryd.ntmps66
  go_wp2_with (go_at_call 57; refine cK.mono ?_; unfold thrown; rintro e w1 ⟨rfl, hbb⟩)
  exact ⟨rfl, rfl, hbb⟩
/-- Is bit k of c set? -/
def bitC (c : Int) (k : Nat) : Bool := bits .and .i64 (c / 2 ^ k) 1 == 1
def clrN (c : Int) (r : List MV) : Nat → List MV
  | 0 => r
  | k + 1 => if bitC c k = true then (clrN c r k).set k nil0 else clrN c r k
theorem clr_len (c : Int) (r : List MV) (k : Nat) : (clrN c r k).length = r.length := by
  induction k with
  | zero => rfl
  | succ k ih =>
    unfold clrN
    split
    · rw [List.length_set, ih]
    · exact ih
set_option maxHeartbeats 1000000 in
theorem step_clear (h : St w S bb x q i n) (hc : 0 ≤ i.c ∧ i.c ≤ 255) :
    Calls Tryd.prog 69 #[.pointer (some ⟨S, 0, none⟩)] w fun r w' => r = .returned (.tuple #[]) ∧ Off S w w' ∧ St w' S bb { x with r := clrN i.c x.r 8 } q i n := by
  have H0 : Hid (St w S bb x q i n) := h
  clear h
  go_enter Tryd.func69, Tryd.ntmps69
  go_wp2
  go_loopw [3] (fun j wr => ∃ k : Nat, k ≤ 8 ∧ j = .int .i64 (k : Int) ∧ Off S w wr ∧ St wr S bb { x with r := clrN i.c x.r k } q i n) (fun j _ => 8 - (intOf j).toNat)
  case atStart => exact ⟨0, Nat.zero_le _, rfl, Off.refl _ _, H0.out⟩
  case round =>
    obtain ⟨k, hk, rfl, hO, hS⟩ := hrel
    have HS : Hid (St wr S bb { x with r := clrN i.c x.r k } q i n) := hS
    have hic := hS.cells.ic
    by_cases hlt : k < 8
    · have gk : (k : Int) < 8 := by omega
      obtain ⟨v, hv⟩ := hS.reg? hlt
      obtain ⟨c0, c1, c2, c3, c4, c5, c6⟩ := hS.reg hv
      have f := hS.box.free
      have HP := St.put hS hlt nil0
      have HP' : Hid (_ ∧ _) := HP
      have HC : Hid (clrN i.c x.r (k + 1) = if bitC i.c k = true then (clrN i.c x.r k).set k nil0 else clrN i.c x.r k) := rfl
      cases hb : bitC i.c k
      · have gb : (bits .and .i64 (i.c / 2 ^ k) 1 == 1) = false := hb
        clear hv hS HP
        go_wp2
        go_roundw
        case rel =>
          refine ⟨k + 1, by omega, rfl, hO, ?_⟩
          rw [HC.out, if_neg (by rw [hb]; decide)]
          exact HS.out
        case measure => simp [intOf]; omega
      · have gb : (bits .and .i64 (i.c / 2 ^ k) 1 == 1) = true := hb
        clear hv hS HP
        go_wp2
        go_roundw
        case rel =>
          refine ⟨k + 1, by omega, rfl, hO.trans HP'.out.2, ?_⟩
          rw [HC.out, if_pos hb]
          exact HP'.out.1
        case measure => simp [intOf]; omega
    · obtain rfl : k = 8 := by omega
      clear hS hic
      go_wp2
      go_end0
      exact ⟨rfl, hO, HS.out⟩
end
end Go.Proofs.YthapfaohnliklaaDoor
