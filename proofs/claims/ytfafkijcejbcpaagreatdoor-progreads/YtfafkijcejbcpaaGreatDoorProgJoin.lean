/- package prog: take, one line; join, the cells that wait. -/
import Derived.Test.YtfafkijcejbcpaaGreatDoorRows
import Derived.Test.YtfafkijcejbcpaaGreatDoorKeyPure
import Derived.Test.YtfafkijcejbcpaaGreatDoorShelf
import Derived.Test.YtfafkijcejbcpaaGreatDoorInstShape
import Derived.Test.YtfafkijcejbcpaaGreatDoorInstLaid
import Derived.Test.YtfafkijcejbcpaaGreatDoorInstDev
import Derived.Test.YtfafkijcejbcpaaGreatDoorInstOp
import Derived.Test.YtfafkijcejbcpaaGreatDoorTextPure
import Derived.Test.YtfafkijcejbcpaaGreatDoorProgPure
import Derived.Test.YtfafkijcejbcpaaGreatDoorProgSmall
import Derived.Test.YtfafkijcejbcpaaGreatDoorProgState
import Derived.Test.YtfafkijcejbcpaaGreatDoorProgTake
import Derived.Test.YtfafkijcejbcpaaGreatDoorProgLabel
import Derived.WalkKit
import Derived.ProofKit
import Derived.Laws.Closers25
namespace Go.Proofs.YtfafkijcejbcpaaGreatDoor
open Go.ChangeShapes Go.WideShapes Go.ChangeAt Go.RowKit
set_option linter.unusedSimpArgs false

set_option maxRecDepth 100000 in
set_option maxHeartbeats 2000000 in
theorem prog_take (st : PS) (B : Nat) (v1 v2 v3 : Value) (n : Int) (l : List UInt8) (w : World) (hS : Shp w) (hP : Pw w) (hE : Er w) (h : PI w B v1 v2 v3 st) (hn1 : st.cells.length ≤ 150) (hn2 : st.labels.length ≤ 150) (hn3 : st.leads.length ≤ 150) (hlm : l.length ≤ 140737488355328) :
    Calls Tryz.prog 10 #[.pointer (some ⟨B, 0, none⟩), .int .i64 n, .string (bL l)] w fun e w' => e = .returned (.int .i64 (takeS st n l).2) ∧ ∃ u1 u2 u3, PI w' B u1 u2 u3 (takeS st n l).1 ∧ Mv w w' B v1 v2 v3 u1 u2 u3 := by
  have zl : (bL l).size = l.length := bL_size l
  unfold takeS
  by_cases h80 : 80 < l.length
  · rw [if_pos h80]
    have g : (80 : Int) < ((bL l).size : Int) := by omega
    have gz : (bL l).size ≤ 140737488355328 := by omega
    clear zl
    generalize bL l = S at *
    go_enter Tryz.func10, Tryz.ntmps10
    go_wp2
    go_ret
    exact ⟨rfl, _, _, _, h, Mv.refl _ _ _ _ _⟩
  · rw [if_neg h80]
    have g : ¬ (80 : Int) < ((bL l).size : Int) := by omega
    have gz : (bL l).size ≤ 140737488355328 := by omega
    by_cases h0 : l = []
    · rw [if_pos h0]
      subst h0
      show Calls Tryz.prog 10 #[.pointer (some ⟨B, 0, none⟩), .int .i64 n, .string ⟨#[]⟩] w _
      go_enter Tryz.func10, Tryz.ntmps10
      go_wp2
      go_ret
      exact ⟨rfl, _, _, _, h, Mv.refl _ _ _ _ _⟩
    · rw [if_neg h0]
      have hne : (bL l).toList.isEmpty = false := by
        rw [← decide_eq_emptyBytes]
        exact decide_eq_false (fun h => h0 (bL_inj (h.trans (rfl : ByteArray.empty = bL []))))
      have cC := Tryz.strings_CutSuffix (bL l) ⟨#[58]⟩ w (by omega)
      rw [bL_list] at cC
      change Calls _ _ _ _ fun e w' => e = .returned (.tuple #[.string (bL (Lib.trimSuffix l [58])), .bool (([58] : List UInt8).isSuffixOf l)]) ∧ w' = w at cC
      clear zl
      by_cases hs : ([58] : List UInt8).isSuffixOf l = true
      · rw [if_pos hs]
        have ht : Lib.trimSuffix l [58] = l.take (l.length - 1) := by unfold Lib.trimSuffix Lib.hasSuffix; rw [if_pos hs]; rfl
        rw [hs, ht] at cC
        have cL := prog_takeLabel st B v1 v2 v3 (l.take (l.length - 1)) w h hn2 (by rw [List.length_take]; omega)
        generalize takeLb st (l.take (l.length - 1)) = R at *
        generalize bL (l.take (l.length - 1)) = T at *
        generalize bL l = S at *
        clear hs ht
        go_enter Tryz.func10, Tryz.ntmps10
        go_wp2_with (first | (go_at_call 24; refine cC.mono ?_; rintro e w' ⟨rfl, rfl⟩) | (go_at_call 25; refine cL.mono ?_; rintro e w1 ⟨rfl, hr⟩))
        go_ret
        exact ⟨rfl, hr⟩
      · rw [if_neg hs]
        rw [Bool.eq_false_iff.2 hs] at cC
        have cL := prog_takeCell st B v1 v2 v3 n l w hS hP hE h hn1 hn3 (by omega)
        generalize takeCl st n l = R at *
        generalize bL (Lib.trimSuffix l [58]) = T at *
        generalize bL l = S at *
        clear hs
        go_enter Tryz.func10, Tryz.ntmps10
        go_wp2_with (first | (go_at_call 24; refine cC.mono ?_; rintro e w' ⟨rfl, rfl⟩) | (go_at_call 26; refine cL.mono ?_; rintro e w1 ⟨rfl, hr⟩))
        go_ret
        exact ⟨rfl, hr⟩
end Go.Proofs.YtfafkijcejbcpaaGreatDoor
