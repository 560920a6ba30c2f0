/- Chapter 7: the text of a label, an empty line, an instruction and a jump to the label, as it is read; without any program. -/
import Derived.Test.YtpggmmnjfofgcaaDoorRows
import Derived.Test.YtpggmmnjfofgcaaDoorInstShape
import Derived.Test.YtpggmmnjfofgcaaDoorInstDev
import Derived.Test.YtpggmmnjfofgcaaDoorTextPure
import Derived.Test.YtpggmmnjfofgcaaDoorParsePure
import Derived.Test.YtpggmmnjfofgcaaDoorInstParse2
import Derived.Test.YtpggmmnjfofgcaaDoorSplitPure
import Derived.Test.YtpggmmnjfofgcaaDoorNamePure
import Derived.Test.YtpggmmnjfofgcaaDoorProgPure
import Derived.Test.YtpggmmnjfofgcaaDoorProgFacts
import Derived.Test.YtpggmmnjfofgcaaDoorLinesPure
namespace Go.Proofs.YtpggmmnjfofgcaaDoor
open Go.Lib

theorem itoa_1 : itoa 1 = [49] := by
  unfold itoa
  rw [if_neg (by decide), decDigits, dif_pos (by decide)]
  rfl
theorem itoa_5 : itoa 5 = [53] := by
  unfold itoa
  rw [if_neg (by decide), decDigits, dif_pos (by decide)]
  rfl
theorem parse_set : parseD [115, 101, 116, 32, 114, 49, 32, 53] = ⟨1, 1, 0, 5, 0⟩ := by
  have h : chkD 1 1 0 5 = 0 := by decide +kernel
  have e : textL (1 : Int).toNat 1 0 5 = [115, 101, 116, 32, 114, 49, 32, 53] := by
    show shW 1 ++ tellL (shA 1) 1 ++ tellL (shB 1) 0 ++ tellL (shC 1) 5 = _
    have hA : shA 1 = 1 := by decide
    have hB : shB 1 = 0 := by decide
    have hC : shC 1 = 2 := by decide
    rw [hA, hB, hC]
    unfold tellL
    rw [itoa_1, itoa_5]
    rfl
  rw [← e]
  exact parse_text h
theorem parse_jump0 : parseD [106, 117, 109, 112, 32, 48] = ⟨8, 0, 0, 0, 0⟩ := by
  have h : chkD 8 0 0 0 = 0 := by decide +kernel
  have e : textL (8 : Int).toNat 0 0 0 = [106, 117, 109, 112, 32, 48] := by
    show shW 8 ++ tellL (shA 8) 0 ++ tellL (shB 8) 0 ++ tellL (shC 8) 0 = _
    have hA : shA 8 = 0 := by decide
    have hB : shB 8 = 0 := by decide
    have hC : shC 8 = 2 := by decide
    rw [hA, hB, hC]
    unfold tellL
    rw [itoa_0]
    rfl
  rw [← e]
  exact parse_text h
/-- 'jump a' is no instruction: no digits are a letter. -/
theorem parse_jumpa : parseD [106, 117, 109, 112, 32, 97] = ⟨0, 0, 0, 0, 3⟩ := by
  rcases parse_cases [106, 117, 109, 112, 32, 97] with ⟨h, _⟩ | ⟨_, h1, h2⟩
  · exact h
  · exfalso
    have r := chkD_ok h1
    generalize (parseD [106, 117, 109, 112, 32, 97]).a = a at *
    generalize (parseD [106, 117, 109, 112, 32, 97]).b = b at *
    generalize (parseD [106, 117, 109, 112, 32, 97]).c = c at *
    obtain ⟨n, hn⟩ := Int.eq_ofNat_of_zero_le r.1.1
    rw [hn] at h1 h2 r
    have hn23 : n < 23 := by omega
    have h3 : textL n a b c = [106, 117, 109, 112, 32, 97] := h2
    have hc := text_cut n hn23 a b c
    rw [h3] at hc
    have hw : shW n = [106, 117, 109, 112] := hc.symm.trans rfl
    have h8 : n = 8 := by
      have e1 := op_word n hn23
      rw [hw] at e1
      have e2 : opL [106, 117, 109, 112] = 8 := by decide +kernel
      omega
    subst h8
    have h4 : shW 8 ++ tellL (shA 8) a ++ tellL (shB 8) b ++ tellL (shC 8) c = [106, 117, 109, 112, 32, 97] := h3
    have hA : shA 8 = 0 := by decide
    have hB : shB 8 = 0 := by decide
    have hC : shC 8 = 2 := by decide
    rw [hA, hB, hC] at h4
    have h5 : [106, 117, 109, 112, 32] ++ itoa c = [106, 117, 109, 112, 32] ++ [97] := h4
    have h6 := List.append_cancel_left h5
    unfold itoa at h6
    split at h6
    · injection h6 with h8 _
      cases h8
    · have := dec_dig c.toNat 97 (by rw [h6]; simp)
      revert this
      decide
def exL : List UInt8 := [97, 58, 10, 10, 115, 101, 116, 32, 114, 49, 32, 53, 10, 106, 117, 109, 112, 32, 97]
theorem read_ex : ∃ x y, readS exL = ⟨[x, y], [⟨[97], 0⟩], 0, 0⟩ := by
  have hs : sp 10 exL = [[97, 58], [], [115, 101, 116, 32, 114, 49, 32, 53], [106, 117, 109, 112, 32, 97]] := by decide
  have c1 : cellL [115, 101, 116, 32, 114, 49, 32, 53] = some (numD 1 1 0 5) := by
    unfold cellL
    rw [if_neg (by decide), parse_set, if_pos rfl]
  have c2 : cellL [106, 117, 109, 112, 32, 97] = none := by
    unfold cellL
    rw [if_neg (by decide), parse_jumpa, if_neg (by decide)]
  have c3 : jumpL [106, 117, 109, 112, 32, 97] = some ⟨8, 0, 0, 0, [97]⟩ := by
    refine (jumpL_at (l := [106, 117, 109, 112, 32, 97]) (p := [106, 117, 109, 112]) (q := [97]) rfl (by decide)).trans ?_
    rw [if_neg (by decide)]
    have e : ([106, 117, 109, 112] ++ [32, 48] : List UInt8) = [106, 117, 109, 112, 32, 48] := rfl
    rw [e, parse_jump0]
    rfl
  have t1 : takeS ⟨[], [], []⟩ ((1 : Nat) : Int) [97, 58] = (⟨[], [⟨[97], 0⟩], []⟩, 0) := by
    unfold takeS
    rw [if_neg (by decide), if_neg (by decide), if_pos (by decide)]
    unfold takeLb
    rw [if_neg (by decide), if_neg (by decide), if_neg (by decide)]
    rfl
  have t3 : takeS ⟨[], [⟨[97], 0⟩], []⟩ ((3 : Nat) : Int) [115, 101, 116, 32, 114, 49, 32, 53] = (⟨[numD 1 1 0 5], [⟨[97], 0⟩], []⟩, 0) := by
    unfold takeS
    rw [if_neg (by decide), if_neg (by decide), if_neg (by decide)]
    unfold takeCl
    rw [c1]
    rfl
  have t4 : takeS ⟨[numD 1 1 0 5], [⟨[97], 0⟩], []⟩ ((4 : Nat) : Int) [106, 117, 109, 112, 32, 97] = (⟨[numD 1 1 0 5, 0], [⟨[97], 0⟩], [⟨4, 1, ⟨8, 0, 0, 0, [97]⟩⟩]⟩, 0) := by
    unfold takeS
    rw [if_neg (by decide), if_neg (by decide), if_neg (by decide)]
    unfold takeCl
    rw [c2, c3]
    rfl
  have hg : goS ⟨[], [], []⟩ 1 (sp 10 exL) = (⟨[numD 1 1 0 5, 0], [⟨[97], 0⟩], [⟨4, 1, ⟨8, 0, 0, 0, [97]⟩⟩]⟩, 0, 0) := by
    rw [hs, goS, t1, if_pos rfl]
    dsimp only
    rw [goS, take_nil, if_pos rfl]
    dsimp only
    rw [goS, t3, if_pos rfl]
    dsimp only
    rw [goS, t4, if_pos rfl]
    rfl
  have hj : joinS [⟨[97], 0⟩] [numD 1 1 0 5, 0] [⟨4, 1, ⟨8, 0, 0, 0, [97]⟩⟩] = ([numD 1 1 0 5, numD 8 0 0 (-1)], 0, 0) := by
    have hc : chkD 8 0 0 (0 - 1) = 0 := by decide +kernel
    rw [joinS]
    show (if chkD 8 0 0 (0 - 1) = 0 then _ else _) = _
    rw [if_pos hc]
    rfl
  exact ⟨_, _, readS_ok (by decide) hg hj⟩
end Go.Proofs.YtpggmmnjfofgcaaDoor
