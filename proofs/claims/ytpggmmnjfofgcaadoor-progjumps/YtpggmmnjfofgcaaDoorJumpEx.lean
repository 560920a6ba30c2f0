/- Chapter 7: the text of a conditional jump ahead, 'halt', a label and a jump to it, as it is read; without any program. -/
import Derived.Test.YtpggmmnjfofgcaaDoorRows
import Derived.Test.YtpggmmnjfofgcaaDoorInstShape
import Derived.Test.YtpggmmnjfofgcaaDoorInstDev
import Derived.Test.YtpggmmnjfofgcaaDoorTextPure
import Derived.Test.YtpggmmnjfofgcaaDoorParsePure
import Derived.Test.YtpggmmnjfofgcaaDoorInstParse2
import Derived.Test.YtpggmmnjfofgcaaDoorSplitPure
import Derived.Test.YtpggmmnjfofgcaaDoorNamePure
import Derived.Test.YtpggmmnjfofgcaaDoorProgPure
import Derived.Test.YtpggmmnjfofgcaaDoorProgFacts
import Derived.Test.YtpggmmnjfofgcaaDoorLinesPure
import Derived.Test.YtpggmmnjfofgcaaDoorLinesEx
import Derived.Test.YtpggmmnjfofgcaaDoorLinesMore
import Derived.Test.YtpggmmnjfofgcaaDoorJumpPure
namespace Go.Proofs.YtpggmmnjfofgcaaDoor
open Go.Lib

theorem itoa_2 : itoa 2 = [50] := by
  unfold itoa
  rw [if_neg (by decide), decDigits, dif_pos (by decide)]
  rfl
theorem parse_if0 : parseD [105, 102, 32, 114, 50, 32, 48] = ⟨9, 2, 0, 0, 0⟩ := by
  have h : chkD 9 2 0 0 = 0 := by decide +kernel
  have e : textL (9 : Int).toNat 2 0 0 = [105, 102, 32, 114, 50, 32, 48] := by
    show shW 9 ++ tellL (shA 9) 2 ++ tellL (shB 9) 0 ++ tellL (shC 9) 0 = _
    have hA : shA 9 = 1 := by decide
    have hB : shB 9 = 0 := by decide
    have hC : shC 9 = 2 := by decide
    rw [hA, hB, hC]
    unfold tellL
    rw [itoa_0, itoa_2]
    rfl
  rw [← e]
  exact parse_text h
def exJ : List UInt8 := [105, 102, 32, 114, 50, 32, 98, 10, 104, 97, 108, 116, 10, 98, 58, 10, 106, 117, 109, 112, 32, 98]
theorem read_exj : ∃ x y, readS exJ = ⟨[numD 9 2 0 2, x, y], [⟨[98], 2⟩], 0, 0⟩ := by
  have hs : sp 10 exJ = [[105, 102, 32, 114, 50, 32, 98], [104, 97, 108, 116], [98, 58], [106, 117, 109, 112, 32, 98]] := by decide
  have c1 : cellL [105, 102, 32, 114, 50, 32, 98] = none := cell_none (p := [105, 102, 32, 114, 50]) (q := [98]) rfl (by decide) (by decide) (.inr rfl)
  have c2 : cellL [104, 97, 108, 116] = some 4194304 := by
    unfold cellL
    have hc : chkD 0 0 0 0 = 0 := by decide +kernel
    have e : ([104, 97, 108, 116] : List UInt8) = textL (0 : Int).toNat 0 0 0 := by rfl
    rw [if_neg (by decide), e, parse_text hc, if_pos rfl]
    rfl
  have c4 : cellL [106, 117, 109, 112, 32, 98] = none := cell_none (p := [106, 117, 109, 112]) (q := [98]) rfl (by decide) (by decide) (.inl rfl)
  have j1 : jumpL [105, 102, 32, 114, 50, 32, 98] = some ⟨9, 2, 0, 0, [98]⟩ := by
    refine (jumpL_at (l := [105, 102, 32, 114, 50, 32, 98]) (p := [105, 102, 32, 114, 50]) (q := [98]) rfl (by decide)).trans ?_
    rw [if_neg (by decide)]
    have e : ([105, 102, 32, 114, 50] ++ [32, 48] : List UInt8) = [105, 102, 32, 114, 50, 32, 48] := rfl
    rw [e, parse_if0]
    rfl
  have j4 : jumpL [106, 117, 109, 112, 32, 98] = some ⟨8, 0, 0, 0, [98]⟩ := by
    refine (jumpL_at (l := [106, 117, 109, 112, 32, 98]) (p := [106, 117, 109, 112]) (q := [98]) rfl (by decide)).trans ?_
    rw [if_neg (by decide)]
    have e : ([106, 117, 109, 112] ++ [32, 48] : List UInt8) = [106, 117, 109, 112, 32, 48] := rfl
    rw [e, parse_jump0]
    rfl
  have t1 : takeS ⟨[], [], []⟩ ((1 : Nat) : Int) [105, 102, 32, 114, 50, 32, 98] = (⟨[0], [], [⟨1, 0, ⟨9, 2, 0, 0, [98]⟩⟩]⟩, 0) := by
    unfold takeS
    rw [if_neg (by decide), if_neg (by decide), if_neg (by decide)]
    unfold takeCl
    rw [c1, j1]
    rfl
  have t2 : takeS ⟨[0], [], [⟨1, 0, ⟨9, 2, 0, 0, [98]⟩⟩]⟩ ((2 : Nat) : Int) [104, 97, 108, 116] = (⟨[0, 4194304], [], [⟨1, 0, ⟨9, 2, 0, 0, [98]⟩⟩]⟩, 0) := by
    unfold takeS
    rw [if_neg (by decide), if_neg (by decide), if_neg (by decide)]
    unfold takeCl
    rw [c2]
    rfl
  have t3 : takeS ⟨[0, 4194304], [], [⟨1, 0, ⟨9, 2, 0, 0, [98]⟩⟩]⟩ ((3 : Nat) : Int) [98, 58] = (⟨[0, 4194304], [⟨[98], 2⟩], [⟨1, 0, ⟨9, 2, 0, 0, [98]⟩⟩]⟩, 0) := by
    unfold takeS
    rw [if_neg (by decide), if_neg (by decide), if_pos (by decide)]
    unfold takeLb
    rw [if_neg (by decide), if_neg (by decide), if_neg (by decide)]
    rfl
  have t4 : takeS ⟨[0, 4194304], [⟨[98], 2⟩], [⟨1, 0, ⟨9, 2, 0, 0, [98]⟩⟩]⟩ ((4 : Nat) : Int) [106, 117, 109, 112, 32, 98] = (⟨[0, 4194304, 0], [⟨[98], 2⟩], [⟨1, 0, ⟨9, 2, 0, 0, [98]⟩⟩, ⟨4, 2, ⟨8, 0, 0, 0, [98]⟩⟩]⟩, 0) := by
    unfold takeS
    rw [if_neg (by decide), if_neg (by decide), if_neg (by decide)]
    unfold takeCl
    rw [c4, j4]
    rfl
  have hg : goS ⟨[], [], []⟩ 1 (sp 10 exJ) = (⟨[0, 4194304, 0], [⟨[98], 2⟩], [⟨1, 0, ⟨9, 2, 0, 0, [98]⟩⟩, ⟨4, 2, ⟨8, 0, 0, 0, [98]⟩⟩]⟩, 0, 0) := by
    rw [hs, goS, t1, if_pos rfl]
    dsimp only
    rw [goS, t2, if_pos rfl]
    dsimp only
    rw [goS, t3, if_pos rfl]
    dsimp only
    rw [goS, t4, if_pos rfl]
    rfl
  have hj : joinS [⟨[98], 2⟩] [0, 4194304, 0] [⟨1, 0, ⟨9, 2, 0, 0, [98]⟩⟩, ⟨4, 2, ⟨8, 0, 0, 0, [98]⟩⟩] = ([numD 9 2 0 2, 4194304, numD 8 0 0 0], 0, 0) := by
    have h1 : chkD 9 2 0 (2 - 0) = 0 := by decide +kernel
    have h2 : chkD 8 0 0 (2 - 2) = 0 := by decide +kernel
    rw [joinS]
    show (if chkD 9 2 0 (2 - 0) = 0 then _ else _) = _
    rw [if_pos h1, joinS]
    show (if chkD 8 0 0 (2 - 2) = 0 then _ else _) = _
    rw [if_pos h2]
    rfl
  exact ⟨_, _, readS_ok (by decide) hg hj⟩
theorem read_if : readD (numD 9 2 0 2) = ⟨9, 2, 0, 2, 0⟩ := read_num (by decide +kernel)
end Go.Proofs.YtpggmmnjfofgcaaDoor
