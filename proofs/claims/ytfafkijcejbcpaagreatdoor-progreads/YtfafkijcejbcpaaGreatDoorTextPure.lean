/- Chapter 6 on lists of bytes: what an instruction is told as. -/
import Derived.Test.YtfafkijcejbcpaaGreatDoorRows
import Derived.Test.YtfafkijcejbcpaaGreatDoorInstShape
import Derived.Test.YtfafkijcejbcpaaGreatDoorInstDev
import Derived.Lib.ItoaLen
import Derived.Lib.ItoaMem
namespace Go.Proofs.YtfafkijcejbcpaaGreatDoor
open Go.ChangeShapes Go.WideShapes Go.ChangeAt Go.RowKit

/-- Bytes as a text, shut. -/
def bL (l : List UInt8) : ByteArray := ⟨l.toArray⟩
theorem bL_add (x y : List UInt8) : bL x ++ bL y = bL (x ++ y) := ByteArray.mk_append_mk x y
theorem bL_size (x : List UInt8) : (bL x).size = x.length := by show x.toArray.size = _; simp
theorem bL_list (x : List UInt8) : (bL x).data.toList = x := by unfold bL; simp
theorem bL_inj {x y : List UInt8} (h : bL x = bL y) : x = y := by
  have := congrArg (fun b : ByteArray => b.data.toList) h
  simpa [bL_list] using this
theorem bL_of (s : ByteArray) : s = bL s.data.toList := by unfold bL; cases s; simp
def tellL (k n : Int) : List UInt8 := if k = 0 then [] else if k = 1 then 32 :: 114 :: Lib.itoa n else 32 :: Lib.itoa n
def textL (n : Nat) (a b c : Int) : List UInt8 := shW n ++ tellL (shA n) a ++ tellL (shB n) b ++ tellL (shC n) c
/-- P13: Text. -/
def textD (o a b c : Int) : List UInt8 := if chkD o a b c = 0 then textL o.toNat a b c else []
theorem itoa_len (n : Int) (hn : -9223372036854775808 ≤ n ∧ n ≤ 9223372036854775807) : (Lib.itoa n).length ≤ 21 := Lib.itoa_length_le n hn.1 hn.2
theorem tell_len (k n : Int) (hn : -9223372036854775808 ≤ n ∧ n ≤ 9223372036854775807) : (tellL k n).length ≤ 23 := by
  have := itoa_len n hn
  unfold tellL
  split
  · simp
  · split
    · simp; omega
    · simp; omega
theorem word_len : ∀ n : Nat, n < 23 → (shW n).length ≤ 6 := by decide +kernel
end Go.Proofs.YtfafkijcejbcpaaGreatDoor
