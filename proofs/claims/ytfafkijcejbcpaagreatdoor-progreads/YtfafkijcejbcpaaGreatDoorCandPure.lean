/- Chapter 6: what a row of the document's table and the words of a text make of an instruction; without any program. -/
import Derived.Test.YtfafkijcejbcpaaGreatDoorRows
import Derived.Test.YtfafkijcejbcpaaGreatDoorInstShape
import Derived.Test.YtfafkijcejbcpaaGreatDoorInstTab
import Derived.Test.YtfafkijcejbcpaaGreatDoorInstRef
import Derived.Test.YtfafkijcejbcpaaGreatDoorInstDev
import Derived.Test.YtfafkijcejbcpaaGreatDoorTextPure
import Derived.Test.YtfafkijcejbcpaaGreatDoorParsePure
import Derived.Test.YtfafkijcejbcpaaGreatDoorInstTextRef
import Derived.Test.YtfafkijcejbcpaaGreatDoorInstParse2
import Derived.Test.YtfafkijcejbcpaaGreatDoorSplitPure
import Derived.Test.YtfafkijcejbcpaaGreatDoorNumeralRef
namespace Go.Proofs.YtfafkijcejbcpaaGreatDoor
open Go.Lib

structure CS where
  a : Int
  b : Int
  c : Int
  g : Bool
def fA (d : ByteArray) : Bool := decide (d = ⟨#[65]⟩)
def fB (d : ByteArray) : Bool := decide (d = ⟨#[66]⟩)
def fR (d : ByteArray) : Bool := decide (d = ⟨#[65]⟩ ∨ d = ⟨#[66]⟩ ∨ d = ⟨#[114]⟩)
/-- One word, by what the row has there. -/
def stF (a b r : Bool) (x : CS) (w : List UInt8) : CS :=
  if a = true then ⟨(numV (if r = true then trimPrefix w [114] else w) (-4000) 4000).1, x.b, x.c, (if r = true then x.g && ([114] : List UInt8).isPrefixOf w else x.g) && (numV (if r = true then trimPrefix w [114] else w) (-4000) 4000).2⟩
  else if b = true then ⟨x.a, (numV (if r = true then trimPrefix w [114] else w) (-4000) 4000).1, x.c, (if r = true then x.g && ([114] : List UInt8).isPrefixOf w else x.g) && (numV (if r = true then trimPrefix w [114] else w) (-4000) 4000).2⟩
  else ⟨x.a, x.b, (numV (if r = true then trimPrefix w [114] else w) (-4000) 4000).1, (if r = true then x.g && ([114] : List UInt8).isPrefixOf w else x.g) && (numV (if r = true then trimPrefix w [114] else w) (-4000) 4000).2⟩
def stW (x : CS) (d : ByteArray) (w : List UInt8) : CS := stF (fA d) (fB d) (fR d) x w
/-- What k words make of it. -/
def cand (ds : List ByteArray) (ws : List (List UInt8)) : Nat → CS
  | 0 => ⟨0, 0, 0, true⟩
  | k + 1 => stW (cand ds ws k) (ds.getD (k + 1) ⟨#[]⟩) (ws.getD (k + 1) [])
def tw (k n : Int) : List (List UInt8) := if k = 0 then [] else if k = 1 then [114 :: itoa n] else [itoa n]
theorem itoa_n32 (n : Int) : 32 ∉ itoa n := fun h => by have := itoa_nb n 32 h; simp at this
theorem sp_tell (x : List UInt8) (k n : Int) : sp 32 (x ++ tellL k n) = sp 32 x ++ tw k n := by
  unfold tellL tw
  split
  · simp
  split
  · rw [sp_app, sp_none (l := 114 :: itoa n) (by intro h; rcases List.mem_cons.1 h with h | h; cases h; exact itoa_n32 n h)]
  · rw [sp_app, sp_none (itoa_n32 n)]
theorem word_n32 (n : Nat) (hn : n < 23) : 32 ∉ shW n := fun h => by have := word_nb n hn 32 h; simp at this
theorem sp_text32 (n : Nat) (hn : n < 23) (a b c : Int) : sp 32 (textL n a b c) = [shW n] ++ tw (shA n) a ++ tw (shB n) b ++ tw (shC n) c := by
  unfold textL
  rw [sp_tell, sp_tell, sp_tell, sp_none (word_n32 n hn)]
theorem trim_r (n : Int) : trimPrefix (114 :: itoa n) [114] = itoa n := by
  unfold trimPrefix hasPrefix
  simp
theorem st_A (x : CS) (n : Int) (h : -4000 ≤ n ∧ n ≤ 4000) : stW x ⟨#[65]⟩ (114 :: itoa n) = ⟨n, x.b, x.c, x.g⟩ := by
  have e1 : fA ⟨#[65]⟩ = true := by decide
  have e3 : fR ⟨#[65]⟩ = true := by decide
  unfold stW stF
  rw [e1, e3, if_pos rfl, if_pos rfl, trim_r, numV_itoa h ⟨by omega, by omega⟩]
  simp
theorem st_B (x : CS) (n : Int) (h : -4000 ≤ n ∧ n ≤ 4000) : stW x ⟨#[66]⟩ (114 :: itoa n) = ⟨x.a, n, x.c, x.g⟩ := by
  have e1 : fA ⟨#[66]⟩ = false := by decide
  have e2 : fB ⟨#[66]⟩ = true := by decide
  have e3 : fR ⟨#[66]⟩ = true := by decide
  unfold stW stF
  rw [e1, e2, e3, if_neg (by simp), if_pos rfl, if_pos rfl, trim_r, numV_itoa h ⟨by omega, by omega⟩]
  simp
theorem st_r (x : CS) (n : Int) (h : -4000 ≤ n ∧ n ≤ 4000) : stW x ⟨#[114]⟩ (114 :: itoa n) = ⟨x.a, x.b, n, x.g⟩ := by
  have e1 : fA ⟨#[114]⟩ = false := by decide
  have e2 : fB ⟨#[114]⟩ = false := by decide
  have e3 : fR ⟨#[114]⟩ = true := by decide
  unfold stW stF
  rw [e1, e2, e3, if_neg (by simp), if_neg (by simp), if_pos rfl, trim_r, numV_itoa h ⟨by omega, by omega⟩]
  simp
theorem st_n (x : CS) (d : ByteArray) (n : Int) (h : -4000 ≤ n ∧ n ≤ 4000) (e1 : fA d = false) (e2 : fB d = false) (e3 : fR d = false) : stW x d (itoa n) = ⟨x.a, x.b, n, x.g⟩ := by
  unfold stW stF
  rw [e1, e2, e3, if_neg (by simp), if_neg (by simp), if_neg (by simp), numV_itoa h ⟨by omega, by omega⟩]
  simp
/-- The words of an instruction's text make it. -/
theorem cand_text (n : Nat) (hn : n < 23) (a b c : Int) (h : chkD n a b c = 0) :
    (sp 32 (textL n a b c)).length = (wordsB n).length ∧ (sp 32 (textL n a b c)).getD 0 [] = shW n ∧ cand (wordsB n) (sp 32 (textL n a b c)) ((wordsB n).length - 1) = ⟨a, b, c, true⟩ := by
  have r := chkD_ok h
  have hk : kMay (shA n) a = true ∧ kMay (shB n) b = true ∧ kMay (shC n) c = true := by
    unfold chkD at h
    rw [if_pos r.1] at h
    unfold chkN at h
    split at h
    · rename_i h'; exact h'
    · cases h
  obtain ⟨e, hA, hB, hC⟩ := words_row n hn
  rw [sp_text32 n hn, e]
  have ba : -4000 ≤ a ∧ a ≤ 4000 := by omega
  have bb : -4000 ≤ b ∧ b ≤ 4000 := by omega
  have bc : -4000 ≤ c ∧ c ≤ 4000 := by omega
  have za : shA n = 0 → a = 0 := fun h0 => may0 (by rw [← h0]; exact hk.1)
  have zb : shB n = 0 → b = 0 := fun h0 => may0 (by rw [← h0]; exact hk.2.1)
  have zc : shC n = 0 → c = 0 := fun h0 => may0 (by rw [← h0]; exact hk.2.2)
  have n1 := fun x => st_n x ⟨#[110]⟩ c bc (by decide) (by decide) (by decide)
  have n2 := fun x => st_n x ⟨#[112]⟩ c bc (by decide) (by decide) (by decide)
  have n3 := fun x => st_n x ⟨#[113]⟩ c bc (by decide) (by decide) (by decide)
  have n4 := fun x => st_n x ⟨#[109]⟩ c bc (by decide) (by decide) (by decide)
  have sA := fun x => st_A x a ba
  have sB := fun x => st_B x b bb
  have sR := fun x => st_r x c bc
  unfold rowOf tw
  rcases hA with hA | hA <;> rcases hB with hB | hB <;> rcases hC with hC | hC | hC | hC | hC | hC <;> rw [hA, hB, hC] <;> simp [cand, sA, sB, sR, n1, n2, n3, n4] <;> simp [za, zb, zc, hA, hB, hC]
end Go.Proofs.YtfafkijcejbcpaaGreatDoor
