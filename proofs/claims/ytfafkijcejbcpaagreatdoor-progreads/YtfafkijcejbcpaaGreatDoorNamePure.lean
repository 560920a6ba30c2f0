/- P14's NAME, on lists of bytes; without any program. -/
import Derived.Laws.RangeAny
import Derived.Shelf.GgClosure.StringsIndexFunc
import Derived.Test.YtfafkijcejbcpaaGreatDoorTextPure
namespace Go.Proofs.YtfafkijcejbcpaaGreatDoor
open Go.Lib

def isLet (c : UInt8) : Bool := decide (97 ≤ c.toNat ∧ c.toNat ≤ 122)
def okC (c : UInt8) : Bool := decide ((97 ≤ c.toNat ∧ c.toNat ≤ 122) ∨ (48 ≤ c.toNat ∧ c.toNat ≤ 57))
/-- P14: a NAME. -/
def nameL (l : List UInt8) : Bool := decide (1 ≤ l.length ∧ l.length ≤ 12) && isLet (l.headD 0) && l.all okC
/-- What is no sign of a name, of runes. -/
def pN (r : Nat) : Bool := decide (¬ (97 ≤ r ∧ r ≤ 122)) && decide (r < 48 ∨ 57 < r)
theorem pN_ok (c : UInt8) : pN c.toNat = !okC c := by
  unfold pN okC
  by_cases h1 : 97 ≤ c.toNat ∧ c.toNat ≤ 122 <;> by_cases h2 : 48 ≤ c.toNat ∧ c.toNat ≤ 57 <;> simp [h1, h2] <;> omega
theorem pN_high {r : Nat} (h : 128 ≤ r) : pN r = true := by
  unfold pN
  simp; omega
theorem okC_high {c : UInt8} (h : 128 ≤ c.toNat) : okC c = false := by
  unfold okC
  simp; omega
theorem idx_name (s : ByteArray) : ∀ (f pos : Nat), s.size ≤ pos + f → ((0 ≤ idxFuncFrom pN true s f pos) ↔ ¬ ∀ (j : Nat) (_ : pos ≤ j) (h : j < s.size), okC (s[j]'h) = true)
  | 0, pos, hf => by
    unfold idxFuncFrom
    constructor
    · intro h; omega
    · intro h; exact absurd (fun j hj h => by omega) h
  | f + 1, pos, hf => by
    unfold idxFuncFrom
    by_cases hp : pos < s.size
    · rw [if_pos hp]
      by_cases ha : (s[pos]'hp).toNat < 128
      · have hd := decode_ascii s pos hp ha
        rw [hd]
        dsimp only
        rw [pN_ok]
        by_cases ho : okC (s[pos]'hp) = true
        · rw [ho, if_neg (by simp), idx_name s f (pos + 1) (by omega)]
          constructor
          · intro h h'
            exact h (fun j hj hs => h' j (by omega) hs)
          · intro h h'
            refine h (fun j hj hs => ?_)
            rcases Nat.lt_or_ge pos j with h1 | h1
            · exact h' j h1 hs
            · obtain rfl : j = pos := by omega
              exact ho
        · rw [if_pos (by simp [ho])]
          exact ⟨fun _ h => ho (h pos (Nat.le_refl _) hp), fun _ => by omega⟩
      · have hd := decode_high s pos hp (by omega)
        rw [if_pos (pN_high hd.1)]
        refine ⟨fun _ h => ?_, fun _ => by omega⟩
        have h1 := h pos (Nat.le_refl _) hp
        rw [okC_high (by omega)] at h1
        cases h1
    · rw [if_neg hp]
      constructor
      · intro h; omega
      · intro h; exact absurd (fun j hj h => by omega) h
theorem idx_all (l : List UInt8) : decide (0 ≤ idxFunc pN true (bL l)) = !l.all okC := by
  have h := idx_name (bL l) (bL l).size 0 (by omega)
  unfold idxFunc
  have e : (∀ (j : Nat) (_ : 0 ≤ j) (h : j < (bL l).size), okC ((bL l)[j]'h) = true) ↔ l.all okC = true := by
    rw [List.all_eq_true]
    constructor
    · intro h x hx
      obtain ⟨j, hj, e⟩ := List.mem_iff_getElem.1 hx
      have := h j (Nat.zero_le _) (by rw [bL_size]; exact hj)
      rw [← e]; exact this
    · intro h j _ hj
      exact h _ (List.getElem_mem (by rw [bL_size] at hj; exact hj))
  rw [e] at h
  by_cases hall : l.all okC = true
  · rw [hall]
    simp only [Bool.not_true, decide_eq_false_iff_not]
    rw [h]; simp [hall]
  · rw [Bool.eq_false_iff.2 hall]
    simp only [Bool.not_false, decide_eq_true_eq]
    rw [h]; exact hall
end Go.Proofs.YtfafkijcejbcpaaGreatDoor
