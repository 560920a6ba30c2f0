/- Plain: of ten bytes one is turned: what is read then; no program is in it. -/
import Derived.Test.YtilbijocapmjbaaRows
import Derived.Test.YtilbijocapmjbaaBits
import Derived.Test.YtilbijocapmjbaaKeyPure
import Derived.Test.YtilbijocapmjbaaCellPure
import Derived.Test.YtilbijocapmjbaaCellBytes
import Derived.Test.YtilbijocapmjbaaCellRead
import Derived.WalkKit
namespace Go.Proofs.Ytilbijocapmjbaa
open Go.RowKit

theorem sumL_nat (l : List UInt8) : (sumL l).toNat = sumN l % 256 := by
  have h := b8_nat (sumN l : Int)
  rw [b8_sumN] at h
  omega
theorem sumN_cons9 (c0 c1 c2 c3 c4 c5 c6 c7 c8 : UInt8) : sumN [c0, c1, c2, c3, c4, c5, c6, c7, c8] = c0.toNat + c1.toNat + c2.toNat + c3.toNat + c4.toNat + c5.toNat + c6.toNat + c7.toNat + c8.toNat := by
  show 0 + c0.toNat + c1.toNat + c2.toNat + c3.toNat + c4.toNat + c5.toNat + c6.toNat + c7.toNat + c8.toNat = _
  omega
/-- The byte k turned to c. -/
def turnL (l : List UInt8) (k : Nat) (c : UInt8) : List UInt8 := l.take k ++ [c] ++ l.drop (k + 1)
theorem turn_sum (l : List UInt8) (hl : l.length = 10) (hs : l.getD 9 0 = sumL (l.take 9)) (k : Nat) (hk : k ≤ 9) (c : UInt8) (hc : ¬ l.getD k 0 = c) :
    (turnL l k c).length = 10 ∧ ¬ (turnL l k c).getD 9 0 = sumL ((turnL l k c).take 9) := by
  obtain ⟨c0, c1, c2, c3, c4, c5, c6, c7, c8, c9, rfl⟩ := list10 hl
  have h9 : c9 = sumL [c0, c1, c2, c3, c4, c5, c6, c7, c8] := hs
  have e9 := congrArg UInt8.toNat h9
  rw [sumL_nat, sumN_cons9] at e9
  have b9 := c9.toNat_lt
  have bc := c.toNat_lt
  have key : ∀ a0 a1 a2 a3 a4 a5 a6 a7 a8 a9 : UInt8, ¬ (a0.toNat + a1.toNat + a2.toNat + a3.toNat + a4.toNat + a5.toNat + a6.toNat + a7.toNat + a8.toNat) % 256 = a9.toNat → ¬ a9 = sumL [a0, a1, a2, a3, a4, a5, a6, a7, a8] := by
    intro a0 a1 a2 a3 a4 a5 a6 a7 a8 a9 h e
    have := congrArg UInt8.toNat e
    rw [sumL_nat, sumN_cons9] at this
    omega
  have ne : ∀ x : UInt8, ¬ x = c → ¬ x.toNat = c.toNat := fun x h e => h (UInt8.toNat_inj.1 e)
  have ks : k = 0 ∨ k = 1 ∨ k = 2 ∨ k = 3 ∨ k = 4 ∨ k = 5 ∨ k = 6 ∨ k = 7 ∨ k = 8 ∨ k = 9 := by omega
  rcases ks with rfl | rfl | rfl | rfl | rfl | rfl | rfl | rfl | rfl | rfl
  · have := ne c0 hc; have := c0.toNat_lt; exact ⟨rfl, key c c1 c2 c3 c4 c5 c6 c7 c8 c9 (by omega)⟩
  · have := ne c1 hc; have := c1.toNat_lt; exact ⟨rfl, key c0 c c2 c3 c4 c5 c6 c7 c8 c9 (by omega)⟩
  · have := ne c2 hc; have := c2.toNat_lt; exact ⟨rfl, key c0 c1 c c3 c4 c5 c6 c7 c8 c9 (by omega)⟩
  · have := ne c3 hc; have := c3.toNat_lt; exact ⟨rfl, key c0 c1 c2 c c4 c5 c6 c7 c8 c9 (by omega)⟩
  · have := ne c4 hc; have := c4.toNat_lt; exact ⟨rfl, key c0 c1 c2 c3 c c5 c6 c7 c8 c9 (by omega)⟩
  · have := ne c5 hc; have := c5.toNat_lt; exact ⟨rfl, key c0 c1 c2 c3 c4 c c6 c7 c8 c9 (by omega)⟩
  · have := ne c6 hc; have := c6.toNat_lt; exact ⟨rfl, key c0 c1 c2 c3 c4 c5 c c7 c8 c9 (by omega)⟩
  · have := ne c7 hc; have := c7.toNat_lt; exact ⟨rfl, key c0 c1 c2 c3 c4 c5 c6 c c8 c9 (by omega)⟩
  · have := ne c8 hc; have := c8.toNat_lt; exact ⟨rfl, key c0 c1 c2 c3 c4 c5 c6 c7 c c9 (by omega)⟩
  · have := ne c9 hc; exact ⟨rfl, key c0 c1 c2 c3 c4 c5 c6 c7 c8 c (by omega)⟩
theorem turn_same (l : List UInt8) (hl : l.length = 10) (k : Nat) (hk : k ≤ 9) (c : UInt8) (hc : l.getD k 0 = c) : turnL l k c = l := by
  obtain ⟨c0, c1, c2, c3, c4, c5, c6, c7, c8, c9, rfl⟩ := list10 hl
  subst hc
  have ks : k = 0 ∨ k = 1 ∨ k = 2 ∨ k = 3 ∨ k = 4 ∨ k = 5 ∨ k = 6 ∨ k = 7 ∨ k = 8 ∨ k = 9 := by omega
  rcases ks with rfl | rfl | rfl | rfl | rfl | rfl | rfl | rfl | rfl | rfl <;> rfl
theorem turn_read (l : List UInt8) (hl : l.length = 10) (hs : l.getD 9 0 = sumL (l.take 9)) (k : Nat) (hk : k ≤ 9) (c : UInt8) (hc : ¬ l.getD k 0 = c) : readL (turnL l k c) = errV 6 := by
  obtain ⟨h1, h2⟩ := turn_sum l hl hs k hk c hc
  unfold readL
  rw [h1, if_neg (by decide), if_neg (by decide), if_neg h2]
/-- Its text, put together of three. -/
theorem turn_text (s : ByteArray) (hs : s.size = 10) (k : Nat) (hk : k ≤ 9) (c : UInt8) : ((s.extract 0 k ++ ⟨#[c]⟩) ++ s.extract (k + 1) 10).data.toList = turnL s.data.toList k c := by
  have hl : s.data.toList.length = 10 := by simpa using hs
  rw [ByteArray.data_append, ByteArray.data_append, Array.toList_append, Array.toList_append, ext_list, ext_list]
  unfold turnL
  rw [Array.toList_extract, Array.toList_extract]
  simp only [List.extract_eq_take_drop]
  rw [show 10 - (k + 1) = 9 - k by omega, List.take_of_length_le (l := s.data.toList.drop (k + 1)) (by simp; omega)]
  simp
end Go.Proofs.Ytilbijocapmjbaa
