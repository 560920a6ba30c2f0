/- The small calls beneath chapter 5, the program's and the document's own: sums of bytes, numbers of bytes and bytes of numbers, the highest first. -/
import Derived.Test.YtfafkijcejbcpaaGreatDoorRows
import Derived.Test.YtfafkijcejbcpaaGreatDoorBits
import Derived.Test.YtfafkijcejbcpaaGreatDoorKeyPure
import Derived.Test.YtfafkijcejbcpaaGreatDoorCellPure
import Derived.WalkKit
import Derived.ProofKit
import Derived.OpenShut
import Derived.Laws.IdiomStrings
import Derived.Laws.AppendOwn
import Derived.Deep.AppendLies
namespace Go.Proofs.YtfafkijcejbcpaaGreatDoor
open Go.ChangeShapes Go.WideShapes Go.ChangeAt Go.RowKit

theorem take_step {α : Type} (l : List α) (k : Nat) (h : k < l.length) : l.take (k + 1) = l.take k ++ [l[k]] := by
  rw [List.take_succ_eq_append_getElem h]
theorem sumL_snoc (l : List UInt8) (c : UInt8) : sumL (l ++ [c]) = sumL l + c := by simp [sumL, List.foldl_append]
theorem sumN_snoc (l : List UInt8) (c : UInt8) : sumN (l ++ [c]) = sumN l + c.toNat := by simp [sumN, List.foldl_append]
theorem valL_snoc (l : List UInt8) (c : UInt8) : valL (l ++ [c]) = 256 * valL l + c.toNat := by simp [valL, List.foldl_append]
theorem at_data (s : ByteArray) (k : Nat) (h : k < s.size) : s.data.toList[k]'(by simpa using h) = s[k] := by simp; rfl
theorem sum_step (s : ByteArray) (k : Nat) (h : k < s.size) : (((sumL (s.data.toList.take k)).toNat : Int) + (s[k].toNat : Int)) % 256 = ((sumL (s.data.toList.take (k + 1))).toNat : Int) := by
  rw [take_step s.data.toList k (by simpa using h), sumL_snoc, at_data s k h, UInt8.toNat_add]; omega
theorem sumN_step (s : ByteArray) (k : Nat) (h : k < s.size) : ((sumN (s.data.toList.take k) : Nat) : Int) + (s[k].toNat : Int) = ((sumN (s.data.toList.take (k + 1)) : Nat) : Int) := by
  rw [take_step s.data.toList k (by simpa using h), sumN_snoc, at_data s k h]; omega
theorem val_step (s : ByteArray) (k : Nat) (h : k < s.size) : 256 * ((valL (s.data.toList.take k) : Nat) : Int) + (s[k].toNat : Int) = ((valL (s.data.toList.take (k + 1)) : Nat) : Int) := by
  rw [take_step s.data.toList k (by simpa using h), valL_snoc, at_data s k h]; omega
theorem sumN_le (l : List UInt8) : sumN l ≤ 255 * l.length := by
  have : ∀ (l : List UInt8) (n : Nat), l.foldl (fun n b => n + b.toNat) n ≤ n + 255 * l.length := by
    intro l
    induction l with
    | nil => intro n; simp
    | cons c l ih => intro n; simp only [List.foldl_cons, List.length_cons]; have h1 := ih (n + c.toNat); have h2 := c.toNat_lt; omega
  have h := this l 0
  unfold sumN
  omega
theorem val_lt (l : List UInt8) : valL l < 256 ^ l.length := by
  have : ∀ (l : List UInt8) (n : Nat), l.foldl (fun n b => 256 * n + b.toNat) n < (n + 1) * 256 ^ l.length := by
    intro l
    induction l with
    | nil => intro n; simp
    | cons c l ih =>
      intro n
      simp only [List.foldl_cons, List.length_cons]
      have h1 := ih (256 * n + c.toNat)
      have h2 := c.toNat_lt
      have h3 : (256 * n + c.toNat + 1) * 256 ^ l.length ≤ (256 * (n + 1)) * 256 ^ l.length := Nat.mul_le_mul_right _ (by omega)
      have h4 : (n + 1) * 256 ^ (l.length + 1) = (256 * (n + 1)) * 256 ^ l.length := by rw [Nat.pow_succ, Nat.mul_comm 256 (n + 1), Nat.mul_assoc, Nat.mul_comm 256]
      omega
  have h := this l 0
  unfold valL
  simpa using h
theorem val_small (s : ByteArray) (k : Nat) (hs : s.size ≤ 4) (hk : k < s.size) : valL (s.data.toList.take k) < 16777216 := by
  have h := val_lt (s.data.toList.take k)
  have hl : (s.data.toList.take k).length ≤ 3 := by simp; omega
  have := Nat.pow_le_pow_right (show 0 < 256 by decide) hl
  omega
theorem b8_sumN (l : List UInt8) : b8 (sumN l : Int) = sumL l := by
  have : ∀ (l : List UInt8) (n : Nat) (c : UInt8), b8 (n : Int) = c → b8 ((l.foldl (fun n b => n + b.toNat) n : Nat) : Int) = l.foldl (fun x y => x + y) c := by
    intro l
    induction l with
    | nil => intro n c h; simpa using h
    | cons d l ih =>
      intro n c h
      simp only [List.foldl_cons]
      refine ih _ _ (u8_ext ?_)
      have h1 := b8_nat (n : Int)
      rw [h] at h1
      rw [b8_nat, UInt8.toNat_add]
      omega
  exact this l 0 0 rfl
theorem take_all (s : ByteArray) : s.data.toList.take s.size = s.data.toList := List.take_of_length_le (by simp)
theorem conv_one (w : World) (x : Int) (t : TypeId) : (convert 73 9 (.slice (some ⟨w.heap.size, 0, none⟩) 1 1)).run Tryz.prog (w.alloc (.cells #[.int .u8 (x % 256)] t)) = .ok (.string ⟨#[b8 x]⟩) (w.alloc (.cells #[.int .u8 (x % 256)] t)) := by
  have h := run_convert_bytes_back (P := Tryz.prog) (w.alloc (.cells #[.int .u8 (x % 256)] t)) 73 9 5 ⟨w.heap.size, 0, none⟩ 1 [b8 x] Tryz.underlying73 Tryz.underlying5 Tryz.underlying9 (by
    intro j hj
    obtain rfl : j = 0 := by simp at hj; omega
    simp [Addr.add, b8_nat])
  exact h
theorem ref_chr (x : Int) (w : World) :
    Calls Tryz.prog 69 #[.int .i64 x] w fun e w' => e = .returned (.string ⟨#[b8 x]⟩) ∧ Below w.heap.size w w' := by
  have hc := conv_one w x
  go_enter Tryz.func69, Tryz.ntmps69
  go_wp2
  go_ret
  exact ⟨rfl, (Below.refl _ _).alloc (Nat.le_refl _) _⟩
end Go.Proofs.YtfafkijcejbcpaaGreatDoor
