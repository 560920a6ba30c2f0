/- The small calls beneath chapter 5, the program's and the document's own: sums of bytes, numbers of bytes and bytes of numbers, the highest first. -/
import Derived.Test.YtilbijocapmjbaaRows
import Derived.Test.YtilbijocapmjbaaBits
import Derived.Test.YtilbijocapmjbaaKeyPure
import Derived.Test.YtilbijocapmjbaaCellPure
import Derived.WalkKit
import Derived.ProofKit
import Derived.OpenShut
import Derived.Laws.IdiomStrings
import Derived.Laws.AppendOwn
import Derived.Deep.AppendLies
namespace Go.Proofs.Ytilbijocapmjbaa
open Go.ChangeShapes Go.WideShapes Go.ChangeAt Go.RowKit

theorem take_step {α : Type} (l : List α) (k : Nat) (h : k < l.length) : l.take (k + 1) = l.take k ++ [l[k]] := by
  rw [List.take_succ_eq_append_getElem h]
theorem sumL_snoc (l : List UInt8) (c : UInt8) : sumL (l ++ [c]) = sumL l + c := by simp [sumL, List.foldl_append]
theorem sumN_snoc (l : List UInt8) (c : UInt8) : sumN (l ++ [c]) = sumN l + c.toNat := by simp [sumN, List.foldl_append]
theorem valL_snoc (l : List UInt8) (c : UInt8) : valL (l ++ [c]) = 256 * valL l + c.toNat := by simp [valL, List.foldl_append]
theorem at_data (s : ByteArray) (k : Nat) (h : k < s.size) : s.data.toList[k]'(by simpa using h) = s[k] := by simp; rfl
theorem sum_step (s : ByteArray) (k : Nat) (h : k < s.size) : (((sumL (s.data.toList.take k)).toNat : Int) + (s[k].toNat : Int)) % 256 = ((sumL (s.data.toList.take (k + 1))).toNat : Int) := by
  rw [take_step s.data.toList k (by simpa using h), sumL_snoc, at_data s k h, UInt8.toNat_add]; omega
theorem sumN_step (s : ByteArray) (k : Nat) (h : k < s.size) : ((sumN (s.data.toList.take k) : Nat) : Int) + (s[k].toNat : Int) = ((sumN (s.data.toList.take (k + 1)) : Nat) : Int) := by
  rw [take_step s.data.toList k (by simpa using h), sumN_snoc, at_data s k h]; omega
theorem val_step (s : ByteArray) (k : Nat) (h : k < s.size) : 256 * ((valL (s.data.toList.take k) : Nat) : Int) + (s[k].toNat : Int) = ((valL (s.data.toList.take (k + 1)) : Nat) : Int) := by
  rw [take_step s.data.toList k (by simpa using h), valL_snoc, at_data s k h]; omega
theorem sumN_le (l : List UInt8) : sumN l ≤ 255 * l.length := by
  have : ∀ (l : List UInt8) (n : Nat), l.foldl (fun n b => n + b.toNat) n ≤ n + 255 * l.length := by
    intro l
    induction l with
    | nil => intro n; simp
    | cons c l ih => intro n; simp only [List.foldl_cons, List.length_cons]; have h1 := ih (n + c.toNat); have h2 := c.toNat_lt; omega
  have h := this l 0
  unfold sumN
  omega
theorem val_lt (l : List UInt8) : valL l < 256 ^ l.length := by
  have : ∀ (l : List UInt8) (n : Nat), l.foldl (fun n b => 256 * n + b.toNat) n < (n + 1) * 256 ^ l.length := by
    intro l
    induction l with
    | nil => intro n; simp
    | cons c l ih =>
      intro n
      simp only [List.foldl_cons, List.length_cons]
      have h1 := ih (256 * n + c.toNat)
      have h2 := c.toNat_lt
      have h3 : (256 * n + c.toNat + 1) * 256 ^ l.length ≤ (256 * (n + 1)) * 256 ^ l.length := Nat.mul_le_mul_right _ (by omega)
      have h4 : (n + 1) * 256 ^ (l.length + 1) = (256 * (n + 1)) * 256 ^ l.length := by rw [Nat.pow_succ, Nat.mul_comm 256 (n + 1), Nat.mul_assoc, Nat.mul_comm 256]
      omega
  have h := this l 0
  unfold valL
  simpa using h
theorem val_small (s : ByteArray) (k : Nat) (hs : s.size ≤ 4) (hk : k < s.size) : valL (s.data.toList.take k) < 16777216 := by
  have h := val_lt (s.data.toList.take k)
  have hl : (s.data.toList.take k).length ≤ 3 := by simp; omega
  have := Nat.pow_le_pow_right (show 0 < 256 by decide) hl
  omega
theorem b8_sumN (l : List UInt8) : b8 (sumN l : Int) = sumL l := by
  have : ∀ (l : List UInt8) (n : Nat) (c : UInt8), b8 (n : Int) = c → b8 ((l.foldl (fun n b => n + b.toNat) n : Nat) : Int) = l.foldl (fun x y => x + y) c := by
    intro l
    induction l with
    | nil => intro n c h; simpa using h
    | cons d l ih =>
      intro n c h
      simp only [List.foldl_cons]
      refine ih _ _ (u8_ext ?_)
      have h1 := b8_nat (n : Int)
      rw [h] at h1
      rw [b8_nat, UInt8.toNat_add]
      omega
  exact this l 0 0 rfl
theorem take_all (s : ByteArray) : s.data.toList.take s.size = s.data.toList := List.take_of_length_le (by simp)
theorem cell_sum (s : ByteArray) (w : World) (hs : s.size ≤ 16) :
    Calls Try.prog 19 #[.string s] w fun e w' => e = .returned (.int .u8 ((sumL s.data.toList).toNat : Int)) ∧ w' = w := by
  have hall := take_all s
  go_enter Try.func19, Try.ntmps19
  go_wp2
  go_loop [3, 7] (fun r i => ∃ k : Nat, k ≤ s.size ∧ i = .int .i64 k ∧ r = .int .u8 ((sumL (s.data.toList.take k)).toNat : Int)) (fun _ i => 16 - (intOf i).toNat)
  case atStart => exact ⟨0, Nat.zero_le _, rfl, rfl⟩
  case round =>
    obtain ⟨k, hk, rfl, rfl⟩ := hrel
    by_cases hlt : k < s.size
    · have hadd := sum_step s k hlt
      go_wp2
      go_round
      case rel => exact ⟨k + 1, by omega, by go_num, by rw [hadd]⟩
      case measure => simp [intOf]; omega
    · obtain rfl : k = s.size := by omega
      go_wp2
      go_ret
      exact ⟨rfl, rfl⟩
theorem ref_sumof (s : ByteArray) (w : World) (hs : s.size ≤ 16) :
    Calls Try.prog 22 #[.string s] w fun e w' => e = .returned (.int .i64 (sumN s.data.toList : Int)) ∧ w' = w := by
  have hall := take_all s
  go_enter Try.func22, Try.ntmps22
  go_wp2
  go_loop [3, 7] (fun r i => ∃ k : Nat, k ≤ s.size ∧ i = .int .i64 k ∧ r = .int .i64 (sumN (s.data.toList.take k) : Int)) (fun _ i => 16 - (intOf i).toNat)
  case atStart => exact ⟨0, Nat.zero_le _, rfl, rfl⟩
  case round =>
    obtain ⟨k, hk, rfl, rfl⟩ := hrel
    by_cases hlt : k < s.size
    · have hadd := sumN_step s k hlt
      have hb := sumN_le (s.data.toList.take (k + 1))
      rw [List.length_take] at hb
      have hb1 : ((sumN (s.data.toList.take (k + 1)) : Nat) : Int) ≤ 10000 := by omega
      clear hb
      go_wp2
      go_round
      case rel => exact ⟨k + 1, by omega, by go_num, rfl⟩
      case measure => simp [intOf]; omega
    · obtain rfl : k = s.size := by omega
      go_wp2
      go_ret
      exact ⟨rfl, rfl⟩
theorem ref_deep (s : ByteArray) (w : World) (hs : s.size ≤ 4) :
    Calls Try.prog 28 #[.string s] w fun e w' => e = .returned (.int .i64 (valL s.data.toList : Int)) ∧ w' = w := by
  have hall := take_all s
  go_enter Try.func28, Try.ntmps28
  go_wp2
  go_loop [3, 7] (fun r i => ∃ k : Nat, k ≤ s.size ∧ i = .int .i64 k ∧ r = .int .i64 (valL (s.data.toList.take k) : Int)) (fun _ i => 16 - (intOf i).toNat)
  case atStart => exact ⟨0, Nat.zero_le _, rfl, rfl⟩
  case round =>
    obtain ⟨k, hk, rfl, rfl⟩ := hrel
    by_cases hlt : k < s.size
    · have hadd := val_step s k hlt
      have hb := val_small s k hs hlt
      have hc := u8_lt s[k]
      go_wp2
      go_round
      case rel => exact ⟨k + 1, by omega, by go_num, rfl⟩
      case measure => simp [intOf]; omega
    · obtain rfl : k = s.size := by omega
      go_wp2
      go_ret
      exact ⟨rfl, rfl⟩
theorem cell_highfirst (s : ByteArray) (w : World) (hs : s.size ≤ 4) :
    Calls Try.prog 32 #[.string s] w fun e w' => e = .returned (.int .i64 (valL s.data.toList : Int)) ∧ w' = w := by
  have hall := take_all s
  go_enter Try.func32, Try.ntmps32
  go_wp2
  go_loop [3, 7] (fun r i => ∃ k : Nat, k ≤ s.size ∧ i = .int .i64 k ∧ r = .int .i64 (valL (s.data.toList.take k) : Int)) (fun _ i => 16 - (intOf i).toNat)
  case atStart => exact ⟨0, Nat.zero_le _, rfl, rfl⟩
  case round =>
    obtain ⟨k, hk, rfl, rfl⟩ := hrel
    by_cases hlt : k < s.size
    · have hadd := val_step s k hlt
      have hb := val_small s k hs hlt
      have hc := u8_lt s[k]
      rw [Int.mul_comm] at hadd
      go_wp2
      go_round
      case rel => exact ⟨k + 1, by omega, by go_num, rfl⟩
      case measure => simp [intOf]; omega
    · obtain rfl : k = s.size := by omega
      go_wp2
      go_ret
      exact ⟨rfl, rfl⟩
theorem conv_one (w : World) (x : Int) (t : TypeId) : (convert 36 9 (.slice (some ⟨w.heap.size, 0, none⟩) 1 1)).run Try.prog (w.alloc (.cells #[.int .u8 (x % 256)] t)) = .ok (.string ⟨#[b8 x]⟩) (w.alloc (.cells #[.int .u8 (x % 256)] t)) := by
  have h := run_convert_bytes_back (P := Try.prog) (w.alloc (.cells #[.int .u8 (x % 256)] t)) 36 9 5 ⟨w.heap.size, 0, none⟩ 1 [b8 x] Try.underlying36 Try.underlying5 Try.underlying9 (by
    intro j hj
    obtain rfl : j = 0 := by simp at hj; omega
    simp [Addr.add, b8_nat])
  exact h
theorem ref_chr (x : Int) (w : World) :
    Calls Try.prog 20 #[.int .i64 x] w fun e w' => e = .returned (.string ⟨#[b8 x]⟩) ∧ Below w.heap.size w w' := by
  have hc := conv_one w x
  go_enter Try.func20, Try.ntmps20
  go_wp2
  go_ret
  exact ⟨rfl, (Below.refl _ _).alloc (Nat.le_refl _) _⟩
/-- A number in so many bytes, the highest first. -/
def hiR : Int → Nat → List UInt8
  | _, 0 => []
  | x, m + 1 => hiR (x / 256) m ++ [b8 x]
theorem hiR_len : ∀ (m : Nat) (x : Int), (hiR x m).length = m
  | 0, _ => rfl
  | m + 1, x => by rw [hiR, List.length_append, hiR_len m]; rfl
theorem hiR_2 (x : Int) : hiR x 2 = hi2 x := rfl
theorem hiR_4 (x : Int) : hiR x 4 = hi4 x := by
  show [b8 (x / 256 / 256 / 256), b8 (x / 256 / 256), b8 (x / 256), b8 x] = hi4 x
  unfold hi4
  rw [show x / 256 / 256 / 256 = x / 16777216 by omega, show x / 256 / 256 = x / 65536 by omega]
def hiB (x : Int) (m : Nat) : ByteArray := ⟨(hiR x m).toArray⟩
theorem hiB_add (x : Int) (m : Nat) : hiB (x / 256) m ++ ⟨#[b8 (x % 256)]⟩ = hiB x (m + 1) := by
  unfold hiB
  have e : b8 (x % 256) = b8 x := b8_mod _ _ (by omega)
  rw [e]
  exact (ByteArray.mk_append_mk (hiR (x / 256) m) [b8 x])
theorem hiB_size (x : Int) (m : Nat) : (hiB x m).size = m := by
  show (hiR x m).toArray.size = m
  rw [List.size_toArray, hiR_len]
theorem ref_high : ∀ (m : Nat) (x : Int) (w : World), 0 ≤ x → x ≤ 9223372036854775807 → m ≤ 8 →
    Calls Try.prog 21 #[.int .i64 x, .int .i64 (m : Int)] w fun e w' => e = .returned (.string (hiB x m)) ∧ Below w.heap.size w w'
  | 0, x, w, h0, h1, hm => by
    go_enter Try.func21, Try.ntmps21
    go_wp2
    go_ret
    exact ⟨rfl, Below.refl _ _⟩
  | m + 1, x, w, h0, h1, hm => by
    have ih := fun w => ref_high m (x / 256) w (by omega) (by omega) (by omega)
    have e1 : x.tdiv 256 = x / 256 := Int.tdiv_eq_ediv_of_nonneg h0
    have e2 : x.tmod 256 = x % 256 := Int.tmod_eq_emod_of_nonneg h0
    have e3 : (((m + 1 : Nat) : Int) == 0) = false := by simp; omega
    have e4 : ((m + 1 : Nat) : Int) - 1 = (m : Int) := by omega
    have hz := hiB_size (x / 256) m
    have ha := hiB_add x m
    go_enter Try.func21, Try.ntmps21
    go_wp2_with (first | (go_at_call 21; refine (ih _).mono ?_; rintro e w1 ⟨rfl, hb1⟩) | (go_at_call 20; refine (ref_chr _ _).mono ?_; rintro e w2 ⟨rfl, hb2⟩))
    go_ret
    exact ⟨rfl, Below.step0 hb1 hb2⟩
end Go.Proofs.Ytilbijocapmjbaa
