/- Plain: what chapter 5 says of values and their ten bytes, on numbers and lists of bytes; no program is in it. -/
import Derived.Test.YtlfeglljpfihhaaRows
import Derived.Test.YtlfeglljpfihhaaBits
import Derived.Test.YtlfeglljpfihhaaKeyPure
import Derived.WalkKit
import Derived.Below
namespace Go.Proofs.Ytlfeglljpfihhaa
open Go.RowKit

/-- A byte as a cell; the last eight bits of a number. -/
def bc (b : UInt8) : Value := .int .u8 (b.toNat : Int)
def b8 (x : Int) : UInt8 := UInt8.ofNat (x % 256).toNat
theorem b8_nat (x : Int) : ((b8 x).toNat : Int) = x % 256 := by
  unfold b8
  have h1 : 0 ≤ x % 256 := Int.emod_nonneg _ (by decide)
  have h2 : x % 256 < 256 := Int.emod_lt_of_pos _ (by decide)
  rw [UInt8.toNat_ofNat_of_lt' (by show (x % 256).toNat < 256; omega)]
  omega
theorem b8_wrap (x : Int) : IntKind.u8.wrap x = ((b8 x).toNat : Int) := by
  rw [b8_nat]; simp only [IntKind.wrap_u8]
theorem u8_ext {a b : UInt8} (h : (a.toNat : Int) = (b.toNat : Int)) : a = b := UInt8.toNat_inj.1 (by omega)
theorem b8_mod (x y : Int) (h : x % 256 = y % 256) : b8 x = b8 y := u8_ext (by rw [b8_nat, b8_nat, h])
theorem b8_self (c : UInt8) : b8 (c.toNat : Int) = c := u8_ext (by rw [b8_nat]; have := c.toNat_lt; omega)
theorem u8_lt (c : UInt8) : (c.toNat : Int) < 256 := by have := c.toNat_lt; omega

/-- A value, and what went wrong. -/
structure VV where
  i : Bool
  n : Int
  p : Int
  b : Int
  l : Int
  a : Int
  s : Int
  e : Int
def errV (e : Int) : VV := ⟨false, 0, 0, 0, 0, 0, 0, e⟩
def vb (n p b l a s : Int) : Prop := (-9223372036854775808 ≤ n ∧ n ≤ 9223372036854775807) ∧ kb p b l a s
def numE (n p b l a s : Int) : Int := if -2147483648 ≤ n ∧ n ≤ 2147483647 then (if p = 0 ∧ b = 0 ∧ l = 0 ∧ a = 0 ∧ s = 0 then 0 else 5) else 1
def keyE (n p b l a s : Int) : Int := @ite Int (ok p b l a s) (decOk p b l a s) (if n = 0 then 0 else 5) 1
/-- P10. -/
def chkV : Bool → Int → Int → Int → Int → Int → Int → Int
  | true, n, p, b, l, a, s => keyE n p b l a s
  | false, n, p, b, l, a, s => numE n p b l a s
/-- Have both nothing that differs? -/
def sameB (i : Bool) (n p b l a s : Int) (i' : Bool) (n' p' b' l' a' s' : Int) : Bool :=
  i == i' && (n == n' && (p == p' && (b == b' && (l == l' && (a == a' && s == s')))))

def hi2 (x : Int) : List UInt8 := [b8 (x / 256), b8 x]
def hi4 (x : Int) : List UInt8 := [b8 (x / 16777216), b8 (x / 65536), b8 (x / 256), b8 x]
def numL (n : Int) : List UInt8 := [0] ++ hi4 (n + 2147483648) ++ [0, 0, 0, 0]
def keyL (p b l a s : Int) : List UInt8 := [1, b8 p, b8 s] ++ hi2 b ++ hi2 l ++ hi2 a
def bodyL : Bool → Int → Int → Int → Int → Int → Int → List UInt8
  | true, _, p, b, l, a, s => keyL p b l a s
  | false, n, _, _, _, _, _ => numL n
def sumL (l : List UInt8) : UInt8 := l.foldl (fun x y => x + y) 0
def fullL (i : Bool) (n p b l a s : Int) : List UInt8 := bodyL i n p b l a s ++ [sumL (bodyL i n p b l a s)]
/-- P11. -/
def packL (i : Bool) (n p b l a s : Int) : List UInt8 := if chkV i n p b l a s = 0 then fullL i n p b l a s else []
def packB (i : Bool) (n p b l a s : Int) : ByteArray := ⟨(packL i n p b l a s).toArray⟩
def valL (l : List UInt8) : Nat := l.foldl (fun n b => 256 * n + b.toNat) 0
def sumN (l : List UInt8) : Nat := l.foldl (fun n b => n + b.toNat) 0
/-- What ten bytes can be Pack of. -/
def unp : List UInt8 → VV
  | [c0, c1, c2, c3, c4, c5, c6, c7, c8, _] =>
    if c0 = 1 then ⟨true, 0, c1.toNat, valL [c3, c4], valL [c5, c6], valL [c7, c8], c2.toNat, 0⟩ else ⟨false, valL [c1, c2, c3, c4] - 2147483648, 0, 0, 0, 0, 0, 0⟩
  | _ => errV 0
def packV (v : VV) : List UInt8 := packL v.i v.n v.p v.b v.l v.a v.s
def readL (l : List UInt8) : VV :=
  if l.length < 10 then errV 4 else if 10 < l.length then errV 5 else if l.getD 9 0 = sumL (l.take 9) then (if packV (unp l) = l then unp l else errV 5) else errV 6
def readV (s : ByteArray) : VV := readL s.data.toList

theorem body_len (i : Bool) (n p b l a s : Int) : (bodyL i n p b l a s).length = 9 := by cases i <;> rfl
theorem full_len (i : Bool) (n p b l a s : Int) : (fullL i n p b l a s).length = 10 := by unfold fullL; rw [List.length_append, body_len]; rfl
theorem pack_yes {i : Bool} {n p b l a s : Int} (h : chkV i n p b l a s = 0) : packL i n p b l a s = fullL i n p b l a s := by unfold packL; rw [if_pos h]
theorem pack_no {i : Bool} {n p b l a s : Int} (h : ¬ chkV i n p b l a s = 0) : packL i n p b l a s = [] := by unfold packL; rw [if_neg h]
theorem list10 {α : Type} {l : List α} (h : l.length = 10) : ∃ c0 c1 c2 c3 c4 c5 c6 c7 c8 c9, l = [c0, c1, c2, c3, c4, c5, c6, c7, c8, c9] := by
  match l, h with
  | [c0, c1, c2, c3, c4, c5, c6, c7, c8, c9], _ => exact ⟨c0, c1, c2, c3, c4, c5, c6, c7, c8, c9, rfl⟩
theorem val2 (x : Int) (h : 0 ≤ x ∧ x < 65536) : ((valL (hi2 x) : Nat) : Int) = x := by
  show ((256 * (256 * 0 + (b8 (x / 256)).toNat) + (b8 x).toNat : Nat) : Int) = x
  have h1 := b8_nat (x / 256)
  have h2 := b8_nat x
  omega
theorem val4 (x : Int) (h : 0 ≤ x ∧ x < 4294967296) : ((valL (hi4 x) : Nat) : Int) = x := by
  show ((256 * (256 * (256 * (256 * 0 + (b8 (x / 16777216)).toNat) + (b8 (x / 65536)).toNat) + (b8 (x / 256)).toNat) + (b8 x).toNat : Nat) : Int) = x
  have h1 := b8_nat (x / 16777216)
  have h2 := b8_nat (x / 65536)
  have h3 := b8_nat (x / 256)
  have h4 := b8_nat x
  omega
theorem hi2_val (c d : UInt8) : hi2 ((valL [c, d] : Nat) : Int) = [c, d] := by
  have h : ((valL [c, d] : Nat) : Int) = 256 * (c.toNat : Int) + (d.toNat : Int) := by show ((256 * (256 * 0 + c.toNat) + d.toNat : Nat) : Int) = _; omega
  have h1 := u8_lt c
  have h2 := u8_lt d
  unfold hi2
  rw [h, show (256 * (c.toNat : Int) + (d.toNat : Int)) / 256 = (c.toNat : Int) by omega, b8_self, b8_mod _ (d.toNat : Int) (by omega), b8_self]
theorem hi4_val (c d e f : UInt8) : hi4 ((valL [c, d, e, f] : Nat) : Int) = [c, d, e, f] := by
  have h : ((valL [c, d, e, f] : Nat) : Int) = 16777216 * (c.toNat : Int) + 65536 * (d.toNat : Int) + 256 * (e.toNat : Int) + (f.toNat : Int) := by
    show ((256 * (256 * (256 * (256 * 0 + c.toNat) + d.toNat) + e.toNat) + f.toNat : Nat) : Int) = _; omega
  have h1 := u8_lt c
  have h2 := u8_lt d
  have h3 := u8_lt e
  have h4 := u8_lt f
  unfold hi4
  have e1 : b8 (((valL [c, d, e, f] : Nat) : Int) / 16777216) = c := by rw [h, b8_mod _ (c.toNat : Int) (by omega), b8_self]
  have e2 : b8 (((valL [c, d, e, f] : Nat) : Int) / 65536) = d := by rw [h, b8_mod _ (d.toNat : Int) (by omega), b8_self]
  have e3 : b8 (((valL [c, d, e, f] : Nat) : Int) / 256) = e := by rw [h, b8_mod _ (e.toNat : Int) (by omega), b8_self]
  have e4 : b8 ((valL [c, d, e, f] : Nat) : Int) = f := by rw [h, b8_mod _ (f.toNat : Int) (by omega), b8_self]
  rw [e1, e2, e3, e4]
theorem val2_lt (c d : UInt8) : valL [c, d] < 65536 := by
  show 256 * (256 * 0 + c.toNat) + d.toNat < 65536
  have h1 := c.toNat_lt
  have h2 := d.toNat_lt
  omega
theorem val4_lt (c d e f : UInt8) : valL [c, d, e, f] < 4294967296 := by
  show 256 * (256 * (256 * (256 * 0 + c.toNat) + d.toNat) + e.toNat) + f.toNat < 4294967296
  have h1 := c.toNat_lt
  have h2 := d.toNat_lt
  have h3 := e.toNat_lt
  have h4 := f.toNat_lt
  omega
theorem keyE_ok {n p b l a s : Int} (h : keyE n p b l a s = 0) : n = 0 ∧ ok p b l a s := by
  unfold keyE at h
  by_cases ho : ok p b l a s
  · rw [if_pos ho] at h
    by_cases hn : n = 0
    · exact ⟨hn, ho⟩
    · rw [if_neg hn] at h; omega
  · rw [if_neg ho] at h; omega
theorem numE_ok {n p b l a s : Int} (h : numE n p b l a s = 0) : (-2147483648 ≤ n ∧ n ≤ 2147483647) ∧ p = 0 ∧ b = 0 ∧ l = 0 ∧ a = 0 ∧ s = 0 := by
  unfold numE at h
  by_cases hn : -2147483648 ≤ n ∧ n ≤ 2147483647
  · rw [if_pos hn] at h
    by_cases hz : p = 0 ∧ b = 0 ∧ l = 0 ∧ a = 0 ∧ s = 0
    · exact ⟨hn, hz⟩
    · rw [if_neg hz] at h; omega
  · rw [if_neg hn] at h; omega
/-- A value is read as it was packed. -/
theorem unp_full (i : Bool) (n p b l a s : Int) (h : chkV i n p b l a s = 0) : unp (fullL i n p b l a s) = ⟨i, n, p, b, l, a, s, 0⟩ := by
  cases i
  · obtain ⟨h1, rfl, rfl, rfl, rfl, rfl⟩ := numE_ok h
    show (if (0 : UInt8) = 1 then (⟨true, 0, ((b8 ((n + 2147483648) / 16777216)).toNat : Int), ((valL [b8 ((n + 2147483648) / 256), b8 (n + 2147483648)] : Nat) : Int), ((valL [0, 0] : Nat) : Int), ((valL [0, 0] : Nat) : Int), ((b8 ((n + 2147483648) / 65536)).toNat : Int), 0⟩ : VV) else (⟨false, ((valL (hi4 (n + 2147483648)) : Nat) : Int) - 2147483648, 0, 0, 0, 0, 0, 0⟩ : VV)) = _
    rw [if_neg (by decide), val4 _ (by omega)]
    congr 1
    omega
  · obtain ⟨rfl, ho⟩ := keyE_ok h
    unfold ok at ho
    show (if (1 : UInt8) = 1 then (⟨true, 0, ((b8 p).toNat : Int), ((valL (hi2 b) : Nat) : Int), ((valL (hi2 l) : Nat) : Int), ((valL (hi2 a) : Nat) : Int), ((b8 s).toNat : Int), 0⟩ : VV) else (⟨false, ((valL [b8 p, b8 s, b8 (b / 256), b8 b] : Nat) : Int) - 2147483648, 0, 0, 0, 0, 0, 0⟩ : VV)) = _
    rw [if_pos rfl, val2 b (by omega), val2 l (by omega), val2 a (by omega), b8_nat, b8_nat, show p % 256 = p by omega, show s % 256 = s by omega]
theorem full_sum (i : Bool) (n p b l a s : Int) : (fullL i n p b l a s).getD 9 0 = sumL ((fullL i n p b l a s).take 9) := by
  have h := body_len i n p b l a s
  unfold fullL
  rw [List.take_append_of_le_length (by omega), List.take_of_length_le (by omega), List.getD_eq_getElem?_getD, List.getElem?_append_right (by omega), h]
  rfl
theorem read_pack (i : Bool) (n p b l a s : Int) (h : chkV i n p b l a s = 0) : readV (packB i n p b l a s) = ⟨i, n, p, b, l, a, s, 0⟩ := by
  have e : (packB i n p b l a s).data.toList = fullL i n p b l a s := by unfold packB; rw [pack_yes h]
  unfold readV readL
  rw [e, full_len, if_neg (by decide), if_neg (by decide), if_pos (full_sum i n p b l a s), unp_full i n p b l a s h]
  have : packV ⟨i, n, p, b, l, a, s, 0⟩ = fullL i n p b l a s := pack_yes h
  rw [if_pos this]
/-- What is read is packed so; with an error nothing is read. -/
theorem read_cases (s : ByteArray) : (∃ e, ¬ e = 0 ∧ readV s = errV e) ∨
    ((readV s).e = 0 ∧ chkV (readV s).i (readV s).n (readV s).p (readV s).b (readV s).l (readV s).a (readV s).s = 0 ∧ packB (readV s).i (readV s).n (readV s).p (readV s).b (readV s).l (readV s).a (readV s).s = s ∧ s.data.toList.length = 10) := by
  by_cases h1 : s.data.toList.length < 10
  · exact .inl ⟨4, by decide, by unfold readV readL; rw [if_pos h1]⟩
  by_cases h2 : 10 < s.data.toList.length
  · exact .inl ⟨5, by decide, by unfold readV readL; rw [if_neg h1, if_pos h2]⟩
  by_cases h3 : s.data.toList.getD 9 0 = sumL (s.data.toList.take 9)
  · by_cases h4 : packV (unp s.data.toList) = s.data.toList
    · have hr : readV s = unp s.data.toList := by unfold readV readL; rw [if_neg h1, if_neg h2, if_pos h3, if_pos h4]
      have hl : s.data.toList.length = 10 := by omega
      refine .inr ⟨?_, ?_, ?_, hl⟩
      · obtain ⟨c0, c1, c2, c3, c4, c5, c6, c7, c8, c9, hc⟩ := list10 hl
        rw [hr, hc]
        show (if c0 = 1 then _ else _ : VV).e = 0
        by_cases hx : c0 = 1
        · rw [if_pos hx]
        · rw [if_neg hx]
      · rw [hr]
        by_cases hz : chkV (unp s.data.toList).i (unp s.data.toList).n (unp s.data.toList).p (unp s.data.toList).b (unp s.data.toList).l (unp s.data.toList).a (unp s.data.toList).s = 0
        · exact hz
        · unfold packV at h4
          rw [pack_no hz] at h4
          rw [← h4] at hl
          cases hl
      · rw [hr]
        have h5 : packL (unp s.data.toList).i (unp s.data.toList).n (unp s.data.toList).p (unp s.data.toList).b (unp s.data.toList).l (unp s.data.toList).a (unp s.data.toList).s = s.data.toList := h4
        unfold packB
        rw [h5]
    · exact .inl ⟨5, by decide, by unfold readV readL; rw [if_neg h1, if_neg h2, if_pos h3, if_neg h4]⟩
  · exact .inl ⟨6, by decide, by unfold readV readL; rw [if_neg h1, if_neg h2, if_neg h3]⟩
end Go.Proofs.Ytlfeglljpfihhaa
