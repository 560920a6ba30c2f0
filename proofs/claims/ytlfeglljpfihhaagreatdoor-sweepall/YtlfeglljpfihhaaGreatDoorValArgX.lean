/- A value that comes in as an argument: taken apart into its bool and six numbers, and read again behind the call. Plain: what chapter 5 says of values and their ten bytes, on numbers and lists of bytes; no program is in it. A list of values that comes in as an argument: where its cells lie. -/
import Derived.Test.YtlfeglljpfihhaaGreatDoorRows
import Derived.Test.YtlfeglljpfihhaaGreatDoorInstShapeX
import Derived.WalkKit
import Derived.ProofKit
import Derived.OpenShut
import Derived.Test.YtlfeglljpfihhaaGreatDoorCardBaseX
import Derived.Below
import Derived.Deep.Slices
namespace Go.Proofs.YtlfeglljpfihhaaGreatDoor
section
open Go.ChangeShapes Go.WideShapes Go.ChangeAt Go.RowKit
set_option maxRecDepth 100000

theorem array7 {α : Type} {cs : Array α} (h : cs.size = 7) : ∃ c0 c1 c2 c3 c4 c5 c6, cs = #[c0, c1, c2, c3, c4, c5, c6] := by
  obtain ⟨l⟩ := cs
  match l, h with
  | [c0, c1, c2, c3, c4, c5, c6], _ => exact ⟨c0, c1, c2, c3, c4, c5, c6, rfl⟩
theorem list3 {α : Type} {l : List α} (h : l.length = 3) : ∃ c0 c1 c2, l = [c0, c1, c2] := by
  match l, h with
  | [c0, c1, c2], _ => exact ⟨c0, c1, c2, rfl⟩
theorem cells_val : Tryz.prog.cellsOf 25 = 7 := by kernel_rfl
theorem cells_bool : Tryz.prog.cellsOf 4 = 1 := by kernel_rfl

section
variable {H : Type} {enc : TypeId × Value → H} {w : World} {base : Nat} {spare : Nat → Bool} {held : Bool}
theorem one_bool {n : Nat} {c : Value} {y : DataW H × List MemPlace} (h : some y = DataW.trod enc Tryz.prog w base spare held n 4 [c]) :
    ∃ x : Bool, c = .bool x ∧ y = (.lit (.bool x), []) := by
  obtain ⟨x, e, rfl⟩ := DataW.trod_bool Tryz.underlying4 h.symm
  simp at e
  exact ⟨x, e, rfl⟩
theorem five_key {n : Nat} {c0 c1 c2 c3 c4 : Value} {y : DataW H × List MemPlace} (h : some y = DataW.trod enc Tryz.prog w base spare held n 23 [c0, c1, c2, c3, c4]) :
    ∃ x0 x1 x2 x3 x4 : Int, c0 = .int .i64 x0 ∧ c1 = .int .i64 x1 ∧ c2 = .int .i64 x2 ∧ c3 = .int .i64 x3 ∧ c4 = .int .i64 x4 ∧
      y = (.agg [.lit (.int .i64 x0), .lit (.int .i64 x1), .lit (.int .i64 x2), .lit (.int .i64 x3), .lit (.int .i64 x4)], []) ∧
      (Lit.int .i64 x0).wf = true ∧ (Lit.int .i64 x1).wf = true ∧ (Lit.int .i64 x2).wf = true ∧ (Lit.int .i64 x3).wf = true ∧ (Lit.int .i64 x4).wf = true := by
  obtain ⟨xs, n, _, hx, _, hlen, hg⟩ := DataW.trod_struct Tryz.underlying23 h.symm
  obtain ⟨y0, y1, y2, y3, y4, rfl⟩ := list5 hlen
  have g0 := hg 0 _ rfl
  have g1 := hg 1 _ rfl
  have g2 := hg 2 _ rfl
  have g3 := hg 3 _ rfl
  have g4 := hg 4 _ rfl
  simp [cells_int] at g0 g1 g2 g3 g4
  obtain ⟨x0, rfl, rfl, w0⟩ := one_int g0.symm
  obtain ⟨x1, rfl, rfl, w1⟩ := one_int g1.symm
  obtain ⟨x2, rfl, rfl, w2⟩ := one_int g2.symm
  obtain ⟨x3, rfl, rfl, w3⟩ := one_int g3.symm
  obtain ⟨x4, rfl, rfl, w4⟩ := one_int g4.symm
  exact ⟨x0, x1, x2, x3, x4, rfl, rfl, rfl, rfl, rfl, by simpa using hx, w0, w1, w2, w3, w4⟩
theorem open_val {r : Reach} {b0 : Nat} {v : Value} {d : DataW H} {p : List MemPlace} (hv : Value.okWide Tryz.prog w r b0 25 v)
    (h : DataW.Trod enc Tryz.prog w base spare held 25 v d p) :
    ∃ (i : Bool) (n x0 x1 x2 x3 x4 : Int), v = .agg #[.bool i, .int .i64 n, .int .i64 x0, .int .i64 x1, .int .i64 x2, .int .i64 x3, .int .i64 x4] ∧
      d = .agg [.lit (.bool i), .lit (.int .i64 n), .agg [.lit (.int .i64 x0), .lit (.int .i64 x1), .lit (.int .i64 x2), .lit (.int .i64 x3), .lit (.int .i64 x4)]] ∧ p = [] ∧
      (Lit.int .i64 n).wf = true ∧ (Lit.int .i64 x0).wf = true ∧ (Lit.int .i64 x1).wf = true ∧ (Lit.int .i64 x2).wf = true ∧ (Lit.int .i64 x3).wf = true ∧ (Lit.int .i64 x4).wf = true := by
  obtain ⟨cs, rfl, hsz⟩ := okWide_struct Tryz.underlying25 hv
  obtain ⟨c0, c1, c2, c3, c4, c5, c6, rfl⟩ := array7 (hsz.trans cells_val)
  obtain ⟨fuel, hf⟩ := h
  obtain ⟨xs, n, _, hx, _, hlen, hg⟩ := DataW.trod_struct Tryz.underlying25 hf
  obtain ⟨y0, y1, y2, rfl⟩ := list3 hlen
  have g0 := hg 0 _ rfl
  have g1 := hg 1 _ rfl
  have g2 := hg 2 _ rfl
  simp [Value.cells, cells_int, cells_bool, cells_key] at g0 g1 g2
  obtain ⟨i, rfl, rfl⟩ := one_bool g0.symm
  obtain ⟨m, rfl, rfl, wn⟩ := one_int g1.symm
  obtain ⟨x0, x1, x2, x3, x4, rfl, rfl, rfl, rfl, rfl, rfl, w0, w1, w2, w3, w4⟩ := five_key g2.symm
  simp only [Prod.mk.injEq] at hx
  exact ⟨i, m, x0, x1, x2, x3, x4, rfl, by simpa using hx.1, by simpa using hx.2, wn, w0, w1, w2, w3, w4⟩
theorem shut_val {i : Bool} {n x0 x1 x2 x3 x4 : Int} (wn : (Lit.int .i64 n).wf = true) (w0 : (Lit.int .i64 x0).wf = true) (w1 : (Lit.int .i64 x1).wf = true) (w2 : (Lit.int .i64 x2).wf = true) (w3 : (Lit.int .i64 x3).wf = true) (w4 : (Lit.int .i64 x4).wf = true) :
    DataW.Trod enc Tryz.prog w base spare held 25 (.agg #[.bool i, .int .i64 n, .int .i64 x0, .int .i64 x1, .int .i64 x2, .int .i64 x3, .int .i64 x4])
      (.agg [.lit (.bool i), .lit (.int .i64 n), .agg [.lit (.int .i64 x0), .lit (.int .i64 x1), .lit (.int .i64 x2), .lit (.int .i64 x3), .lit (.int .i64 x4)]]) [] := by
  have one : ∀ (k : Nat) (x : Int), (Lit.int .i64 x).wf = true → DataW.trod enc Tryz.prog w base spare held (k + 1) 3 [.int .i64 x] = some (.lit (.int .i64 x), []) := fun k x hx => by
    simp [DataW.trod, Tryz.underlying3, hx]
  have oneb : DataW.trod enc Tryz.prog w base spare held 2 4 [.bool i] = some (.lit (.bool i), []) := by
    simp [DataW.trod, Tryz.underlying4]
  have key : DataW.trod enc Tryz.prog w base spare held 2 23 [.int .i64 x0, .int .i64 x1, .int .i64 x2, .int .i64 x3, .int .i64 x4] =
      some (.agg [.lit (.int .i64 x0), .lit (.int .i64 x1), .lit (.int .i64 x2), .lit (.int .i64 x3), .lit (.int .i64 x4)], []) := by
    have t := trod_struct_mk (enc := enc) (w := w) (base := base) (spare := spare) (held := held) (n := 1) (cs := [.int .i64 x0, .int .i64 x1, .int .i64 x2, .int .i64 x3, .int .i64 x4])
      (xs := [(.lit (.int .i64 x0), []), (.lit (.int .i64 x1), []), (.lit (.int .i64 x2), []), (.lit (.int .i64 x3), []), (.lit (.int .i64 x4), [])]) Tryz.underlying23 (by simp [cells_key])
      (by simp [cells_int, one 0 _ w0, one 0 _ w1, one 0 _ w2, one 0 _ w3, one 0 _ w4])
    simpa using t
  have t := trod_struct_mk (enc := enc) (w := w) (base := base) (spare := spare) (held := held) (n := 2) (cs := [.bool i, .int .i64 n, .int .i64 x0, .int .i64 x1, .int .i64 x2, .int .i64 x3, .int .i64 x4])
    (xs := [(.lit (.bool i), []), (.lit (.int .i64 n), []), (.agg [.lit (.int .i64 x0), .lit (.int .i64 x1), .lit (.int .i64 x2), .lit (.int .i64 x3), .lit (.int .i64 x4)], [])]) Tryz.underlying25 (by simp [cells_val])
    (by simp [cells_int, cells_bool, cells_key, oneb, one 1 _ wn, key])
  exact ⟨3, by simpa [Value.cells] using t⟩
end
end
section
open Go.RowKit

/-- A byte as a cell; the last eight bits of a number. -/
def bc (b : UInt8) : Value := .int .u8 (b.toNat : Int)
def b8 (x : Int) : UInt8 := UInt8.ofNat (x % 256).toNat
theorem b8_nat (x : Int) : ((b8 x).toNat : Int) = x % 256 := by
  unfold b8
  have h1 : 0 ≤ x % 256 := Int.emod_nonneg _ (by decide)
  have h2 : x % 256 < 256 := Int.emod_lt_of_pos _ (by decide)
  rw [UInt8.toNat_ofNat_of_lt' (by show (x % 256).toNat < 256; omega)]
  omega
theorem b8_wrap (x : Int) : IntKind.u8.wrap x = ((b8 x).toNat : Int) := by
  rw [b8_nat]; simp only [IntKind.wrap_u8]
theorem u8_ext {a b : UInt8} (h : (a.toNat : Int) = (b.toNat : Int)) : a = b := UInt8.toNat_inj.1 (by omega)
theorem b8_mod (x y : Int) (h : x % 256 = y % 256) : b8 x = b8 y := u8_ext (by rw [b8_nat, b8_nat, h])
theorem b8_self (c : UInt8) : b8 (c.toNat : Int) = c := u8_ext (by rw [b8_nat]; have := c.toNat_lt; omega)
theorem u8_lt (c : UInt8) : (c.toNat : Int) < 256 := by have := c.toNat_lt; omega

/-- A value, and what went wrong. -/
structure VV where
  i : Bool
  n : Int
  p : Int
  b : Int
  l : Int
  a : Int
  s : Int
  e : Int
def errV (e : Int) : VV := ⟨false, 0, 0, 0, 0, 0, 0, e⟩
def vb (n p b l a s : Int) : Prop := (-9223372036854775808 ≤ n ∧ n ≤ 9223372036854775807) ∧ kb p b l a s
def numE (n p b l a s : Int) : Int := if -2147483648 ≤ n ∧ n ≤ 2147483647 then (if p = 0 ∧ b = 0 ∧ l = 0 ∧ a = 0 ∧ s = 0 then 0 else 5) else 1
def keyE (n p b l a s : Int) : Int := @ite Int (ok p b l a s) (decOk p b l a s) (if n = 0 then 0 else 5) 1
/-- P10. -/
def chkV : Bool → Int → Int → Int → Int → Int → Int → Int
  | true, n, p, b, l, a, s => keyE n p b l a s
  | false, n, p, b, l, a, s => numE n p b l a s
/-- Have both nothing that differs? -/
def sameB (i : Bool) (n p b l a s : Int) (i' : Bool) (n' p' b' l' a' s' : Int) : Bool :=
  i == i' && (n == n' && (p == p' && (b == b' && (l == l' && (a == a' && s == s')))))

def hi2 (x : Int) : List UInt8 := [b8 (x / 256), b8 x]
def hi4 (x : Int) : List UInt8 := [b8 (x / 16777216), b8 (x / 65536), b8 (x / 256), b8 x]
def numL (n : Int) : List UInt8 := [0] ++ hi4 (n + 2147483648) ++ [0, 0, 0, 0]
def keyL (p b l a s : Int) : List UInt8 := [1, b8 p, b8 s] ++ hi2 b ++ hi2 l ++ hi2 a
def bodyL : Bool → Int → Int → Int → Int → Int → Int → List UInt8
  | true, _, p, b, l, a, s => keyL p b l a s
  | false, n, _, _, _, _, _ => numL n
def sumL (l : List UInt8) : UInt8 := l.foldl (fun x y => x + y) 0
def fullL (i : Bool) (n p b l a s : Int) : List UInt8 := bodyL i n p b l a s ++ [sumL (bodyL i n p b l a s)]
/-- P11. -/
def packL (i : Bool) (n p b l a s : Int) : List UInt8 := if chkV i n p b l a s = 0 then fullL i n p b l a s else []
def packB (i : Bool) (n p b l a s : Int) : ByteArray := ⟨(packL i n p b l a s).toArray⟩
def valL (l : List UInt8) : Nat := l.foldl (fun n b => 256 * n + b.toNat) 0
def sumN (l : List UInt8) : Nat := l.foldl (fun n b => n + b.toNat) 0
/-- What ten bytes can be Pack of. -/
def unp : List UInt8 → VV
  | [c0, c1, c2, c3, c4, c5, c6, c7, c8, _] =>
    if c0 = 1 then ⟨true, 0, c1.toNat, valL [c3, c4], valL [c5, c6], valL [c7, c8], c2.toNat, 0⟩ else ⟨false, valL [c1, c2, c3, c4] - 2147483648, 0, 0, 0, 0, 0, 0⟩
  | _ => errV 0
def packV (v : VV) : List UInt8 := packL v.i v.n v.p v.b v.l v.a v.s
def readL (l : List UInt8) : VV :=
  if l.length < 10 then errV 4 else if 10 < l.length then errV 5 else if l.getD 9 0 = sumL (l.take 9) then (if packV (unp l) = l then unp l else errV 5) else errV 6
def readV (s : ByteArray) : VV := readL s.data.toList

theorem body_len (i : Bool) (n p b l a s : Int) : (bodyL i n p b l a s).length = 9 := by cases i <;> rfl
theorem full_len (i : Bool) (n p b l a s : Int) : (fullL i n p b l a s).length = 10 := by unfold fullL; rw [List.length_append, body_len]; rfl
theorem pack_yes {i : Bool} {n p b l a s : Int} (h : chkV i n p b l a s = 0) : packL i n p b l a s = fullL i n p b l a s := by unfold packL; rw [if_pos h]
theorem pack_no {i : Bool} {n p b l a s : Int} (h : ¬ chkV i n p b l a s = 0) : packL i n p b l a s = [] := by unfold packL; rw [if_neg h]
theorem list10 {α : Type} {l : List α} (h : l.length = 10) : ∃ c0 c1 c2 c3 c4 c5 c6 c7 c8 c9, l = [c0, c1, c2, c3, c4, c5, c6, c7, c8, c9] := by
  match l, h with
  | [c0, c1, c2, c3, c4, c5, c6, c7, c8, c9], _ => exact ⟨c0, c1, c2, c3, c4, c5, c6, c7, c8, c9, rfl⟩
theorem val2 (x : Int) (h : 0 ≤ x ∧ x < 65536) : ((valL (hi2 x) : Nat) : Int) = x := by
  show ((256 * (256 * 0 + (b8 (x / 256)).toNat) + (b8 x).toNat : Nat) : Int) = x
  have h1 := b8_nat (x / 256)
  have h2 := b8_nat x
  omega
theorem val4 (x : Int) (h : 0 ≤ x ∧ x < 4294967296) : ((valL (hi4 x) : Nat) : Int) = x := by
  show ((256 * (256 * (256 * (256 * 0 + (b8 (x / 16777216)).toNat) + (b8 (x / 65536)).toNat) + (b8 (x / 256)).toNat) + (b8 x).toNat : Nat) : Int) = x
  have h1 := b8_nat (x / 16777216)
  have h2 := b8_nat (x / 65536)
  have h3 := b8_nat (x / 256)
  have h4 := b8_nat x
  omega
theorem hi2_val (c d : UInt8) : hi2 ((valL [c, d] : Nat) : Int) = [c, d] := by
  have h : ((valL [c, d] : Nat) : Int) = 256 * (c.toNat : Int) + (d.toNat : Int) := by show ((256 * (256 * 0 + c.toNat) + d.toNat : Nat) : Int) = _; omega
  have h1 := u8_lt c
  have h2 := u8_lt d
  unfold hi2
  rw [h, show (256 * (c.toNat : Int) + (d.toNat : Int)) / 256 = (c.toNat : Int) by omega, b8_self, b8_mod _ (d.toNat : Int) (by omega), b8_self]
theorem hi4_val (c d e f : UInt8) : hi4 ((valL [c, d, e, f] : Nat) : Int) = [c, d, e, f] := by
  have h : ((valL [c, d, e, f] : Nat) : Int) = 16777216 * (c.toNat : Int) + 65536 * (d.toNat : Int) + 256 * (e.toNat : Int) + (f.toNat : Int) := by
    show ((256 * (256 * (256 * (256 * 0 + c.toNat) + d.toNat) + e.toNat) + f.toNat : Nat) : Int) = _; omega
  have h1 := u8_lt c
  have h2 := u8_lt d
  have h3 := u8_lt e
  have h4 := u8_lt f
  unfold hi4
  have e1 : b8 (((valL [c, d, e, f] : Nat) : Int) / 16777216) = c := by rw [h, b8_mod _ (c.toNat : Int) (by omega), b8_self]
  have e2 : b8 (((valL [c, d, e, f] : Nat) : Int) / 65536) = d := by rw [h, b8_mod _ (d.toNat : Int) (by omega), b8_self]
  have e3 : b8 (((valL [c, d, e, f] : Nat) : Int) / 256) = e := by rw [h, b8_mod _ (e.toNat : Int) (by omega), b8_self]
  have e4 : b8 ((valL [c, d, e, f] : Nat) : Int) = f := by rw [h, b8_mod _ (f.toNat : Int) (by omega), b8_self]
  rw [e1, e2, e3, e4]
theorem val2_lt (c d : UInt8) : valL [c, d] < 65536 := by
  show 256 * (256 * 0 + c.toNat) + d.toNat < 65536
  have h1 := c.toNat_lt
  have h2 := d.toNat_lt
  omega
theorem val4_lt (c d e f : UInt8) : valL [c, d, e, f] < 4294967296 := by
  show 256 * (256 * (256 * (256 * 0 + c.toNat) + d.toNat) + e.toNat) + f.toNat < 4294967296
  have h1 := c.toNat_lt
  have h2 := d.toNat_lt
  have h3 := e.toNat_lt
  have h4 := f.toNat_lt
  omega
theorem keyE_ok {n p b l a s : Int} (h : keyE n p b l a s = 0) : n = 0 ∧ ok p b l a s := by
  unfold keyE at h
  by_cases ho : ok p b l a s
  · rw [if_pos ho] at h
    by_cases hn : n = 0
    · exact ⟨hn, ho⟩
    · rw [if_neg hn] at h; omega
  · rw [if_neg ho] at h; omega
theorem numE_ok {n p b l a s : Int} (h : numE n p b l a s = 0) : (-2147483648 ≤ n ∧ n ≤ 2147483647) ∧ p = 0 ∧ b = 0 ∧ l = 0 ∧ a = 0 ∧ s = 0 := by
  unfold numE at h
  by_cases hn : -2147483648 ≤ n ∧ n ≤ 2147483647
  · rw [if_pos hn] at h
    by_cases hz : p = 0 ∧ b = 0 ∧ l = 0 ∧ a = 0 ∧ s = 0
    · exact ⟨hn, hz⟩
    · rw [if_neg hz] at h; omega
  · rw [if_neg hn] at h; omega
/-- A value is read as it was packed. -/
theorem unp_full (i : Bool) (n p b l a s : Int) (h : chkV i n p b l a s = 0) : unp (fullL i n p b l a s) = ⟨i, n, p, b, l, a, s, 0⟩ := by
  cases i
  · obtain ⟨h1, rfl, rfl, rfl, rfl, rfl⟩ := numE_ok h
    show (if (0 : UInt8) = 1 then (⟨true, 0, ((b8 ((n + 2147483648) / 16777216)).toNat : Int), ((valL [b8 ((n + 2147483648) / 256), b8 (n + 2147483648)] : Nat) : Int), ((valL [0, 0] : Nat) : Int), ((valL [0, 0] : Nat) : Int), ((b8 ((n + 2147483648) / 65536)).toNat : Int), 0⟩ : VV) else (⟨false, ((valL (hi4 (n + 2147483648)) : Nat) : Int) - 2147483648, 0, 0, 0, 0, 0, 0⟩ : VV)) = _
    rw [if_neg (by decide), val4 _ (by omega)]
    congr 1
    omega
  · obtain ⟨rfl, ho⟩ := keyE_ok h
    unfold ok at ho
    show (if (1 : UInt8) = 1 then (⟨true, 0, ((b8 p).toNat : Int), ((valL (hi2 b) : Nat) : Int), ((valL (hi2 l) : Nat) : Int), ((valL (hi2 a) : Nat) : Int), ((b8 s).toNat : Int), 0⟩ : VV) else (⟨false, ((valL [b8 p, b8 s, b8 (b / 256), b8 b] : Nat) : Int) - 2147483648, 0, 0, 0, 0, 0, 0⟩ : VV)) = _
    rw [if_pos rfl, val2 b (by omega), val2 l (by omega), val2 a (by omega), b8_nat, b8_nat, show p % 256 = p by omega, show s % 256 = s by omega]
theorem full_sum (i : Bool) (n p b l a s : Int) : (fullL i n p b l a s).getD 9 0 = sumL ((fullL i n p b l a s).take 9) := by
  have h := body_len i n p b l a s
  unfold fullL
  rw [List.take_append_of_le_length (by omega), List.take_of_length_le (by omega), List.getD_eq_getElem?_getD, List.getElem?_append_right (by omega), h]
  rfl
theorem read_pack (i : Bool) (n p b l a s : Int) (h : chkV i n p b l a s = 0) : readV (packB i n p b l a s) = ⟨i, n, p, b, l, a, s, 0⟩ := by
  have e : (packB i n p b l a s).data.toList = fullL i n p b l a s := by unfold packB; rw [pack_yes h]
  unfold readV readL
  rw [e, full_len, if_neg (by decide), if_neg (by decide), if_pos (full_sum i n p b l a s), unp_full i n p b l a s h]
  have : packV ⟨i, n, p, b, l, a, s, 0⟩ = fullL i n p b l a s := pack_yes h
  rw [if_pos this]
/-- What is read is packed so; with an error nothing is read. -/
theorem read_cases (s : ByteArray) : (∃ e, ¬ e = 0 ∧ readV s = errV e) ∨
    ((readV s).e = 0 ∧ chkV (readV s).i (readV s).n (readV s).p (readV s).b (readV s).l (readV s).a (readV s).s = 0 ∧ packB (readV s).i (readV s).n (readV s).p (readV s).b (readV s).l (readV s).a (readV s).s = s ∧ s.data.toList.length = 10) := by
  by_cases h1 : s.data.toList.length < 10
  · exact .inl ⟨4, by decide, by unfold readV readL; rw [if_pos h1]⟩
  by_cases h2 : 10 < s.data.toList.length
  · exact .inl ⟨5, by decide, by unfold readV readL; rw [if_neg h1, if_pos h2]⟩
  by_cases h3 : s.data.toList.getD 9 0 = sumL (s.data.toList.take 9)
  · by_cases h4 : packV (unp s.data.toList) = s.data.toList
    · have hr : readV s = unp s.data.toList := by unfold readV readL; rw [if_neg h1, if_neg h2, if_pos h3, if_pos h4]
      have hl : s.data.toList.length = 10 := by omega
      refine .inr ⟨?_, ?_, ?_, hl⟩
      · obtain ⟨c0, c1, c2, c3, c4, c5, c6, c7, c8, c9, hc⟩ := list10 hl
        rw [hr, hc]
        show (if c0 = 1 then _ else _ : VV).e = 0
        by_cases hx : c0 = 1
        · rw [if_pos hx]
        · rw [if_neg hx]
      · rw [hr]
        by_cases hz : chkV (unp s.data.toList).i (unp s.data.toList).n (unp s.data.toList).p (unp s.data.toList).b (unp s.data.toList).l (unp s.data.toList).a (unp s.data.toList).s = 0
        · exact hz
        · unfold packV at h4
          rw [pack_no hz] at h4
          rw [← h4] at hl
          cases hl
      · rw [hr]
        have h5 : packL (unp s.data.toList).i (unp s.data.toList).n (unp s.data.toList).p (unp s.data.toList).b (unp s.data.toList).l (unp s.data.toList).a (unp s.data.toList).s = s.data.toList := h4
        unfold packB
        rw [h5]
    · exact .inl ⟨5, by decide, by unfold readV readL; rw [if_neg h1, if_neg h2, if_pos h3, if_neg h4]⟩
  · exact .inl ⟨6, by decide, by unfold readV readL; rw [if_neg h1, if_neg h2, if_neg h3]⟩
end
section
open Go.ChangeShapes Go.WideShapes Go.ChangeAt Go.RowKit
set_option maxRecDepth 100000

theorem addr_add (B off n : Nat) : (⟨B, off, none⟩ : Addr).add n = ⟨B, off + n, none⟩ := by unfold Addr.add; split <;> simp_all
/-- A value: a bool and six numbers. -/
structure MV where
  i : Bool
  n : Int
  p : Int
  b : Int
  l : Int
  a : Int
  s : Int
def nil0 : MV := ⟨false, 0, 0, 0, 0, 0, 0⟩
def mvC (v : MV) : List Value := [.bool v.i, .int .i64 v.n, .int .i64 v.p, .int .i64 v.b, .int .i64 v.l, .int .i64 v.a, .int .i64 v.s]
def mvA (v : MV) : Array Value := #[.bool v.i, .int .i64 v.n, .int .i64 v.p, .int .i64 v.b, .int .i64 v.l, .int .i64 v.a, .int .i64 v.s]
def mvOk (v : MV) : Prop := vb v.n v.p v.b v.l v.a v.s
theorem mv_len (vs : List MV) : (vs.flatMap mvC).length = vs.length * 7 := by
  induction vs with
  | nil => rfl
  | cons v vs ih => rw [List.flatMap_cons, List.length_append, ih, List.length_cons]; show 7 + _ = _; omega
theorem mv_cell : ∀ (vs : List MV) (k : Nat) (v : MV) (j : Nat), vs[k]? = some v → j < 7 → (vs.flatMap mvC)[k * 7 + j]? = (mvC v)[j]?
  | [], k, v, j, h, _ => by simp at h
  | c :: vs, 0, v, j, h, hj => by
    simp only [List.getElem?_cons_zero, Option.some.injEq] at h
    subst h
    rw [List.flatMap_cons, List.getElem?_append_left (by show _ < 7; omega), Nat.zero_mul, Nat.zero_add]
  | c :: vs, k + 1, v, j, h, hj => by
    have ih := mv_cell vs k v j (by simpa using h) hj
    rw [List.flatMap_cons, List.getElem?_append_right (by show 7 ≤ _; omega)]
    show (vs.flatMap mvC)[(k + 1) * 7 + j - 7]? = _
    rw [show (k + 1) * 7 + j - 7 = k * 7 + j by omega]
    exact ih
theorem mv_one (vs : List MV) : ∀ u ∈ vs.flatMap mvC, u.oneCell' = true := fun u hu => by
  obtain ⟨v, _, hv⟩ := List.mem_flatMap.1 hu
  simp only [mvC, List.mem_cons, List.not_mem_nil, or_false] at hv
  rcases hv with rfl | rfl | rfl | rfl | rfl | rfl | rfl <;> rfl
/-- Where a list of values lies. -/
def ValsAt (w : World) (a : Option Addr) (vs : List MV) : Prop :=
  vs = [] ∨ ∃ B off : Nat, a = some ⟨B, off, none⟩ ∧ B < w.heap.size ∧ ∀ (j : Nat) u, (vs.flatMap mvC)[j]? = some u → w.cell? ⟨B, off + j, none⟩ = some u
theorem ValsAt.below {w w' : World} {a : Option Addr} {vs : List MV} (h : ValsAt w a vs) (hb : Below w.heap.size w w') : ValsAt w' a vs := by
  rcases h with h | ⟨B, off, e, hB, hc⟩
  · exact .inl h
  · exact .inr ⟨B, off, e, Nat.lt_of_lt_of_le hB hb.size, fun j u hj => by rw [hb.cell (p := ⟨B, off + j, none⟩) hB]; exact hc j u hj⟩
/-- The seven cells of one of them. -/
def At7 (w : World) (B o : Nat) (v : MV) : Prop :=
  w.cell? ⟨B, o, none⟩ = some (.bool v.i) ∧ w.cell? ⟨B, o + 1, none⟩ = some (.int .i64 v.n) ∧ w.cell? ⟨B, o + 2, none⟩ = some (.int .i64 v.p) ∧ w.cell? ⟨B, o + 3, none⟩ = some (.int .i64 v.b) ∧
  w.cell? ⟨B, o + 4, none⟩ = some (.int .i64 v.l) ∧ w.cell? ⟨B, o + 5, none⟩ = some (.int .i64 v.a) ∧ w.cell? ⟨B, o + 6, none⟩ = some (.int .i64 v.s)
theorem ValsAt.at {w : World} {a : Option Addr} {vs : List MV} {k : Nat} {v : MV} (h : ValsAt w a vs) (hk : vs[k]? = some v) : ∃ B off : Nat, a = some ⟨B, off, none⟩ ∧ B < w.heap.size ∧ At7 w B (off + k * 7) v := by
  rcases h with rfl | ⟨B, off, e, hB, hc⟩
  · simp at hk
  · refine ⟨B, off, e, hB, ?_⟩
    have f : ∀ (j : Nat) (u : Value), j < 7 → (mvC v)[j]? = some u → w.cell? ⟨B, off + k * 7 + j, none⟩ = some u := fun j u hj hu => by
      rw [Nat.add_assoc]
      exact hc _ _ (by rw [mv_cell vs k v j hk hj]; exact hu)
    exact ⟨f 0 _ (by omega) rfl, f 1 _ (by omega) rfl, f 2 _ (by omega) rfl, f 3 _ (by omega) rfl, f 4 _ (by omega) rfl, f 5 _ (by omega) rfl, f 6 _ (by omega) rfl⟩
def mvsOk (vs : List MV) : Prop := ∀ v ∈ vs, mvOk v
theorem mvs_at {vs : List MV} {k : Nat} {v : MV} (h : mvsOk vs) (hk : vs[k]? = some v) : mvOk v := h v (List.mem_of_getElem? hk)
section
variable {H : Type} {enc : TypeId × Value → H} {w : World}
theorem cell_lt {w : World} {a : Addr} {v : Value} (h : w.cell? a = some v) : a.block < w.heap.size := by
  rcases Nat.lt_or_ge a.block w.heap.size with hl | hg
  · exact hl
  · unfold World.cell? at h
    rw [Array.getElem?_eq_none hg] at h
    simp at h
theorem list7 {α : Type} {l : List α} (h : l.length = 7) : ∃ c0 c1 c2 c3 c4 c5 c6, l = [c0, c1, c2, c3, c4, c5, c6] := by
  match l, h with
  | [c0, c1, c2, c3, c4, c5, c6], _ => exact ⟨c0, c1, c2, c3, c4, c5, c6, rfl⟩
theorem seven_val {n : Nat} {cs : List Value} {y : DataW H × List MemPlace} (hl : cs.length = 7) (h : some y = DataW.trod enc Tryz.prog w 0 (fun _ => true) true n 25 cs) : ∃ v : MV, cs = mvC v ∧ mvOk v := by
  obtain ⟨c0, c1, c2, c3, c4, c5, c6, rfl⟩ := list7 hl
  obtain ⟨xs, k, _, _, _, hxl, hg⟩ := DataW.trod_struct Tryz.underlying25 h.symm
  obtain ⟨y0, y1, y2, rfl⟩ := list3 hxl
  have g0 := hg 0 _ rfl
  have g1 := hg 1 _ rfl
  have g2 := hg 2 _ rfl
  simp [cells_int, cells_bool, cells_key] at g0 g1 g2
  obtain ⟨i, rfl, rfl⟩ := one_bool g0.symm
  obtain ⟨m, rfl, rfl, wn⟩ := one_int g1.symm
  obtain ⟨x0, x1, x2, x3, x4, rfl, rfl, rfl, rfl, rfl, rfl, w0, w1, w2, w3, w4⟩ := five_key g2.symm
  exact ⟨⟨i, m, x0, x1, x2, x3, x4⟩, rfl, bounds_i64 wn, bounds_i64 w0, bounds_i64 w1, bounds_i64 w2, bounds_i64 w3, bounds_i64 w4⟩
theorem list_of (n : Nat) (P : Nat → MV → Prop) (h : ∀ i, i < n → ∃ x, P i x) : ∃ xs : List MV, xs.length = n ∧ ∀ i x, xs[i]? = some x → P i x := by
  induction n with
  | zero => exact ⟨[], rfl, fun i x hx => by simp at hx⟩
  | succ n ih =>
    obtain ⟨xs, e, hp⟩ := ih (fun i hi => h i (by omega))
    obtain ⟨x, hx⟩ := h n (by omega)
    refine ⟨xs ++ [x], by simp [e], fun i y hy => ?_⟩
    rcases Nat.lt_or_ge i n with h1 | h1
    · rw [List.getElem?_append_left (by omega)] at hy
      exact hp i y hy
    · rw [List.getElem?_append_right (by omega)] at hy
      rcases Nat.eq_or_lt_of_le h1 with h2 | h2
      · subst h2
        rw [e, Nat.sub_self] at hy
        injection hy with hy
        subst hy
        exact hx
      · rw [List.getElem?_eq_none (by simp; omega)] at hy
        cases hy
theorem flat_of {w : World} {B off : Nat} : ∀ (vs : List MV), (∀ k v, vs[k]? = some v → ∀ j u, (mvC v)[j]? = some u → w.cell? ⟨B, off + k * 7 + j, none⟩ = some u) → ∀ (j : Nat) u, (vs.flatMap mvC)[j]? = some u → w.cell? ⟨B, off + j, none⟩ = some u := fun vs h j u hj => by
  have hlt : j < (vs.flatMap mvC).length := (List.getElem?_eq_some_iff.1 hj).1
  rw [mv_len] at hlt
  have hk : j / 7 < vs.length := by omega
  obtain ⟨v, hv⟩ : ∃ v, vs[j / 7]? = some v := ⟨_, List.getElem?_eq_getElem hk⟩
  have e : j = j / 7 * 7 + j % 7 := by omega
  rw [e, mv_cell vs (j / 7) v (j % 7) hv (by omega)] at hj
  have := h (j / 7) v hv (j % 7) u hj
  rw [Nat.add_assoc, ← e] at this
  exact this
theorem open_vals {a : Option Addr} {len cap : Nat} {d : DataW H} {p : List MemPlace} (h : DataW.Trod enc Tryz.prog w 0 (fun _ => true) true 27 (.slice a len cap) d p) : ∃ vs : List MV, vs.length = len ∧ len ≤ cap ∧ cap ≤ maxLen ∧ mvsOk vs ∧ ValsAt w a vs := by
  obtain ⟨fuel, hf⟩ := h
  rcases Go.Deep.open_slice Tryz.underlying27 hf with ⟨hcs, _⟩ | ⟨a', len', cap', m, n, D, Pl, hcs, _, hl, hm, hmm, _, hx⟩
  · simp [Value.cells] at hcs
    obtain ⟨rfl, rfl, rfl⟩ := hcs
    exact ⟨[], rfl, by omega, by unfold maxLen; omega, fun x hx => by simp at hx, .inl rfl⟩
  · simp [Value.cells] at hcs
    obtain ⟨rfl, rfl, rfl⟩ := hcs
    have hm' : m = cap := by simpa using hmm
    subst hm'
    obtain ⟨B, off, sp⟩ := a'
    have key : ∀ i, i < len → ∃ v : MV, mvOk v ∧ ∀ j u, (mvC v)[j]? = some u → w.cell? ((Addr.add ⟨B, off, sp⟩ (i * 7)).add j) = some u := by
      intro i hi
      obtain ⟨cs, h1, h2⟩ := hx i (by omega)
      rw [cells_val] at h1
      obtain ⟨_, hlen, hcell⟩ := World.cells?_some h1
      obtain ⟨v, rfl, hok⟩ := seven_val hlen h2.symm
      refine ⟨v, hok, fun j u hj => ?_⟩
      have hj7 : j < 7 := (List.getElem?_eq_some_iff.1 hj).1
      rw [hcell j hj7]
      exact hj
    obtain ⟨vs, hvl, hp⟩ := list_of len _ key
    refine ⟨vs, hvl, hl, hm, ?_, ?_⟩
    · intro v hv
      obtain ⟨i, hi⟩ := List.mem_iff_getElem?.1 hv
      exact (hp i v hi).1
    · rcases Nat.eq_zero_or_pos len with h0 | hpos
      · exact .inl (List.length_eq_zero_iff.1 (by omega))
      right
      obtain ⟨v0, hv0⟩ : ∃ v, vs[0]? = some v := ⟨_, List.getElem?_eq_getElem (by omega)⟩
      have h0 := (hp 0 v0 hv0).2 0 _ rfl
      have hsp : sp = none := by simpa [Addr.add] using World.cell?_spot h0
      subst hsp
      refine ⟨B, off, rfl, by simpa [Addr.add] using cell_lt h0, flat_of vs fun k v hk j u hj => ?_⟩
      have := (hp k v hk).2 j u hj
      rw [addr_add, addr_add] at this
      exact this
end
end
end Go.Proofs.YtlfeglljpfihhaaGreatDoor
