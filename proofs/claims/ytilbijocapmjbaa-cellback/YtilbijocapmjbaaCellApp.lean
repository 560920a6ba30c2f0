/- package cell's appendHighFirst: bytes that the call's own memory holds, and a number behind them, the highest byte first. -/
import Derived.Test.YtilbijocapmjbaaRows
import Derived.Test.YtilbijocapmjbaaBits
import Derived.Test.YtilbijocapmjbaaKeyPure
import Derived.Test.YtilbijocapmjbaaCellPure
import Derived.Test.YtilbijocapmjbaaCellBytes
import Derived.WalkKit
import Derived.ProofKit
import Derived.OpenShut
import Derived.Laws.IdiomStrings
import Derived.Laws.AppendOwn
import Derived.Deep.AppendLies
namespace Go.Proofs.Ytilbijocapmjbaa
open Go.ChangeShapes Go.WideShapes Go.ChangeAt Go.RowKit

theorem info_u8 : (Try.prog.info? 5).map (fun i => (i.zero, i.size, i.bytes)) = some (some (.int .u8 0), 1, 1) := by kernel_rfl
theorem info_u8' : ∃ i, Try.prog.info? 5 = some i ∧ i.zero = some (.int .u8 0) ∧ i.size = 1 ∧ i.bytes = 1 := by
  have := info_u8
  cases h : Try.prog.info? 5 with
  | none => rw [h] at this; cases this
  | some i => rw [h] at this; exact ⟨i, rfl, by simpa using this⟩
theorem own_below {w w' : World} {base : Nat} {e : TypeId} {size : Nat} {v : Value} {n : Nat} {xs : List Value} (h : w.ownsRow base e size v n xs) (hb : Below w.heap.size w w') : w'.ownsRow base e size v n xs := by
  obtain ⟨h1, h2⟩ := h
  refine ⟨h1, ?_⟩
  rcases h2 with h2 | ⟨g, cap, cur, e1, e2, e3, e4⟩
  · exact .inl h2
  · exact .inr ⟨g, cap, cur, e1, e2, by rw [hb.block g (Array.getElem?_eq_some_iff.1 e3).1]; exact e3, e4⟩
theorem own_mono {w : World} {base base' : Nat} {e : TypeId} {size : Nat} {v : Value} {n : Nat} {xs : List Value} (h : w.ownsRow base e size v n xs) (hb : base' ≤ base) : w.ownsRow base' e size v n xs := by
  obtain ⟨h1, h2⟩ := h
  refine ⟨h1, ?_⟩
  rcases h2 with h2 | ⟨g, cap, cur, e1, e2, e3⟩
  · exact .inl h2
  · exact .inr ⟨g, cap, cur, e1, Nat.le_trans hb e2, e3⟩
/-- The first k of so many bytes. -/
def hiK (x : Int) (many k : Nat) : List UInt8 := (List.range k).map (fun i => b8 (x / ((256 ^ (many - 1 - i) : Nat) : Int)))
theorem hiK_step (x : Int) (many k : Nat) : hiK x many (k + 1) = hiK x many k ++ [b8 (x / ((256 ^ (many - 1 - k) : Nat) : Int))] := by
  simp [hiK, List.range_succ]
theorem hiK_2 (x : Int) : hiK x 2 2 = hi2 x := by
  show [b8 (x / 256), b8 (x / 1)] = hi2 x
  rw [Int.ediv_one]; rfl
theorem hiK_4 (x : Int) : hiK x 4 4 = hi4 x := by
  show [b8 (x / 16777216), b8 (x / 65536), b8 (x / 256), b8 (x / 1)] = hi4 x
  rw [Int.ediv_one]; rfl
theorem pow256 (j : Nat) : ((2 : Int) ^ (8 * j)) = ((256 ^ j : Nat) : Int) := by
  rw [Int.pow_mul]; simp
theorem cell_append (base n0 many : Nat) (v : Value) (xs : List UInt8) (x : Int) (w : World) (hown : w.ownsRow base 5 1 v n0 (xs.map bc)) (hn : n0 ≤ 16) (hm : many ≤ 4) (hbase : base ≤ w.heap.size) :
    Calls Try.prog 29 #[v, .int .i64 x, .int .i64 (many : Int)] w fun e w' => ∃ v', e = .returned v' ∧ w'.ownsRow base 5 1 v' (n0 + many) ((xs ++ hiK x many many).map bc) ∧ Below base w w' ∧ ∀ X, X < w.heap.size → some X ≠ v.ownBlock → w'.heap[X]? = w.heap[X]? ∧ some X ≠ v'.ownBlock := by
  obtain ⟨i0, hi, hz0, hz1, hz2⟩ := info_u8'
  go_enter Try.func29, Try.ntmps29
  go_wp2
  go_loopw [0, 7] (fun r i wr => ∃ k : Nat, k ≤ many ∧ i = .int .i64 ((many : Int) - 1 - (k : Int)) ∧ wr.ownsRow base 5 1 r (n0 + k) ((xs ++ hiK x many k).map bc) ∧ Below base w wr ∧ ∀ X, X < w.heap.size → some X ≠ v.ownBlock → wr.heap[X]? = w.heap[X]? ∧ some X ≠ r.ownBlock) (fun _ i _ => (intOf i + 1).toNat)
  case atStart => exact ⟨0, Nat.zero_le _, by simp, by simpa [hiK] using hown, Below.refl _ _, fun X _ h => ⟨rfl, h⟩⟩
  case round =>
    obtain ⟨k, hk, rfl, ho, hB, hX⟩ := hrel
    by_cases hlt : k < many
    · obtain ⟨j, hj⟩ : ∃ j : Nat, many = k + 1 + j := ⟨many - k - 1, by omega⟩
      have e1 : (many : Int) - 1 - (k : Int) = (j : Int) := by omega
      have e2 : many - 1 - k = j := by omega
      have hp := pow256 j
      have hst := hiK_step x many k
      rw [e2] at hst
      rw [e1]
      have hc8 : ((b8 (x / ((256 ^ j : Nat) : Int))).toNat : Int) = x / 256 ^ j % 256 := by rw [b8_nat]; simp
      have HS : Hid (hiK x many (k + 1) = hiK x many k ++ [b8 (x / ((256 ^ j : Nat) : Int))]) := hst
      have HC : Hid (((b8 (x / ((256 ^ j : Nat) : Int))).toNat : Int) = x / 256 ^ j % 256) := hc8
      have HO : Hid (∀ i, Below base w i → base ≤ i.heap.size) := fun i h => Nat.le_trans hbase h.size
      have HJ : Hid (many = k + 1 + j) := hj
      have hj4 : j < 4 := by omega
      clear hst hc8 hj e2
      go_wp2_with (at_builtin; refine wpList_append_lies _ rfl _ _ _ rfl base 5 i0 _ 1 1 Try.underlying36 hi hz0 hz1 hz2 rfl (by omega) _ (n0 + k) _ rfl (ho.alloc _) ⟨wr.heap.size, 0, none⟩ 1 1 [.int .u8 (x / 256 ^ j % 256)] rfl rfl ?c1 ?c2 (by omega) ?c3 ?c4 ?c5 _ rfl ?_)
      case c1 => exact World.news_of_block (cs := #[.int .u8 (x / 256 ^ j % 256)]) (t := 5) (fr := (0, 0)) (heap_alloc_new wr (.cells #[.int .u8 (x / 256 ^ j % 256)] 5))
      case c2 =>
        intro u hu
        simp only [List.mem_cons, List.not_mem_nil, or_false] at hu
        subst hu
        rfl
      case c3 => unfold maxLen; omega
      case c4 => omega
      case c5 => have := HO.out _ hB; simp; omega
      intro g cap w1 hown1 hgrow hat hlt1
      have hbel : Below base w w1 := Below.grown (hB.alloc (HO.out _ hB) _) hgrow (by have := HO.out _ hB; simp; omega) (fun j hj => (ho.lt j hj).1)
      have HO1 : Hid (w1.ownsRow base 5 1 (.slice (some ⟨g, 0, none⟩) (n0 + (k + 1)) cap) (n0 + (k + 1)) ((xs ++ hiK x many (k + 1)).map bc)) := by
        have : w1.ownsRow base 5 1 (.slice (some ⟨g, 0, none⟩) (n0 + (k + 1)) cap) (n0 + (k + 1)) ((xs ++ hiK x many k).map bc ++ [.int .u8 (x / 256 ^ j % 256)]) := by rw [List.map_append, List.append_assoc]; exact hown1
        rw [HS.out, ← List.append_assoc, List.map_append]
        show w1.ownsRow _ _ _ _ _ (_ ++ [.int .u8 ((b8 (x / ((256 ^ j : Nat) : Int))).toNat : Int)])
        rw [HC.out]
        exact this
      have HB1 : Hid (Below base w w1) := hbel
      have HX1 : Hid (∀ X, X < w.heap.size → some X ≠ v.ownBlock → w1.heap[X]? = w.heap[X]? ∧ some X ≠ (Value.slice (some ⟨g, 0, none⟩) (n0 + (k + 1)) cap).ownBlock) := by
        intro X h1 h2
        obtain ⟨h3, h4⟩ := hX X h1 h2
        have h5 : X < wr.heap.size := Nat.lt_of_lt_of_le h1 hB.size
        refine ⟨?_, fun h6 => ?_⟩
        · rw [hgrow.block X (by simp; omega) h4, ← h3]
          exact Below.heap_alloc _ _ _ h5
        · have h7 : X = g := Option.some.inj h6
          subst h7
          rcases hat with h8 | h8
          · exact h4 h8.symm
          · omega
      clear hown1 hgrow hat hbel ho hB hX
      go_wp2
      go_roundw
      case rel => exact ⟨k + 1, by omega, by have := HJ.out; rw [show (many : Int) - 1 - ((k + 1 : Nat) : Int) = (j : Int) - 1 by omega], HO1.out, HB1.out, HX1.out⟩
      case measure => simp [intOf]
    · obtain rfl : k = many := by omega
      go_wp2
      go_ret
      exact ⟨_, rfl, ho, hB, hX⟩
end Go.Proofs.Ytilbijocapmjbaa
