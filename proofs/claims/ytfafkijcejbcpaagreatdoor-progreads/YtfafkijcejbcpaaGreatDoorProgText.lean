/- package prog: tell and Text, in one def each: what chapter 7 (P15) says. -/
import Derived.Test.YtfafkijcejbcpaaGreatDoorRows
import Derived.Test.YtfafkijcejbcpaaGreatDoorKeyPure
import Derived.Test.YtfafkijcejbcpaaGreatDoorShelf
import Derived.Test.YtfafkijcejbcpaaGreatDoorInstShape
import Derived.Test.YtfafkijcejbcpaaGreatDoorInstLaid
import Derived.Test.YtfafkijcejbcpaaGreatDoorInstDev
import Derived.Test.YtfafkijcejbcpaaGreatDoorTextPure
import Derived.Test.YtfafkijcejbcpaaGreatDoorParsePure
import Derived.Test.YtfafkijcejbcpaaGreatDoorInstText
import Derived.Test.YtfafkijcejbcpaaGreatDoorInstParse2
import Derived.Test.YtfafkijcejbcpaaGreatDoorIntsArg
import Derived.Test.YtfafkijcejbcpaaGreatDoorProgPure
import Derived.Test.YtfafkijcejbcpaaGreatDoorProgSmall
import Derived.WalkKit
import Derived.ProofKit
import Derived.Deep.AppendLies
namespace Go.Proofs.YtfafkijcejbcpaaGreatDoor
open Go.ChangeShapes Go.WideShapes Go.ChangeAt Go.RowKit
set_option linter.unusedSimpArgs false

theorem readD_cases (n : Int) : (readD n = ⟨0, 0, 0, 0, 5⟩) ∨ ((readD n).e = 0 ∧ chkD (readD n).o (readD n).a (readD n).b (readD n).c = 0) := by
  unfold readD
  split
  · rename_i h; exact .inr ⟨rfl, h⟩
  · exact .inl rfl
theorem line_len (n : Int) (hn : -9223372036854775808 ≤ n ∧ n ≤ 9223372036854775807) : (lineN n).length ≤ 80 := by
  unfold lineN
  rcases readD_cases n with h | ⟨h1, h2⟩
  · rw [h, if_neg (by decide)]
    have := itoa_len n hn
    simp [wd]; omega
  · rw [if_pos h1]
    have r := chkD_ok h2
    unfold textL
    have z0 := word_len (readD n).o.toNat (by omega)
    have z1 := tell_len (shA (readD n).o.toNat) (readD n).a (by omega)
    have z2 := tell_len (shB (readD n).o.toNat) (readD n).b (by omega)
    have z3 := tell_len (shC (readD n).o.toNat) (readD n).c (by omega)
    simp only [List.length_append]; omega
theorem jn_len (c : UInt8) (M : Nat) : ∀ xs : List (List UInt8), (∀ x ∈ xs, x.length ≤ M) → (jn c xs).length ≤ xs.length * (M + 1)
  | [], _ => by simp [jn]
  | [x], h => by have := h x (by simp); simp [jn]; omega
  | x :: y :: ys, h => by
    have ih := jn_len c M (y :: ys) (fun z hz => h z (List.mem_cons_of_mem _ hz))
    have h1 := h x (by simp)
    rw [jn, List.length_append, List.length_cons]
    have e : (x :: y :: ys).length * (M + 1) = (y :: ys).length * (M + 1) + (M + 1) := by rw [List.length_cons, Nat.add_mul, Nat.one_mul]
    omega
theorem info_str : ∃ i, Tryz.prog.info? 9 = some i ∧ i.zero = some (.string ByteArray.empty) ∧ i.size = 1 ∧ i.bytes = 16 := by
  have := show (Tryz.prog.info? 9).map (fun i => (i.zero, i.size, i.bytes)) = some (some (.string ByteArray.empty), 1, 16) by kernel_rfl
  cases h : Tryz.prog.info? 9 with
  | none => rw [h] at this; cases this
  | some i => rw [h] at this; exact ⟨i, rfl, by simpa using this⟩
/-- The lines of the first k numbers. -/
def lns (xs : List Int) (k : Nat) : List Value := (xs.take k).map fun n => .string (bL (lineN n))
theorem lns_step (xs : List Int) (k : Nat) (h : k < xs.length) : lns xs (k + 1) = lns xs k ++ [.string (bL (lineN (xs.getD k 0)))] := by
  unfold lns
  rw [List.take_add_one, List.map_append]
  have : xs[k]? = some (xs.getD k 0) := by rw [List.getD_eq_getElem?_getD, List.getElem?_eq_getElem h]; rfl
  rw [this]; rfl
theorem own_below {w w' : World} {base : Nat} {e : TypeId} {size : Nat} {v : Value} {n : Nat} {xs : List Value} (h : w.ownsRow base e size v n xs) (hb : Below w.heap.size w w') : w'.ownsRow base e size v n xs := by
  obtain ⟨h1, h2⟩ := h
  refine ⟨h1, ?_⟩
  rcases h2 with h2 | ⟨g, cap, cur, e1, e2, e3, e4⟩
  · exact .inl h2
  · exact .inr ⟨g, cap, cur, e1, e2, by rw [hb.block g (Array.getElem?_eq_some_iff.1 e3).1]; exact e3, e4⟩
theorem map_bL : ∀ ls : List (List UInt8), (ls.map bL).map (·.data.toList) = ls
  | [] => rfl
  | l :: ls => by rw [List.map_cons, List.map_cons, bL_list, map_bL ls]
theorem prog_join (r : Value) (ls : List (List UInt8)) (base : Nat) (w : World) (h : w.ownsRow base 9 1 r ls.length (ls.map fun l => .string (bL l))) (hn : ls.length ≤ 150) (hl : ∀ l ∈ ls, l.length ≤ 80) :
    Calls Tryz.prog 29 #[r, .string ⟨#[10]⟩] w fun e w' => e = .returned (.string (bL (jn 10 ls))) ∧ Below w.heap.size w w' := by
  obtain ⟨hx, h⟩ := h
  rcases h with ⟨rfl, h0⟩ | ⟨g, cap, cur, rfl, hg, hb, hc, _, hcur, htake⟩
  · have : ls = [] := by cases ls with
      | nil => rfl
      | cons a t => simp at h0
    subst this
    exact (Tryz.strings_Join_none none 0 ⟨#[10]⟩ w).mono fun e w' ⟨he, hw⟩ => ⟨he, by rw [hw]; exact Below.refl _ _⟩
  · have hlt : g < w.heap.size := (Array.getElem?_eq_some_iff.1 hb).1
    have e1 : (ls.map bL).map (·.data.toList) = ls := map_bL ls
    have hj := jn_len 10 80 ls hl
    have hJ := Tryz.strings_Join g 0 cap (ls.map bL) ⟨#[10]⟩ w (fun j x hjx => by
      rw [List.getElem?_map] at hjx
      cases hlj : ls[j]? with
      | none => rw [hlj] at hjx; cases hjx
      | some l =>
        rw [hlj] at hjx
        injection hjx with hjx
        subst hjx
        have hjl : j < ls.length := (List.getElem?_eq_some_iff.1 hlj).1
        have h2 : cur.toList[j]? = some (.string (bL l)) := by
          have h3 : (cur.toList.take (ls.length * 1))[j]? = some (.string (bL l)) := by rw [htake, List.getElem?_map, hlj]; rfl
          rwa [List.getElem?_take_of_lt (by omega)] at h3
        rw [World.cell?, hb]
        simpa using h2) hlt (by simp; omega) (by simp; omega) (by
      rw [e1]; show (Lib.join ls [10]).length ≤ _; rw [join_jn]
      have : ls.length * 81 ≤ 150 * 81 := Nat.mul_le_mul_right 81 hn
      omega)
    rw [e1] at hJ
    rw [List.length_map] at hJ
    have e2 : Lib.join ls (⟨#[10]⟩ : ByteArray).data.toList = jn 10 ls := join_jn 10 ls
    rw [e2] at hJ
    exact hJ
theorem all_take {xs : List Int} {p : Int → Bool} {k : Nat} (h : xs.length ≤ k) (h1 : (xs.take k).all p = true) : xs.all p = true := by
  rwa [List.take_of_length_le h] at h1
theorem all_step {xs : List Int} {p : Int → Bool} {k : Nat} (h : k < xs.length) (h1 : (xs.take k).all p = true) (h2 : p (xs.getD k 0) = true) : (xs.take (k + 1)).all p = true := by
  have : xs[k]? = some (xs.getD k 0) := by rw [List.getD_eq_getElem?_getD, List.getElem?_eq_getElem h]; rfl
  rw [List.take_add_one, this, List.all_append, h1, Bool.true_and]
  simpa using h2
theorem all_not {xs : List Int} {p : Int → Bool} {k : Nat} (h : k < xs.length) (h2 : p (xs.getD k 0) = false) : xs.all p = false := by
  rw [Bool.eq_false_iff]
  intro h3
  have := List.all_eq_true.1 h3 (xs.getD k 0) (by rw [List.getD_eq_getElem?_getD, List.getElem?_eq_getElem h]; exact List.getElem_mem h)
  rw [h2] at this
  cases this
def isNum (n : Int) : Bool := decide (-2147483648 ≤ n ∧ n ≤ 2147483647)
end Go.Proofs.YtfafkijcejbcpaaGreatDoor
