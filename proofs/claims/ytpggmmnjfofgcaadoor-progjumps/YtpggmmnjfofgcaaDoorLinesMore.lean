/- Chapter 7: what is known of the lines of a text that is read without an error; a loop that gathers those that are not empty; without any program. -/
import Derived.Test.YtpggmmnjfofgcaaDoorRows
import Derived.Test.YtpggmmnjfofgcaaDoorTextPure
import Derived.Test.YtpggmmnjfofgcaaDoorSplitPure
import Derived.Test.YtpggmmnjfofgcaaDoorProgPure
import Derived.Test.YtpggmmnjfofgcaaDoorLinesPure
namespace Go.Proofs.YtpggmmnjfofgcaaDoor
open Go.Lib

theorem go_short : ∀ (ls : List (List UInt8)) (s : PS) (k : Nat), (goS s k ls).2.2 = 0 → ∀ x ∈ ls, x.length ≤ 80
  | [], _, _, _ => fun x hx => by simp at hx
  | l :: ls, s, k, h => by
    rw [goS] at h
    by_cases h0 : (takeS s (k : Int) l).2 = 0
    · rw [if_pos h0] at h
      intro x hx
      rcases List.mem_cons.1 hx with rfl | hx
      · by_cases h80 : 80 < x.length
        · unfold takeS at h0
          rw [if_pos h80] at h0
          cases h0
        · omega
      · exact go_short ls _ _ h x hx
    · rw [if_neg h0] at h
      exact absurd h h0
theorem read_short (l : List UInt8) (he : (readS l).e = 0) : l.count 10 < 150 ∧ ∀ x ∈ sp 10 l, x.length ≤ 80 := by
  by_cases h150 : 150 ≤ l.count 10
  · rw [readS_large h150] at he; cases he
  · refine ⟨by omega, ?_⟩
    by_cases h : (goS ⟨[], [], []⟩ 1 (sp 10 l)).2.2 = 0
    · exact go_short _ _ _ h
    · rw [readS_bad h150 (st := (goS ⟨[], [], []⟩ 1 (sp 10 l)).1) (n := (goS ⟨[], [], []⟩ 1 (sp 10 l)).2.1) (e := (goS ⟨[], [], []⟩ 1 (sp 10 l)).2.2) rfl h] at he
      exact absurd he h
/-- What has been gathered of the first k lines. -/
def ga (ls : List (List UInt8)) (k : Nat) : List (List UInt8) := fullL (ls.take k)
def gc (ls : List (List UInt8)) (k : Nat) : Nat := ((ga ls k).filter fun l => !isLb l).length
theorem take_at {ls : List (List UInt8)} {k : Nat} {x : List UInt8} (h : ls[k]? = some x) : ls.take (k + 1) = ls.take k ++ [x] := by
  rw [List.take_add_one, h]
  rfl
theorem ga_nil {ls : List (List UInt8)} {k : Nat} (h : ls[k]? = some []) : ga ls (k + 1) = ga ls k ∧ gc ls (k + 1) = gc ls k := by
  have e : ga ls (k + 1) = ga ls k := by
    unfold ga fullL
    rw [take_at h, List.filter_append]
    simp
  exact ⟨e, by unfold gc; rw [e]⟩
theorem ga_add {ls : List (List UInt8)} {k : Nat} {x : List UInt8} (h : ls[k]? = some x) (hx : ¬ x = []) : ga ls (k + 1) = ga ls k ++ [x] ∧ gc ls (k + 1) = gc ls k + (if isLb x then 0 else 1) := by
  have e : ga ls (k + 1) = ga ls k ++ [x] := by
    unfold ga fullL
    rw [take_at h, List.filter_append]
    cases x with
    | nil => exact absurd rfl hx
    | cons a r => rfl
  refine ⟨e, ?_⟩
  unfold gc
  rw [e, List.filter_append, List.length_append]
  cases hb : isLb x <;> simp [hb]
theorem ga_len (ls : List (List UInt8)) (k : Nat) : (ga ls k).length ≤ k := by
  unfold ga
  have := full_len (ls.take k)
  rw [List.length_take] at this
  omega
theorem gc_len (ls : List (List UInt8)) (k : Nat) : gc ls k ≤ (ga ls k).length := List.length_filter_le _ _
theorem ga_all (ls : List (List UInt8)) : ga ls ls.length = fullL ls := by unfold ga; rw [List.take_length]
theorem two_kinds : ∀ ls : List (List UInt8), ls.length = (ls.filter fun l => !isLb l).length + (ls.filter isLb).length
  | [] => rfl
  | l :: ls => by
    have ih := two_kinds ls
    cases h : isLb l
    · rw [List.filter_cons_of_pos (by simp [h]), List.filter_cons_of_neg (by simp [h]), List.length_cons, List.length_cons]; omega
    · rw [List.filter_cons_of_neg (by simp [h]), List.filter_cons_of_pos (by simp [h]), List.length_cons, List.length_cons]; omega
theorem read_both (l : List UInt8) (he : (readS l).e = 0) : (readS l).cells.length = gc (sp 10 l) (sp 10 l).length ∧ (readS l).labels.length + gc (sp 10 l) (sp 10 l).length = (ga (sp 10 l) (sp 10 l).length).length := by
  obtain ⟨h1, h2⟩ := read_count l he
  unfold gc
  rw [ga_all]
  refine ⟨h1, ?_⟩
  rw [h2]
  have := two_kinds (fullL (sp 10 l))
  omega
end Go.Proofs.YtpggmmnjfofgcaaDoor
