/- Chapter 7: cells that are read are numbers; how many lines are cells; without any program. -/
import Derived.Test.YtpggmmnjfofgcaaDoorRows
import Derived.Test.YtpggmmnjfofgcaaDoorInstShape
import Derived.Test.YtpggmmnjfofgcaaDoorInstDev
import Derived.Test.YtpggmmnjfofgcaaDoorTextPure
import Derived.Test.YtpggmmnjfofgcaaDoorParsePure
import Derived.Test.YtpggmmnjfofgcaaDoorInstParse2
import Derived.Test.YtpggmmnjfofgcaaDoorSplitPure
import Derived.Test.YtpggmmnjfofgcaaDoorNamePure
import Derived.Test.YtpggmmnjfofgcaaDoorProgPure
import Derived.Test.YtpggmmnjfofgcaaDoorLinesPure
import Derived.Test.YtpggmmnjfofgcaaDoorLinesMore
import Derived.Test.YtpggmmnjfofgcaaDoorJumpPure
namespace Go.Proofs.YtpggmmnjfofgcaaDoor
open Go.Lib

def bN (v : Int) : Prop := -2147483648 ≤ v ∧ v ≤ 2147483647
theorem num_b {o a b c : Int} (h : chkD o a b c = 0) : bN (numD o a b c) := by
  have r := chkD_ok h
  unfold bN numD
  omega
theorem cell_b {l : List UInt8} {v : Int} (h : cellL l = some v) : bN v := by
  unfold cellL at h
  split at h
  · exact (numR_some h).1
  · split at h
    · rename_i he
      injection h with h
      rcases parse_cases l with ⟨h1, _⟩ | ⟨_, h1, _⟩
      · rw [h1] at he; cases he
      · rw [← h]; exact num_b h1
    · cases h
theorem take_b {st : PS} (h : ∀ v ∈ st.cells, bN v) (n : Int) (l : List UInt8) : ∀ v ∈ (takeS st n l).1.cells, bN v := by
  unfold takeS
  split
  · exact h
  · split
    · exact h
    · split
      · unfold takeLb
        split
        · exact h
        · split
          · exact h
          · split
            · exact h
            · exact h
      · unfold takeCl
        split
        · rename_i v hv
          intro u hu
          rcases List.mem_append.1 hu with hu | hu
          · exact h u hu
          · rw [List.mem_singleton] at hu
            subst hu
            exact cell_b hv
        · split
          · intro u hu
            rcases List.mem_append.1 hu with hu | hu
            · exact h u hu
            · rw [List.mem_singleton] at hu
              subst hu
              unfold bN
              omega
          · exact h
theorem go_b : ∀ (ls : List (List UInt8)) (st : PS) (k : Nat), (∀ v ∈ st.cells, bN v) → ∀ v ∈ (goS st k ls).1.cells, bN v
  | [], _, _, h => h
  | l :: ls, st, k, h => by
    rw [goS]
    split
    · exact go_b ls _ _ (take_b h _ _)
    · exact h
theorem join_b (bs : List LB) : ∀ (ds : List LD) (cs : List Int), (∀ v ∈ cs, bN v) → ∀ v ∈ (joinS bs cs ds).1, bN v
  | [], _, h => h
  | d :: ds, cs, h => by
    rw [joinS]
    split
    · exact h
    · split
      · rename_i hc
        refine join_b bs ds _ (fun v hv => ?_)
        rcases List.mem_or_eq_of_mem_set hv with hv | rfl
        · exact h v hv
        · exact num_b hc
      · exact h
theorem read_b (l : List UInt8) : ∀ v ∈ (readS l).cells, bN v := by
  unfold readS
  split
  · intro v hv; simp at hv
  · split
    · split
      · exact join_b _ _ _ (go_b _ _ _ (fun v hv => by simp at hv))
      · intro v hv; simp at hv
    · intro v hv; simp at hv
/-- How many of the first k lines are cells. -/
def gj (ls : List (List UInt8)) (k : Nat) : Nat := ((ls.take k).filter isCl).length
theorem gj_step {ls : List (List UInt8)} {k : Nat} {x : List UInt8} (h : ls[k]? = some x) : gj ls (k + 1) = gj ls k + if isCl x = true then 1 else 0 := by
  unfold gj
  rw [take_at h, List.filter_append, List.length_append]
  cases hc : isCl x <;> simp [hc]
theorem gj_at {ls : List (List UInt8)} {k : Nat} {x : List UInt8} (h : ls[k]? = some x) (hc : isCl x = true) : (ls.filter isCl)[gj ls k]? = some x := by
  have hk : k < ls.length := (List.getElem?_eq_some_iff.1 h).1
  have e : ls = ls.take k ++ x :: ls.drop (k + 1) := by
    have h1 : ls.drop k = x :: ls.drop (k + 1) := by
      rw [List.drop_eq_getElem_cons hk]
      rw [List.getElem?_eq_getElem hk] at h
      injection h with h
      rw [h]
    rw [← h1, List.take_append_drop]
  have e2 : ls.filter isCl = (ls.take k).filter isCl ++ x :: (ls.drop (k + 1)).filter isCl := by
    conv => lhs; rw [e]
    rw [List.filter_append, List.filter_cons_of_pos hc]
  rw [e2]
  unfold gj
  rw [List.getElem?_append_right (Nat.le_refl _), Nat.sub_self]
  rfl
theorem gj_le (ls : List (List UInt8)) (k : Nat) : gj ls k ≤ k := by
  unfold gj
  have h1 := List.length_filter_le isCl (ls.take k)
  rw [List.length_take] at h1
  omega
theorem gj_all (ls : List (List UInt8)) : gj ls ls.length = (ls.filter isCl).length := by unfold gj; rw [List.take_length]
end Go.Proofs.YtpggmmnjfofgcaaDoor
