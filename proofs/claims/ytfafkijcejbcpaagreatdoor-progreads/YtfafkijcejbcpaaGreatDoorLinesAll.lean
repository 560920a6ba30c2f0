/- Chapter 7: empty lines are of no matter; how many cells and labels there are; without any program. Chapter 7: what is known of the lines of a text that is read without an error; a loop that gathers those that are not empty; without any program. Chapter 7: a jump to a label leads to its place; without any program. Chapter 7: the document's way to read, line by line and then once more, comes to the same; without any program. -/
import Derived.Test.YtfafkijcejbcpaaGreatDoorRows
import Derived.Test.YtfafkijcejbcpaaGreatDoorTextPure
import Derived.Test.YtfafkijcejbcpaaGreatDoorSplitPure
import Derived.Test.YtfafkijcejbcpaaGreatDoorProgPure
import Derived.Test.YtfafkijcejbcpaaGreatDoorInstShape
import Derived.Test.YtfafkijcejbcpaaGreatDoorInstDev
import Derived.Test.YtfafkijcejbcpaaGreatDoorParsePure
import Derived.Test.YtfafkijcejbcpaaGreatDoorInstParse2
import Derived.Test.YtfafkijcejbcpaaGreatDoorNamePure
import Derived.Test.YtfafkijcejbcpaaGreatDoorProgFacts
namespace Go.Proofs.YtfafkijcejbcpaaGreatDoor
section
open Go.Lib

def ldK (d : LD) : Int × JL := (d.at_, d.j)
/-- The same but for the numbers of lines. -/
structure Sim (s t : PS) : Prop where
  c : s.cells = t.cells
  l : s.labels = t.labels
  d : s.leads.map ldK = t.leads.map ldK
theorem Sim.refl (s : PS) : Sim s s := ⟨rfl, rfl, rfl⟩
theorem take_sim {s t : PS} (h : Sim s t) (n n' : Int) (l : List UInt8) : Sim (takeS s n l).1 (takeS t n' l).1 ∧ (takeS s n l).2 = (takeS t n' l).2 := by
  obtain ⟨cs, ls, ds⟩ := s
  obtain ⟨cs', ls', ds'⟩ := t
  obtain ⟨h1, h2, h3⟩ := h
  dsimp only at h1 h2 h3
  subst h1
  subst h2
  have h0 : Sim ⟨cs, ls, ds⟩ ⟨cs, ls, ds'⟩ := ⟨rfl, rfl, h3⟩
  unfold takeS
  split
  · exact ⟨h0, rfl⟩
  split
  · exact ⟨h0, rfl⟩
  split
  · unfold takeLb
    dsimp only
    split
    · exact ⟨h0, rfl⟩
    split
    · exact ⟨h0, rfl⟩
    split
    · exact ⟨h0, rfl⟩
    exact ⟨⟨rfl, rfl, h3⟩, rfl⟩
  · unfold takeCl
    split
    · exact ⟨⟨rfl, rfl, h3⟩, rfl⟩
    split
    · refine ⟨⟨rfl, rfl, ?_⟩, rfl⟩
      rw [List.map_append, List.map_append, h3]
      rfl
    · exact ⟨h0, rfl⟩
theorem take_nil (st : PS) (n : Int) : takeS st n [] = (st, 0) := by
  unfold takeS
  rw [if_neg (by simp), if_pos rfl]
/-- The lines that are not empty. -/
def filL (ls : List (List UInt8)) : List (List UInt8) := ls.filter fun l => !l.isEmpty
theorem go_full : ∀ (ls : List (List UInt8)) (s t : PS) (k k' : Nat), Sim s t → (goS s k ls).2.2 = 0 → (goS t k' (filL ls)).2.2 = 0 ∧ Sim (goS s k ls).1 (goS t k' (filL ls)).1
  | [], s, t, k, k', h, _ => ⟨rfl, h⟩
  | l :: ls, s, t, k, k', h, he => by
    rw [goS] at he ⊢
    by_cases h0 : (takeS s (k : Int) l).2 = 0
    · rw [if_pos h0] at he ⊢
      by_cases hl : l = []
      · subst hl
        rw [take_nil] at he ⊢
        have e : filL ([] :: ls) = filL ls := rfl
        rw [e]
        exact go_full ls s t (k + 1) k' h he
      · have e : filL (l :: ls) = l :: filL ls := by
          unfold filL
          rw [List.filter_cons_of_pos]
          cases l with
          | nil => exact absurd rfl hl
          | cons a r => rfl
        obtain ⟨h1, h2⟩ := take_sim h (k : Int) (k' : Int) l
        rw [e, goS, if_pos (by rw [← h2]; exact h0)]
        exact go_full ls _ _ (k + 1) (k' + 1) h1 he
    · rw [if_neg h0] at he
      exact absurd he h0
theorem join_sim (bs : List LB) : ∀ (ds ds' : List LD) (cs : List Int), ds.map ldK = ds'.map ldK → (joinS bs cs ds).1 = (joinS bs cs ds').1 ∧ (joinS bs cs ds).2.2 = (joinS bs cs ds').2.2
  | [], [], cs, _ => ⟨rfl, rfl⟩
  | [], _ :: _, _, h => by cases h
  | _ :: _, [], _, h => by cases h
  | d :: ds, d' :: ds', cs, h => by
    rw [List.map_cons, List.map_cons] at h
    injection h with h1 h2
    have h3 : d.at_ = d'.at_ := congrArg Prod.fst h1
    have h4 : d.j = d'.j := congrArg Prod.snd h1
    rw [joinS, joinS, h3, h4]
    split
    · exact ⟨rfl, rfl⟩
    · split
      · exact join_sim bs ds ds' _ h2
      · exact ⟨rfl, rfl⟩
theorem go_end : ∀ (ls : List (List UInt8)) (s : PS) (k : Nat), (goS s k ls).2.2 = 0 → (goS s k ls).2.1 = 0
  | [], _, _, _ => rfl
  | l :: ls, s, k, h => by
    rw [goS] at h ⊢
    by_cases h0 : (takeS s (k : Int) l).2 = 0
    · rw [if_pos h0] at h ⊢
      exact go_end ls _ _ h
    · rw [if_neg h0] at h
      exact absurd h h0
theorem full_sp (ls : List (List UInt8)) (h : ∀ x ∈ ls, 10 ∉ x) : sp 10 (jn 10 (filL ls)) = if filL ls = [] then [[]] else filL ls := by
  split
  · rename_i e; rw [e]; rfl
  · rename_i e
    exact sp_jn 10 _ e (fun x hx => h x (List.mem_filter.1 hx).1)
theorem fil_len (ls : List (List UInt8)) : (filL ls).length ≤ ls.length := List.length_filter_le _ _
/-- Empty lines are of no matter. -/
theorem read_full (l : List UInt8) (he : (readS l).e = 0) : (readS (jn 10 (filL (sp 10 l)))).e = 0 ∧ (readS (jn 10 (filL (sp 10 l)))).cells = (readS l).cells ∧ (readS (jn 10 (filL (sp 10 l)))).labels = (readS l).labels := by
  by_cases h150 : 150 ≤ l.count 10
  · rw [readS_large h150] at he; cases he
  have hg0 : (goS ⟨[], [], []⟩ 1 (sp 10 l)).2.2 = 0 := by
    by_cases h : (goS ⟨[], [], []⟩ 1 (sp 10 l)).2.2 = 0
    · exact h
    · rw [readS_bad h150 (st := (goS ⟨[], [], []⟩ 1 (sp 10 l)).1) (n := (goS ⟨[], [], []⟩ 1 (sp 10 l)).2.1) (e := (goS ⟨[], [], []⟩ 1 (sp 10 l)).2.2) rfl h] at he
      exact absurd he h
  obtain ⟨st, n, e, hg⟩ : ∃ st n e, goS ⟨[], [], []⟩ 1 (sp 10 l) = (st, n, e) := ⟨_, _, _, rfl⟩
  rw [hg] at hg0
  have hg0' : e = 0 := hg0
  subst hg0'
  obtain ⟨cs, n2, e2, hj⟩ : ∃ cs n e, joinS st.labels st.cells st.leads = (cs, n, e) := ⟨_, _, _, rfl⟩
  have he2 : e2 = 0 := by
    by_cases h : e2 = 0
    · exact h
    · rw [readS_none h150 hg hj h] at he
      exact absurd he h
  subst he2
  have hR := readS_ok h150 hg hj
  have hf := go_full (sp 10 l) ⟨[], [], []⟩ ⟨[], [], []⟩ 1 1 (Sim.refl _) (by rw [hg])
  have hs := full_sp (sp 10 l) (sp_no 10 l)
  have hlen := sp_len 10 (jn 10 (filL (sp 10 l)))
  have hlen0 := sp_len 10 l
  have hfl := fil_len (sp 10 l)
  have hg' : goS ⟨[], [], []⟩ 1 (sp 10 (jn 10 (filL (sp 10 l)))) = goS ⟨[], [], []⟩ 1 (filL (sp 10 l)) := by
    rw [hs]
    split
    · rename_i e
      rw [e]
      show (if (takeS ⟨[], [], []⟩ ((1 : Nat) : Int) []).2 = 0 then _ else _) = _
      rw [take_nil, if_pos rfl]
      rfl
    · rfl
  have hc : ¬ 150 ≤ (jn 10 (filL (sp 10 l))).count 10 := by
    rw [hs] at hlen
    split at hlen
    · simp at hlen; omega
    · omega
  rw [hg] at hf
  obtain ⟨st', n', e', hg2⟩ : ∃ st n e, goS ⟨[], [], []⟩ 1 (filL (sp 10 l)) = (st, n, e) := ⟨_, _, _, rfl⟩
  rw [hg2] at hf
  obtain ⟨hf1, hf2⟩ := hf
  have hf1' : e' = 0 := hf1
  subst hf1'
  have hsim : Sim st st' := hf2
  obtain ⟨cs', n3, e3, hj'⟩ : ∃ cs n e, joinS st'.labels st'.cells st'.leads = (cs, n, e) := ⟨_, _, _, rfl⟩
  have hjs := join_sim st.labels st.leads st'.leads st.cells hsim.d
  rw [hj] at hjs
  rw [← hsim.l, ← hsim.c] at hj'
  rw [hj'] at hjs
  obtain ⟨q1, q2⟩ := hjs
  have q1' : cs = cs' := q1
  have q2' : (0 : Int) = e3 := q2
  subst q1'
  subst q2'
  rw [hsim.l, hsim.c] at hj'
  have hR' := readS_ok hc (hg'.trans hg2) hj'
  rw [hR, hR']
  exact ⟨rfl, rfl, hsim.l.symm⟩
/-- How many cells and labels there are. -/
def isLb (l : List UInt8) : Bool := ([58] : List UInt8).isSuffixOf l
theorem go_count : ∀ (ls : List (List UInt8)) (s : PS) (k : Nat), (goS s k ls).2.2 = 0 → (goS s k ls).1.cells.length = s.cells.length + ((filL ls).filter fun l => !isLb l).length ∧ (goS s k ls).1.labels.length = s.labels.length + ((filL ls).filter isLb).length
  | [], s, k, _ => by simp [goS, filL]
  | l :: ls, s, k, he => by
    rw [goS] at he ⊢
    by_cases h0 : (takeS s (k : Int) l).2 = 0
    · rw [if_pos h0] at he ⊢
      have ih := go_count ls _ (k + 1) he
      by_cases hl : l = []
      · subst hl
        rw [take_nil] at ih ⊢
        exact ih
      · have e : filL (l :: ls) = l :: filL ls := by
          unfold filL
          rw [List.filter_cons_of_pos]
          cases l with
          | nil => exact absurd rfl hl
          | cons a r => rfl
        rw [e, ih.1, ih.2]
        unfold takeS at h0 ⊢
        by_cases h80 : 80 < l.length
        · rw [if_pos h80] at h0; cases h0
        rw [if_neg h80, if_neg hl] at h0 ⊢
        by_cases hb : ([58] : List UInt8).isSuffixOf l = true
        · rw [if_pos hb] at h0 ⊢
          have hb' : isLb l = true := hb
          rw [List.filter_cons_of_neg (by simp [hb']), List.filter_cons_of_pos hb']
          unfold takeLb at h0 ⊢
          split at h0
          · cases h0
          split at h0
          · cases h0
          split at h0
          · cases h0
          rename_i q1 q2 q3
          rw [if_neg q1, if_neg q2, if_neg q3]
          clear ih
          refine ⟨?_, ?_⟩ <;> simp <;> omega
        · rw [if_neg hb] at h0 ⊢
          have hb' : ¬ isLb l = true := hb
          rw [List.filter_cons_of_pos (by simpa using hb'), List.filter_cons_of_neg hb']
          unfold takeCl at h0 ⊢
          split
          · clear ih
            refine ⟨?_, ?_⟩ <;> simp <;> omega
          · rename_i q1
            rw [q1] at h0
            split
            · clear ih
              refine ⟨?_, ?_⟩ <;> simp <;> omega
            · rename_i q2
              rw [q2] at h0
              cases h0
    · rw [if_neg h0] at he
      exact absurd he h0
theorem join_len (bs : List LB) : ∀ (ds : List LD) (cs : List Int), (joinS bs cs ds).1.length = cs.length
  | [], cs => rfl
  | d :: ds, cs => by
    rw [joinS]
    split
    · rfl
    · split
      · rw [join_len bs ds, List.length_set]
      · rfl
/-- The number of a line that waits is that of a line. -/
def LdN (s : PS) (k : Nat) : Prop := ∀ d ∈ s.leads, 1 ≤ d.n ∧ d.n < k
theorem take_ldn {s : PS} {k : Nat} (h : LdN s k) (hk : 1 ≤ k) (l : List UInt8) : LdN (takeS s (k : Int) l).1 (k + 1) := by
  have h0 : LdN s (k + 1) := fun d hd => by have := h d hd; omega
  unfold takeS
  split
  · exact h0
  split
  · exact h0
  split
  · unfold takeLb
    split
    · exact h0
    split
    · exact h0
    split
    · exact h0
    exact h0
  · unfold takeCl
    split
    · exact h0
    split
    · intro d hd
      rcases List.mem_append.1 hd with hd | hd
      · exact h0 d hd
      · simp only [List.mem_cons, List.not_mem_nil, or_false] at hd
        subst hd
        show 1 ≤ (k : Int) ∧ (k : Int) < ((k + 1 : Nat) : Int)
        omega
    · exact h0
theorem go_ldn : ∀ (ls : List (List UInt8)) (s : PS) (k : Nat), LdN s k → 1 ≤ k → LdN (goS s k ls).1 (k + ls.length) ∧ 0 ≤ (goS s k ls).2.1 ∧ (goS s k ls).2.1 < (k + ls.length : Nat)
  | [], s, k, h, hk => ⟨h, by simp [goS], by simp [goS]; omega⟩
  | l :: ls, s, k, h, hk => by
    rw [goS]
    by_cases h0 : (takeS s (k : Int) l).2 = 0
    · rw [if_pos h0]
      have ih := go_ldn ls _ (k + 1) (take_ldn h hk l) (by omega)
      rw [List.length_cons, show k + (ls.length + 1) = k + 1 + ls.length by omega]
      exact ih
    · rw [if_neg h0]
      refine ⟨fun d hd => ?_, ?_, ?_⟩
      · have := h d hd
        simp only [List.length_cons]
        omega
      · show 0 ≤ (k : Int)
        omega
      · show (k : Int) < _
        simp only [List.length_cons]
        omega
theorem join_n (bs : List LB) (m : Nat) (hm : 1 ≤ m) : ∀ (ds : List LD) (cs : List Int), (∀ d ∈ ds, 1 ≤ d.n ∧ d.n < m) → 0 ≤ (joinS bs cs ds).2.1 ∧ (joinS bs cs ds).2.1 < m
  | [], cs, _ => by simp [joinS]; omega
  | d :: ds, cs, h => by
    have hd := h d (by simp)
    rw [joinS]
    split
    · show 0 ≤ d.n ∧ d.n < m
      omega
    · split
      · exact join_n bs m hm ds _ (fun x hx => h x (List.mem_cons_of_mem _ hx))
      · show 0 ≤ d.n ∧ d.n < m
        omega
/-- What is told of a line that is wrong is the number of a line, or 0. -/
theorem read_n (l : List UInt8) : 0 ≤ (readS l).n ∧ (readS l).n ≤ (sp 10 l).length := by
  by_cases h150 : 150 ≤ l.count 10
  · rw [readS_large h150]; simp
  obtain ⟨st, n, e, hg⟩ : ∃ st n e, goS ⟨[], [], []⟩ 1 (sp 10 l) = (st, n, e) := ⟨_, _, _, rfl⟩
  have hl := go_ldn (sp 10 l) ⟨[], [], []⟩ 1 (fun d hd => by cases hd) (Nat.le_refl _)
  rw [hg] at hl
  obtain ⟨h1, h2, h3⟩ := hl
  dsimp only at h1 h2 h3
  by_cases he : e = 0
  · subst he
    obtain ⟨cs, n2, e2, hj⟩ : ∃ cs n e, joinS st.labels st.cells st.leads = (cs, n, e) := ⟨_, _, _, rfl⟩
    have hn := join_n st.labels (1 + (sp 10 l).length) (by omega) st.leads st.cells h1
    rw [hj] at hn
    dsimp only at hn
    by_cases he2 : e2 = 0
    · subst he2
      rw [readS_ok h150 hg hj]
      simp
    · rw [readS_none h150 hg hj he2]
      dsimp only
      omega
  · rw [readS_bad h150 hg he]
    dsimp only
    omega
theorem read_err (l : List UInt8) (h : ¬ (readS l).e = 0) : (readS l).cells = [] ∧ (readS l).labels = [] := by
  unfold readS at h ⊢
  split
  · exact ⟨rfl, rfl⟩
  · rename_i h1
    rw [if_neg h1] at h
    split
    · rename_i h2
      rw [if_pos h2] at h
      split
      · rename_i h3
        rw [if_pos h3] at h
        exact absurd rfl h
      · exact ⟨rfl, rfl⟩
    · exact ⟨rfl, rfl⟩
/-- How many cells and labels are told. -/
theorem read_count (l : List UInt8) (he : (readS l).e = 0) : (readS l).cells.length = ((filL (sp 10 l)).filter fun l => !isLb l).length ∧ (readS l).labels.length = ((filL (sp 10 l)).filter isLb).length := by
  by_cases h150 : 150 ≤ l.count 10
  · rw [readS_large h150] at he; cases he
  obtain ⟨st, n, e, hg⟩ : ∃ st n e, goS ⟨[], [], []⟩ 1 (sp 10 l) = (st, n, e) := ⟨_, _, _, rfl⟩
  by_cases h0 : e = 0
  · subst h0
    obtain ⟨cs, n2, e2, hj⟩ : ∃ cs n e, joinS st.labels st.cells st.leads = (cs, n, e) := ⟨_, _, _, rfl⟩
    by_cases he2 : e2 = 0
    · subst he2
      have hc := go_count (sp 10 l) ⟨[], [], []⟩ 1 (by rw [hg])
      rw [hg] at hc
      have hjl := join_len st.labels st.leads st.cells
      rw [hj] at hjl
      rw [readS_ok h150 hg hj]
      dsimp only at hc hjl ⊢
      simp only [List.length_nil, Nat.zero_add] at hc
      exact ⟨by rw [hjl]; exact hc.1, hc.2⟩
    · rw [readS_none h150 hg hj he2] at he
      exact absurd he he2
  · rw [readS_bad h150 hg h0] at he
    exact absurd he h0
end
section
open Go.Lib

theorem go_short : ∀ (ls : List (List UInt8)) (s : PS) (k : Nat), (goS s k ls).2.2 = 0 → ∀ x ∈ ls, x.length ≤ 80
  | [], _, _, _ => fun x hx => by simp at hx
  | l :: ls, s, k, h => by
    rw [goS] at h
    by_cases h0 : (takeS s (k : Int) l).2 = 0
    · rw [if_pos h0] at h
      intro x hx
      rcases List.mem_cons.1 hx with rfl | hx
      · by_cases h80 : 80 < x.length
        · unfold takeS at h0
          rw [if_pos h80] at h0
          cases h0
        · omega
      · exact go_short ls _ _ h x hx
    · rw [if_neg h0] at h
      exact absurd h h0
theorem read_short (l : List UInt8) (he : (readS l).e = 0) : l.count 10 < 150 ∧ ∀ x ∈ sp 10 l, x.length ≤ 80 := by
  by_cases h150 : 150 ≤ l.count 10
  · rw [readS_large h150] at he; cases he
  · refine ⟨by omega, ?_⟩
    by_cases h : (goS ⟨[], [], []⟩ 1 (sp 10 l)).2.2 = 0
    · exact go_short _ _ _ h
    · rw [readS_bad h150 (st := (goS ⟨[], [], []⟩ 1 (sp 10 l)).1) (n := (goS ⟨[], [], []⟩ 1 (sp 10 l)).2.1) (e := (goS ⟨[], [], []⟩ 1 (sp 10 l)).2.2) rfl h] at he
      exact absurd he h
/-- What has been gathered of the first k lines. -/
def ga (ls : List (List UInt8)) (k : Nat) : List (List UInt8) := filL (ls.take k)
def gc (ls : List (List UInt8)) (k : Nat) : Nat := ((ga ls k).filter fun l => !isLb l).length
theorem take_at {ls : List (List UInt8)} {k : Nat} {x : List UInt8} (h : ls[k]? = some x) : ls.take (k + 1) = ls.take k ++ [x] := by
  rw [List.take_add_one, h]
  rfl
theorem ga_nil {ls : List (List UInt8)} {k : Nat} (h : ls[k]? = some []) : ga ls (k + 1) = ga ls k ∧ gc ls (k + 1) = gc ls k := by
  have e : ga ls (k + 1) = ga ls k := by
    unfold ga filL
    rw [take_at h, List.filter_append]
    simp
  exact ⟨e, by unfold gc; rw [e]⟩
theorem ga_add {ls : List (List UInt8)} {k : Nat} {x : List UInt8} (h : ls[k]? = some x) (hx : ¬ x = []) : ga ls (k + 1) = ga ls k ++ [x] ∧ gc ls (k + 1) = gc ls k + (if isLb x then 0 else 1) := by
  have e : ga ls (k + 1) = ga ls k ++ [x] := by
    unfold ga filL
    rw [take_at h, List.filter_append]
    cases x with
    | nil => exact absurd rfl hx
    | cons a r => rfl
  refine ⟨e, ?_⟩
  unfold gc
  rw [e, List.filter_append, List.length_append]
  cases hb : isLb x <;> simp [hb]
theorem ga_len (ls : List (List UInt8)) (k : Nat) : (ga ls k).length ≤ k := by
  unfold ga
  have := fil_len (ls.take k)
  rw [List.length_take] at this
  omega
theorem gc_len (ls : List (List UInt8)) (k : Nat) : gc ls k ≤ (ga ls k).length := List.length_filter_le _ _
theorem ga_all (ls : List (List UInt8)) : ga ls ls.length = filL ls := by unfold ga; rw [List.take_length]
theorem two_kinds : ∀ ls : List (List UInt8), ls.length = (ls.filter fun l => !isLb l).length + (ls.filter isLb).length
  | [] => rfl
  | l :: ls => by
    have ih := two_kinds ls
    cases h : isLb l
    · rw [List.filter_cons_of_pos (by simp [h]), List.filter_cons_of_neg (by simp [h]), List.length_cons, List.length_cons]; omega
    · rw [List.filter_cons_of_neg (by simp [h]), List.filter_cons_of_pos (by simp [h]), List.length_cons, List.length_cons]; omega
theorem read_both (l : List UInt8) (he : (readS l).e = 0) : (readS l).cells.length = gc (sp 10 l) (sp 10 l).length ∧ (readS l).labels.length + gc (sp 10 l) (sp 10 l).length = (ga (sp 10 l) (sp 10 l).length).length := by
  obtain ⟨h1, h2⟩ := read_count l he
  unfold gc
  rw [ga_all]
  refine ⟨h1, ?_⟩
  rw [h2]
  have := two_kinds (filL (sp 10 l))
  omega
end
section
open Go.Lib

theorem read_num {o a b c : Int} (h : chkD o a b c = 0) : readD (numD o a b c) = ⟨o, a, b, c, 0⟩ := by
  have r := chkD_ok h
  have e1 : numD o a b c % 32 = o := by unfold numD; omega
  have e2 : numD o a b c / 32 % 8 = a := by unfold numD; omega
  have e3 : numD o a b c / 256 % 8 = b := by unfold numD; omega
  have e4 : numD o a b c / 2048 - 2048 = c := by unfold numD; omega
  unfold readD
  rw [e1, e2, e3, e4, if_pos h]
theorem place_app (bs : List LB) (b : LB) (nm : List UInt8) : placeL (bs ++ [b]) nm = match placeL bs nm with
    | some p => some p
    | none => if b.nm = nm then some b.at_ else none := by
  induction bs with
  | nil => rfl
  | cons x bs ih =>
    rw [List.cons_append, placeL, placeL]
    split
    · rfl
    · exact ih
/-- Names that are names, each once. -/
def LbOk (bs : List LB) : Prop := ∀ b ∈ bs, nameL b.nm = true ∧ placeL bs b.nm = some b.at_
theorem LbOk.add {bs : List LB} (h : LbOk bs) {nm : List UInt8} {p : Int} (hn : nameL nm = true) (hp : placeL bs nm = none) : LbOk (bs ++ [⟨nm, p⟩]) := by
  intro b hb
  rcases List.mem_append.1 hb with hb | hb
  · refine ⟨(h b hb).1, ?_⟩
    rw [place_app, (h b hb).2]
  · simp only [List.mem_cons, List.not_mem_nil, or_false] at hb
    subst hb
    refine ⟨hn, ?_⟩
    rw [place_app]
    dsimp only
    rw [hp]
    exact if_pos rfl
/-- What the state knows of the lines that are cells. -/
structure CInv (st : PS) (cl : List (List UInt8)) : Prop where
  len : st.cells.length = cl.length
  row : ∀ (i : Nat) x, cl[i]? = some x → cellL x = none → ∃ J n, jumpL x = some J ∧ (⟨n, (i : Int), J⟩ : LD) ∈ st.leads
  ld : ∀ d ∈ st.leads, 0 ≤ d.at_ ∧ d.at_ < cl.length
  pw : st.leads.Pairwise (fun a b => a.at_ ≠ b.at_)
  lb : LbOk st.labels
def isCl (l : List UInt8) : Bool := !l.isEmpty && !isLb l
theorem take_inv {st : PS} {cl : List (List UInt8)} (h : CInv st cl) (n : Int) (l : List UInt8) (he : (takeS st n l).2 = 0) : CInv (takeS st n l).1 (cl ++ if isCl l = true then [l] else []) := by
  unfold takeS at he ⊢
  split at he
  · cases he
  · split at he
    · rename_i h1 h2
      rw [if_neg h1, if_pos h2]
      subst h2
      rw [if_neg (by decide), List.append_nil]
      exact h
    · rename_i h1 h2
      rw [if_neg h1, if_neg h2]
      split at he
      · rename_i h3
        rw [if_pos h3]
        have hc : isCl l = false := by unfold isCl isLb; rw [h3]; simp
        rw [hc, if_neg (by simp), List.append_nil]
        unfold takeLb at he ⊢
        split at he
        · cases he
        · split at he
          · cases he
          · split at he
            · cases he
            · rename_i g1 g2 g3
              rw [if_neg g1, if_neg g2, if_neg g3]
              refine ⟨h.len, h.row, h.ld, h.pw, h.lb.add (by simpa using g1) ?_⟩
              cases hp : placeL st.labels (l.take (l.length - 1)) with
              | none => rfl
              | some p => rw [hp] at g2; simp at g2
      · rename_i h3
        rw [if_neg h3]
        have hc : isCl l = true := by
          unfold isCl isLb
          cases hl : ([58] : List UInt8).isSuffixOf l
          · cases l with
            | nil => exact absurd rfl h2
            | cons a r => rfl
          · exact absurd hl h3
        rw [hc, if_pos rfl]
        unfold takeCl at he ⊢
        split at he
        · rename_i v hv
          try rw [hv]
          refine ⟨by simp [h.len], fun i x hx hn => ?_, fun d hd => by have := h.ld d hd; simp; omega, h.pw, h.lb⟩
          rcases Nat.lt_or_ge i cl.length with hi | hi
          · rw [List.getElem?_append_left hi] at hx
            exact h.row i x hx hn
          · rw [List.getElem?_append_right hi] at hx
            rcases Nat.eq_or_lt_of_le hi with e | e
            · rw [e, Nat.sub_self] at hx
              injection hx with hx
              subst hx
              rw [hv] at hn
              cases hn
            · rw [List.getElem?_eq_none (by simp; omega)] at hx
              cases hx
        · rename_i hv
          try rw [hv]
          split at he
          · rename_i J hJ
            try rw [hJ]
            refine ⟨by simp [h.len], fun i x hx hn => ?_, fun d hd => ?_, ?_, h.lb⟩
            · rcases Nat.lt_or_ge i cl.length with hi | hi
              · rw [List.getElem?_append_left hi] at hx
                obtain ⟨J', n', h1, h2⟩ := h.row i x hx hn
                exact ⟨J', n', h1, List.mem_append_left _ h2⟩
              · rw [List.getElem?_append_right hi] at hx
                rcases Nat.eq_or_lt_of_le hi with e | e
                · rw [e, Nat.sub_self] at hx
                  injection hx with hx
                  subst hx
                  refine ⟨J, n, hJ, List.mem_append_right _ ?_⟩
                  rw [h.len, e]
                  exact List.mem_singleton.2 rfl
                · rw [List.getElem?_eq_none (by simp; omega)] at hx
                  cases hx
            · rcases List.mem_append.1 hd with hd | hd
              · have := h.ld d hd
                simp; omega
              · rw [List.mem_singleton] at hd
                subst hd
                have := h.len
                simp; omega
            · rw [List.pairwise_append]
              refine ⟨h.pw, List.pairwise_singleton _ _, fun a ha b hb => ?_⟩
              rw [List.mem_singleton] at hb
              subst hb
              have h1 := (h.ld a ha).2
              have h2 := h.len
              dsimp only
              omega
          · cases he
theorem go_inv : ∀ (ls : List (List UInt8)) (st : PS) (k : Nat) (cl : List (List UInt8)), CInv st cl → (goS st k ls).2.2 = 0 → CInv (goS st k ls).1 (cl ++ ls.filter isCl)
  | [], st, k, cl, h, _ => by rw [List.filter_nil, List.append_nil]; exact h
  | l :: ls, st, k, cl, h, he => by
    rw [goS] at he ⊢
    by_cases h0 : (takeS st (k : Int) l).2 = 0
    · rw [if_pos h0] at he ⊢
      have ih := go_inv ls _ (k + 1) _ (take_inv h (k : Int) l h0) he
      rw [List.append_assoc] at ih
      have e : ((if isCl l = true then [l] else []) ++ ls.filter isCl) = (l :: ls).filter isCl := by
        cases hc : isCl l
        · rw [List.filter_cons_of_neg (by simp [hc]), if_neg (by simp)]; rfl
        · rw [List.filter_cons_of_pos hc, if_pos rfl]; rfl
      rw [e] at ih
      exact ih
    · rw [if_neg h0] at he
      exact absurd he h0
theorem join_keep (bs : List LB) : ∀ (ds : List LD) (cs : List Int) (i : Nat), (∀ d ∈ ds, 0 ≤ d.at_ ∧ d.at_ ≠ (i : Int)) → (joinS bs cs ds).1[i]? = cs[i]?
  | [], _, _, _ => rfl
  | d :: ds, cs, i, h => by
    rw [joinS]
    split
    · rfl
    · split
      · rw [join_keep bs ds _ i (fun x hx => h x (List.mem_cons_of_mem _ hx))]
        have := h d List.mem_cons_self
        rw [List.getElem?_set_ne (by omega)]
      · rfl
theorem join_fill (bs : List LB) : ∀ (ds : List LD) (cs : List Int), (joinS bs cs ds).2.2 = 0 → ds.Pairwise (fun a b => a.at_ ≠ b.at_) → (∀ d ∈ ds, 0 ≤ d.at_ ∧ d.at_ < cs.length) →
    ∀ d ∈ ds, ∃ p, placeL bs d.j.lab = some p ∧ chkD d.j.o d.j.a d.j.b (p - d.at_) = 0 ∧ (joinS bs cs ds).1[d.at_.toNat]? = some (numD d.j.o d.j.a d.j.b (p - d.at_))
  | [], _, _, _, _ => fun d hd => by simp at hd
  | x :: ds, cs, he, hp, hb => by
    rw [List.pairwise_cons] at hp
    rw [joinS] at he ⊢
    split at he
    · cases he
    · rename_i p hpl
      split at he
      · rename_i hc
        intro d hd
        rw [if_pos hc]
        rcases List.mem_cons.1 hd with rfl | hd
        · refine ⟨p, hpl, hc, ?_⟩
          have hx := hb d List.mem_cons_self
          rw [join_keep bs ds _ d.at_.toNat (fun y hy => ⟨(hb y (List.mem_cons_of_mem _ hy)).1, fun e => hp.1 y hy (by omega)⟩), List.getElem?_set_self (by omega)]
        · exact join_fill bs ds _ he hp.2 (fun y hy => by rw [List.length_set]; exact hb y (List.mem_cons_of_mem _ hy)) d hd
      · cases he
/-- A line that is no cell by itself is filled in. -/
theorem read_fills (l : List UInt8) (he : (readS l).e = 0) : LbOk (readS l).labels ∧ (readS l).cells.length = ((sp 10 l).filter isCl).length ∧
    ∀ (i : Nat) x, ((sp 10 l).filter isCl)[i]? = some x → cellL x = none → ∃ J p, jumpL x = some J ∧ placeL (readS l).labels J.lab = some p ∧ chkD J.o J.a J.b (p - i) = 0 ∧ (readS l).cells[i]? = some (numD J.o J.a J.b (p - i)) := by
  by_cases h150 : 150 ≤ l.count 10
  · rw [readS_large h150] at he; cases he
  have hg0 : (goS ⟨[], [], []⟩ 1 (sp 10 l)).2.2 = 0 := by
    by_cases h : (goS ⟨[], [], []⟩ 1 (sp 10 l)).2.2 = 0
    · exact h
    · rw [readS_bad h150 (st := (goS ⟨[], [], []⟩ 1 (sp 10 l)).1) (n := (goS ⟨[], [], []⟩ 1 (sp 10 l)).2.1) (e := (goS ⟨[], [], []⟩ 1 (sp 10 l)).2.2) rfl h] at he
      exact absurd he h
  have inv := go_inv (sp 10 l) ⟨[], [], []⟩ 1 [] ⟨rfl, fun i x hx => by simp at hx, fun d hd => by simp at hd, List.Pairwise.nil, fun b hb => by simp at hb⟩ hg0
  rw [List.nil_append] at inv
  obtain ⟨st, n, e, hg⟩ : ∃ st n e, goS ⟨[], [], []⟩ 1 (sp 10 l) = (st, n, e) := ⟨_, _, _, rfl⟩
  rw [hg] at hg0 inv
  have hg0' : e = 0 := hg0
  subst hg0'
  have inv' : CInv st ((sp 10 l).filter isCl) := inv
  obtain ⟨cs, n2, e2, hj⟩ : ∃ cs n e, joinS st.labels st.cells st.leads = (cs, n, e) := ⟨_, _, _, rfl⟩
  have he2 : e2 = 0 := by
    by_cases h : e2 = 0
    · exact h
    · rw [readS_none h150 hg hj h] at he
      exact absurd he h
  subst he2
  rw [readS_ok h150 hg hj]
  have hcl : cs.length = st.cells.length := by
    have := join_len st.labels st.leads st.cells
    rw [hj] at this
    exact this
  refine ⟨inv'.lb, hcl.trans inv'.len, fun i x hx hn => ?_⟩
  obtain ⟨J, n', h1, h2⟩ := inv'.row i x hx hn
  obtain ⟨p, q1, q2, q3⟩ := join_fill st.labels st.leads st.cells (by rw [hj]) inv'.pw (fun d hd => by rw [inv'.len]; exact inv'.ld d hd) _ h2
  rw [hj] at q3
  exact ⟨J, p, h1, q1, q2, by simpa using q3⟩
/-- The first word. -/
theorem sp_first (c : UInt8) : ∀ l : List UInt8, ∃ ys, sp c l = l.takeWhile (· != c) :: ys
  | [] => ⟨[], rfl⟩
  | x :: xs => by
    obtain ⟨ys, e⟩ := sp_first c xs
    by_cases h : x = c
    · subst h
      rw [sp_sep, List.takeWhile_cons_of_neg (by simp)]
      exact ⟨_, rfl⟩
    · rw [sp_other h e, List.takeWhile_cons_of_pos (by simp [h])]
      exact ⟨_, rfl⟩
theorem name_itoa (c : Int) : nameL (itoa c) = false := by
  unfold nameL
  have h : isLet ((itoa c).headD 0) = false := by
    unfold itoa
    split
    · show isLet 45 = false
      decide
    · cases hd : decDigits c.toNat with
      | nil => decide
      | cons a r =>
        have := dec_dig c.toNat a (by rw [hd]; simp)
        show isLet a = false
        unfold isLet
        rw [decide_eq_false_iff_not]
        omega
  rw [h]
  simp
/-- A line whose first word is 'jump' or 'if', and whose last one, of several, is a name, is no cell by itself. -/
theorem cell_none {x p q : List UInt8} (e : x = p ++ 32 :: q) (hq : 32 ∉ q) (hn : nameL q = true) (hf : x.takeWhile (· != 32) = [106, 117, 109, 112] ∨ x.takeWhile (· != 32) = [105, 102]) : cellL x = none := by
  unfold cellL
  have hw : wd.isPrefixOf x = false := by
    cases h : wd.isPrefixOf x
    · rfl
    · obtain ⟨r, hr⟩ := List.isPrefixOf_iff_prefix.1 h
      have : x.takeWhile (· != 32) = [119, 111, 114, 100] := by rw [← hr]; rfl
      rw [this] at hf
      rcases hf with h | h <;> cases h
  rw [if_neg (by rw [hw]; simp)]
  rcases parse_cases x with ⟨h, _⟩ | ⟨_, h1, h2⟩
  · rw [h, if_neg (by decide)]
  · exfalso
    have r := chkD_ok h1
    generalize (parseD x).a = a at *
    generalize (parseD x).b = b at *
    generalize (parseD x).c = c at *
    obtain ⟨n, hnn⟩ := Int.eq_ofNat_of_zero_le r.1.1
    rw [hnn] at h1 h2 r
    have hn23 : n < 23 := by omega
    have h3 : textL n a b c = x := h2
    have hc := text_cut n hn23 a b c
    rw [h3] at hc
    have hsw : shW n = x.takeWhile (· != 32) := hc.symm
    have e1 := op_word n hn23
    have key : ∀ y : List UInt8, x = y ++ 32 :: itoa c → False := fun y hy => by
      have hno : 32 ∉ itoa c := by
        intro hm
        unfold itoa at hm
        split at hm
        · rcases List.mem_cons.1 hm with h | h
          · cases h
          · have := dec_dig _ _ h
            revert this
            decide
        · have := dec_dig _ _ hm
          revert this
          decide
      have s1 : sp 32 x = sp 32 p ++ [q] := by rw [e, sp_app, sp_none hq]
      have s2 : sp 32 x = sp 32 y ++ [itoa c] := by rw [hy, sp_app, sp_none hno]
      have s3 := congrArg (fun l => l.getLast?) (s1.symm.trans s2)
      simp only [List.getLast?_append, List.getLast?_singleton, Option.some_or] at s3
      injection s3 with s3
      rw [s3, name_itoa] at hn
      cases hn
    rcases hf with hf | hf
    · have h8 : n = 8 := by
        rw [hsw, hf] at e1
        have e2 : opL [106, 117, 109, 112] = 8 := by decide +kernel
        omega
      subst h8
      have h4 : shW 8 ++ tellL (shA 8) a ++ tellL (shB 8) b ++ tellL (shC 8) c = x := h3
      have hA : shA 8 = 0 := by decide
      have hB : shB 8 = 0 := by decide
      have hC : shC 8 = 2 := by decide
      rw [hA, hB, hC] at h4
      exact key (shW 8) (by rw [← h4]; unfold tellL; simp)
    · have h9 : n = 9 := by
        rw [hsw, hf] at e1
        have e2 : opL [105, 102] = 9 := by decide +kernel
        omega
      subst h9
      have h4 : shW 9 ++ tellL (shA 9) a ++ tellL (shB 9) b ++ tellL (shC 9) c = x := h3
      have hA : shA 9 = 1 := by decide
      have hB : shB 9 = 0 := by decide
      have hC : shC 9 = 2 := by decide
      rw [hA, hB, hC] at h4
      exact key (shW 9 ++ 32 :: 114 :: itoa a) (by rw [← h4]; unfold tellL; simp)
/-- A jump to a label leads to its place. -/
theorem read_leads {l : List UInt8} (he : (readS l).e = 0) {i : Nat} {x : List UInt8} (hx : ((sp 10 l).filter isCl)[i]? = some x) {ws : List (List UInt8)} {f q : List UInt8} (hs : sp 32 x = f :: ws) (hw : ws ≠ []) (hl : (f :: ws).getLast? = some q)
    {b : LB} (hb : b ∈ (readS l).labels) (hq : b.nm = q) (hf : f = [106, 117, 109, 112] ∨ f = [105, 102]) {c : Int} (hc : (readS l).cells[i]? = some c) : (readD c).e = 0 ∧ (i : Int) + (readD c).c = b.at_ := by
  obtain ⟨hlb, _, hall⟩ := read_fills l he
  obtain ⟨hn, hp⟩ := hlb b hb
  rw [hq] at hn hp
  obtain ⟨ys, e1⟩ := sp_first 32 x
  have hfx : x.takeWhile (· != 32) = f := by
    rw [e1] at hs
    injection hs with hs
  rcases last_cases 32 x with ⟨_, _, h⟩ | ⟨p, q', e, hq', hli, h⟩
  · rw [h] at hs
    injection hs with _ hs
    exact absurd hs.symm hw
  · have e2 : q' = q := by
      rw [hs] at h
      rw [h, List.getLast?_append] at hl
      simp at hl
      exact hl
    subst e2
    have hcn := cell_none e hq' hn (by rw [hfx]; exact hf)
    obtain ⟨J, pp, h1, h2, h3, h4⟩ := hall i x hx hcn
    rw [jumpL_at e hli] at h1
    rw [if_neg (by rw [hn]; simp)] at h1
    split at h1
    · injection h1 with h1
      have hlab : J.lab = q' := by rw [← h1]
      rw [hlab, hp] at h2
      injection h2 with h2
      rw [hc] at h4
      injection h4 with h4
      rw [h4, read_num h3]
      refine ⟨rfl, ?_⟩
      show (i : Int) + (pp - i) = b.at_
      omega
    · cases h1
end
section
open Go.Lib

/-- The second time: what has been gathered, the line's number, the error. -/
def go2 (bs : List LB) : List Int → Nat → List (List UInt8) → List Int × Int × Int
  | acc, _, [] => (acc, 0, 0)
  | acc, n, x :: ls =>
    if isCl x = false then go2 bs acc (n + 1) ls
    else match jumpL x with
      | some J => match placeL bs J.lab with
        | none => (acc, n, 7)
        | some p => if -2048 ≤ p - acc.length ∧ p - acc.length ≤ 2047 then go2 bs (acc ++ [numD J.o J.a J.b (p - acc.length)]) (n + 1) ls else (acc, n, 13)
      | none => match cellL x with
        | some v => go2 bs (acc ++ [v]) (n + 1) ls
        | none => (acc, n, 3)
theorem take_first : ∀ (p q r : List UInt8), (p ++ 32 :: q).takeWhile (· != 32) = (p ++ 32 :: r).takeWhile (· != 32)
  | [], _, _ => by simp
  | a :: p, q, r => by
    rw [List.cons_append, List.cons_append, List.takeWhile_cons, List.takeWhile_cons, take_first p q r]
/-- What a line that leads to a name is. -/
theorem jump_is {x : List UInt8} {J : JL} (h : jumpL x = some J) : cellL x = none ∧ nameL J.lab = true ∧ chkD J.o J.a J.b J.c = 0 ∧ (J.o = 8 ∨ J.o = 9) := by
  rcases last_cases 32 x with ⟨hl, _, _⟩ | ⟨p, q, e, hq, hli, _⟩
  · rw [jumpL_none hl] at h; cases h
  · rw [jumpL_at e hli] at h
    split at h
    · cases h
    · rename_i hn
      split at h
      · rename_i hp
        injection h with h
        have hnm : nameL q = true := by cases hb : nameL q with
          | true => rfl
          | false => exact absurd hb hn
        rcases parse_cases (p ++ [32, 48]) with ⟨h1, _⟩ | ⟨_, h1, h2⟩
        · rw [h1] at hp; exact absurd hp.1 (by decide)
        · subst h
          refine ⟨cell_none e hq hnm ?_, hnm, h1, hp.2⟩
          have r := chkD_ok h1
          obtain ⟨n, hnn⟩ := Int.eq_ofNat_of_zero_le r.1.1
          have hn23 : n < 23 := by omega
          have hc := text_cut n hn23 (parseD (p ++ [32, 48])).a (parseD (p ++ [32, 48])).b (parseD (p ++ [32, 48])).c
          rw [hnn] at h2
          have h3 : textL n (parseD (p ++ [32, 48])).a (parseD (p ++ [32, 48])).b (parseD (p ++ [32, 48])).c = p ++ [32, 48] := h2
          rw [h3] at hc
          have hw : (p ++ [32, 48]).takeWhile (· != 32) = shW n := hc
          have hw2 : x.takeWhile (· != 32) = shW n := by
            rw [← hw, e]
            exact take_first p q [48]
          rw [hw2]
          rcases hp.2 with h8 | h9
          · rw [hnn] at h8
            obtain rfl : n = 8 := by omega
            exact .inl (by decide)
          · rw [hnn] at h9
            obtain rfl : n = 9 := by omega
            exact .inr (by decide)
      · cases h
theorem jump_chk {J : JL} (h : chkD J.o J.a J.b J.c = 0) (ho : J.o = 8 ∨ J.o = 9) (c : Int) : chkD J.o J.a J.b c = 0 ↔ -2048 ≤ c ∧ c ≤ 2047 := by
  constructor
  · intro h1
    have := chkD_ok h1
    omega
  · intro hc
    have kc : kMay 2 c = true := by
      unfold kMay
      rw [decide_eq_true_eq, show kLo 2 = -2048 by decide, show kHi 2 = 2047 by decide]
      exact hc
    have h8 : shC 8 = 2 := by decide
    have h9 : shC 9 = 2 := by decide
    unfold chkD at h ⊢
    rcases ho with ho | ho
    · rw [ho] at h ⊢
      rw [if_pos (by omega)] at h ⊢
      have e : (8 : Int).toNat = 8 := rfl
      rw [e] at h ⊢
      unfold chkN at h ⊢
      split at h
      · rename_i hk
        rw [if_pos ⟨hk.1, hk.2.1, by rw [h8]; exact kc⟩]
      · cases h
    · rw [ho] at h ⊢
      rw [if_pos (by omega)] at h ⊢
      have e : (9 : Int).toNat = 9 := rfl
      rw [e] at h ⊢
      unfold chkN at h ⊢
      split at h
      · rename_i hk
        rw [if_pos ⟨hk.1, hk.2.1, by rw [h9]; exact kc⟩]
      · cases h
theorem join_app (bs : List LB) : ∀ (ds : List LD) (cs ys : List Int), (∀ d ∈ ds, 0 ≤ d.at_ ∧ d.at_ < cs.length) → joinS bs (cs ++ ys) ds = ((joinS bs cs ds).1 ++ ys, (joinS bs cs ds).2.1, (joinS bs cs ds).2.2)
  | [], _, _, _ => rfl
  | d :: ds, cs, ys, h => by
    rw [joinS, joinS]
    have hd := h d List.mem_cons_self
    split
    · rfl
    · split
      · rw [List.set_append_left _ _ (by omega)]
        exact join_app bs ds _ ys (fun x hx => by rw [List.length_set]; exact h x (List.mem_cons_of_mem _ hx))
      · rfl
theorem join_more (bs : List LB) : ∀ (ds es : List LD) (cs : List Int), joinS bs cs (ds ++ es) = if (joinS bs cs ds).2.2 = 0 then joinS bs (joinS bs cs ds).1 es else joinS bs cs ds
  | [], es, cs => by rw [List.nil_append]; show _ = if (0 : Int) = 0 then _ else _; rw [if_pos rfl]; rfl
  | d :: ds, es, cs => by
    rw [List.cons_append, joinS, joinS]
    split
    · rw [if_neg (show ¬ (7 : Int) = 0 by decide)]
    · split
      · exact join_more bs ds es _
      · rw [if_neg (show ¬ (13 : Int) = 0 by decide)]
theorem take_ext (st : PS) (n : Int) (l : List UInt8) : ∃ ys es, (takeS st n l).1.cells = st.cells ++ ys ∧ (takeS st n l).1.leads = st.leads ++ es := by
  have nil : ∃ ys es, st.cells = st.cells ++ ys ∧ st.leads = st.leads ++ es := ⟨[], [], by simp, by simp⟩
  unfold takeS
  split
  · exact nil
  · split
    · exact nil
    · split
      · unfold takeLb
        split
        · exact nil
        · split
          · exact nil
          · split
            · exact nil
            · exact nil
      · unfold takeCl
        split
        · exact ⟨[_], [], rfl, by simp⟩
        · split
          · exact ⟨[_], [_], rfl, rfl⟩
          · exact nil
theorem go_ext : ∀ (ls : List (List UInt8)) (st : PS) (k : Nat), ∃ ys es, (goS st k ls).1.cells = st.cells ++ ys ∧ (goS st k ls).1.leads = st.leads ++ es
  | [], st, k => ⟨[], [], by simp [goS], by simp [goS]⟩
  | l :: ls, st, k => by
    rw [goS]
    split
    · obtain ⟨y1, e1, h1, h2⟩ := take_ext st (k : Int) l
      obtain ⟨y2, e2, h3, h4⟩ := go_ext ls (takeS st (k : Int) l).1 (k + 1)
      exact ⟨y1 ++ y2, e1 ++ e2, by rw [h3, h1, List.append_assoc], by rw [h4, h2, List.append_assoc]⟩
    · exact ⟨[], [], by simp, by simp⟩
theorem isCl_nil : isCl [] = false := rfl
/-- An error stays, whatever comes behind it. -/
theorem join_bad {bs : List LB} {st : PS} {n e : Int} {acc : List Int} (hd : ∀ d ∈ st.leads, 0 ≤ d.at_ ∧ d.at_ < st.cells.length) (hj : joinS bs st.cells st.leads = (acc, n, e)) (he : ¬ e = 0) (ls : List (List UInt8)) (k : Nat) : (joinS bs (goS st k ls).1.cells (goS st k ls).1.leads).2 = (n, e) := by
  obtain ⟨ys, es, h1, h2⟩ := go_ext ls st k
  have h3 := join_app bs st.leads st.cells ys hd
  rw [hj] at h3
  dsimp only at h3
  rw [h1, h2, join_more, h3, if_neg he]
/-- Both ways. -/
theorem go_two (bs : List LB) : ∀ (ls : List (List UInt8)) (st : PS) (k : Nat) (acc : List Int), (goS st k ls).2.2 = 0 → (∀ d ∈ st.leads, 0 ≤ d.at_ ∧ d.at_ < st.cells.length) → joinS bs st.cells st.leads = (acc, 0, 0) →
    (joinS bs (goS st k ls).1.cells (goS st k ls).1.leads).2 = (go2 bs acc k ls).2 ∧ ((go2 bs acc k ls).2.2 = 0 → (joinS bs (goS st k ls).1.cells (goS st k ls).1.leads).1 = (go2 bs acc k ls).1)
  | [], st, k, acc, _, _, hj => by
    have e1 : goS st k [] = (st, 0, 0) := rfl
    have e2 : go2 bs acc k [] = (acc, 0, 0) := rfl
    rw [e1, e2, hj]
    exact ⟨rfl, fun _ => rfl⟩
  | x :: ls, st, k, acc, he, hd, hj => by
    have hlen : acc.length = st.cells.length := by
      have := join_len bs st.leads st.cells
      rw [hj] at this
      exact this
    rw [goS] at he ⊢
    by_cases h0 : (takeS st (k : Int) x).2 = 0
    · rw [if_pos h0] at he ⊢
      have skip : isCl x = false → (takeS st (k : Int) x).1.cells = st.cells → (takeS st (k : Int) x).1.leads = st.leads →
          (joinS bs (goS (takeS st (k : Int) x).1 (k + 1) ls).1.cells (goS (takeS st (k : Int) x).1 (k + 1) ls).1.leads).2 = (go2 bs acc k (x :: ls)).2 ∧ ((go2 bs acc k (x :: ls)).2.2 = 0 → (joinS bs (goS (takeS st (k : Int) x).1 (k + 1) ls).1.cells (goS (takeS st (k : Int) x).1 (k + 1) ls).1.leads).1 = (go2 bs acc k (x :: ls)).1) := fun hc h1 h2 => by
        have e : go2 bs acc k (x :: ls) = go2 bs acc (k + 1) ls := by rw [go2, if_pos hc]
        rw [e]
        exact go_two bs ls _ (k + 1) acc he (by rw [h1, h2]; exact hd) (by rw [h1, h2]; exact hj)
      have tk : takeS st (k : Int) x = takeS st (k : Int) x := rfl
      unfold takeS at tk h0
      split at h0
      · cases h0
      · rename_i n80
        split at h0
        · rename_i hx
          subst hx
          exact skip rfl (by rw [take_nil]) (by rw [take_nil])
        · rename_i hx
          split at h0
          · rename_i hl
            have hc : isCl x = false := by unfold isCl isLb; rw [hl]; simp
            have e : takeS st (k : Int) x = takeLb st (x.take (x.length - 1)) := by unfold takeS; rw [if_neg n80, if_neg hx, if_pos hl]
            refine skip hc ?_ ?_
            · rw [e]; unfold takeLb; split; · rfl
              split; · rfl
              split <;> rfl
            · rw [e]; unfold takeLb; split; · rfl
              split; · rfl
              split <;> rfl
          · rename_i hl
            have hc : isCl x = true := by
              unfold isCl isLb
              cases hb : ([58] : List UInt8).isSuffixOf x
              · cases x with
                | nil => exact absurd rfl hx
                | cons a r => rfl
              · exact absurd hb hl
            have e : takeS st (k : Int) x = takeCl st (k : Int) x := by unfold takeS; rw [if_neg n80, if_neg hx, if_neg hl]
            rw [e] at he ⊢
            rw [go2, if_neg (by rw [hc]; simp)]
            cases hcl : cellL x with
            | some v =>
              have hjn : jumpL x = none := by
                cases hjm : jumpL x with
                | none => rfl
                | some J => rw [(jump_is hjm).1] at hcl; cases hcl
              have e1 : takeCl st (k : Int) x = (⟨st.cells ++ [v], st.labels, st.leads⟩, 0) := by unfold takeCl; rw [hcl]
              rw [e1] at he ⊢
              rw [hjn]
              dsimp only at he ⊢
              refine go_two bs ls _ (k + 1) _ he (fun d hd' => by have := hd d hd'; simp; omega) ?_
              have := join_app bs st.leads st.cells [v] hd
              rw [hj] at this
              exact this
            | none =>
              cases hjm : jumpL x with
              | none => unfold takeCl at h0; rw [hcl, hjm] at h0; cases h0
              | some J =>
                obtain ⟨_, _, hck, ho⟩ := jump_is hjm
                have e1 : takeCl st (k : Int) x = (⟨st.cells ++ [0], st.labels, st.leads ++ [⟨(k : Int), st.cells.length, J⟩]⟩, 0) := by unfold takeCl; rw [hcl, hjm]
                rw [e1] at he ⊢
                dsimp only at he ⊢
                have hd1 : ∀ d ∈ st.leads ++ [⟨(k : Int), (st.cells.length : Int), J⟩], 0 ≤ d.at_ ∧ d.at_ < ((st.cells ++ [(0 : Int)]).length : Int) := fun d hd' => by
                  rcases List.mem_append.1 hd' with h | h
                  · have := hd d h; simp; omega
                  · rw [List.mem_singleton] at h; subst h; simp; omega
                have hj1 := join_app bs st.leads st.cells [0] hd
                rw [hj] at hj1
                dsimp only at hj1
                have hj2 : joinS bs (st.cells ++ [0]) (st.leads ++ [⟨(k : Int), st.cells.length, J⟩]) = joinS bs (acc ++ [0]) [⟨(k : Int), st.cells.length, J⟩] := by
                  rw [join_more, hj1, if_pos rfl]
                cases hp : placeL bs J.lab with
                | none =>
                  have hj3 : joinS bs (st.cells ++ [0]) (st.leads ++ [⟨(k : Int), st.cells.length, J⟩]) = (acc ++ [0], (k : Int), 7) := by rw [hj2, joinS]; dsimp only; rw [hp]
                  have := join_bad (st := ⟨st.cells ++ [0], st.labels, st.leads ++ [⟨(k : Int), st.cells.length, J⟩]⟩) hd1 hj3 (by decide) ls (k + 1)
                  exact ⟨this, fun h => by cases h⟩
                | some p =>
                  by_cases hr : -2048 ≤ p - acc.length ∧ p - acc.length ≤ 2047
                  · dsimp only
                    rw [if_pos hr]
                    refine go_two bs ls _ (k + 1) _ he hd1 ?_
                    dsimp only
                    rw [hj2, joinS]
                    dsimp only
                    rw [hp]
                    dsimp only
                    rw [← hlen, if_pos ((jump_chk hck ho _).2 hr), joinS]
                    have e5 : ((acc.length : Nat) : Int).toNat = acc.length := by omega
                    rw [e5, List.set_append_right _ _ (Nat.le_refl _), Nat.sub_self]
                    rfl
                  · dsimp only
                    rw [if_neg hr]
                    have hj3 : joinS bs (st.cells ++ [0]) (st.leads ++ [⟨(k : Int), st.cells.length, J⟩]) = (acc ++ [0], (k : Int), 13) := by
                      rw [hj2, joinS]
                      dsimp only
                      rw [hp]
                      dsimp only
                      rw [← hlen, if_neg (fun h => hr ((jump_chk hck ho _).1 h))]
                    have := join_bad (st := ⟨st.cells ++ [0], st.labels, st.leads ++ [⟨(k : Int), st.cells.length, J⟩]⟩) hd1 hj3 (by decide) ls (k + 1)
                    exact ⟨this, fun h => by cases h⟩
    · rw [if_neg h0] at he
      exact absurd he h0
end
end Go.Proofs.YtfafkijcejbcpaaGreatDoor
