/- Chapter 7: empty lines are of no matter; how many cells and labels there are; without any program. -/
import Derived.Test.YtpggmmnjfofgcaaDoorRows
import Derived.Test.YtpggmmnjfofgcaaDoorTextPure
import Derived.Test.YtpggmmnjfofgcaaDoorSplitPure
import Derived.Test.YtpggmmnjfofgcaaDoorProgPure
namespace Go.Proofs.YtpggmmnjfofgcaaDoor
open Go.Lib

def ldK (d : LD) : Int × JL := (d.at_, d.j)
/-- The same but for the numbers of lines. -/
structure Sim (s t : PS) : Prop where
  c : s.cells = t.cells
  l : s.labels = t.labels
  d : s.leads.map ldK = t.leads.map ldK
theorem Sim.refl (s : PS) : Sim s s := ⟨rfl, rfl, rfl⟩
theorem take_sim {s t : PS} (h : Sim s t) (n n' : Int) (l : List UInt8) : Sim (takeS s n l).1 (takeS t n' l).1 ∧ (takeS s n l).2 = (takeS t n' l).2 := by
  obtain ⟨cs, ls, ds⟩ := s
  obtain ⟨cs', ls', ds'⟩ := t
  obtain ⟨h1, h2, h3⟩ := h
  dsimp only at h1 h2 h3
  subst h1
  subst h2
  have h0 : Sim ⟨cs, ls, ds⟩ ⟨cs, ls, ds'⟩ := ⟨rfl, rfl, h3⟩
  unfold takeS
  split
  · exact ⟨h0, rfl⟩
  split
  · exact ⟨h0, rfl⟩
  split
  · unfold takeLb
    dsimp only
    split
    · exact ⟨h0, rfl⟩
    split
    · exact ⟨h0, rfl⟩
    split
    · exact ⟨h0, rfl⟩
    exact ⟨⟨rfl, rfl, h3⟩, rfl⟩
  · unfold takeCl
    split
    · exact ⟨⟨rfl, rfl, h3⟩, rfl⟩
    split
    · refine ⟨⟨rfl, rfl, ?_⟩, rfl⟩
      rw [List.map_append, List.map_append, h3]
      rfl
    · exact ⟨h0, rfl⟩
theorem take_nil (st : PS) (n : Int) : takeS st n [] = (st, 0) := by
  unfold takeS
  rw [if_neg (by simp), if_pos rfl]
/-- The lines that are not empty. -/
def fullL (ls : List (List UInt8)) : List (List UInt8) := ls.filter fun l => !l.isEmpty
theorem go_full : ∀ (ls : List (List UInt8)) (s t : PS) (k k' : Nat), Sim s t → (goS s k ls).2.2 = 0 → (goS t k' (fullL ls)).2.2 = 0 ∧ Sim (goS s k ls).1 (goS t k' (fullL ls)).1
  | [], s, t, k, k', h, _ => ⟨rfl, h⟩
  | l :: ls, s, t, k, k', h, he => by
    rw [goS] at he ⊢
    by_cases h0 : (takeS s (k : Int) l).2 = 0
    · rw [if_pos h0] at he ⊢
      by_cases hl : l = []
      · subst hl
        rw [take_nil] at he ⊢
        have e : fullL ([] :: ls) = fullL ls := rfl
        rw [e]
        exact go_full ls s t (k + 1) k' h he
      · have e : fullL (l :: ls) = l :: fullL ls := by
          unfold fullL
          rw [List.filter_cons_of_pos]
          cases l with
          | nil => exact absurd rfl hl
          | cons a r => rfl
        obtain ⟨h1, h2⟩ := take_sim h (k : Int) (k' : Int) l
        rw [e, goS, if_pos (by rw [← h2]; exact h0)]
        exact go_full ls _ _ (k + 1) (k' + 1) h1 he
    · rw [if_neg h0] at he
      exact absurd he h0
theorem join_sim (bs : List LB) : ∀ (ds ds' : List LD) (cs : List Int), ds.map ldK = ds'.map ldK → (joinS bs cs ds).1 = (joinS bs cs ds').1 ∧ (joinS bs cs ds).2.2 = (joinS bs cs ds').2.2
  | [], [], cs, _ => ⟨rfl, rfl⟩
  | [], _ :: _, _, h => by cases h
  | _ :: _, [], _, h => by cases h
  | d :: ds, d' :: ds', cs, h => by
    rw [List.map_cons, List.map_cons] at h
    injection h with h1 h2
    have h3 : d.at_ = d'.at_ := congrArg Prod.fst h1
    have h4 : d.j = d'.j := congrArg Prod.snd h1
    rw [joinS, joinS, h3, h4]
    split
    · exact ⟨rfl, rfl⟩
    · split
      · exact join_sim bs ds ds' _ h2
      · exact ⟨rfl, rfl⟩
theorem go_end : ∀ (ls : List (List UInt8)) (s : PS) (k : Nat), (goS s k ls).2.2 = 0 → (goS s k ls).2.1 = 0
  | [], _, _, _ => rfl
  | l :: ls, s, k, h => by
    rw [goS] at h ⊢
    by_cases h0 : (takeS s (k : Int) l).2 = 0
    · rw [if_pos h0] at h ⊢
      exact go_end ls _ _ h
    · rw [if_neg h0] at h
      exact absurd h h0
theorem full_sp (ls : List (List UInt8)) (h : ∀ x ∈ ls, 10 ∉ x) : sp 10 (jn 10 (fullL ls)) = if fullL ls = [] then [[]] else fullL ls := by
  split
  · rename_i e; rw [e]; rfl
  · rename_i e
    exact sp_jn 10 _ e (fun x hx => h x (List.mem_filter.1 hx).1)
theorem full_len (ls : List (List UInt8)) : (fullL ls).length ≤ ls.length := List.length_filter_le _ _
/-- Empty lines are of no matter. -/
theorem read_full (l : List UInt8) (he : (readS l).e = 0) : (readS (jn 10 (fullL (sp 10 l)))).e = 0 ∧ (readS (jn 10 (fullL (sp 10 l)))).cells = (readS l).cells ∧ (readS (jn 10 (fullL (sp 10 l)))).labels = (readS l).labels := by
  by_cases h150 : 150 ≤ l.count 10
  · rw [readS_large h150] at he; cases he
  have hg0 : (goS ⟨[], [], []⟩ 1 (sp 10 l)).2.2 = 0 := by
    by_cases h : (goS ⟨[], [], []⟩ 1 (sp 10 l)).2.2 = 0
    · exact h
    · rw [readS_bad h150 (st := (goS ⟨[], [], []⟩ 1 (sp 10 l)).1) (n := (goS ⟨[], [], []⟩ 1 (sp 10 l)).2.1) (e := (goS ⟨[], [], []⟩ 1 (sp 10 l)).2.2) rfl h] at he
      exact absurd he h
  obtain ⟨st, n, e, hg⟩ : ∃ st n e, goS ⟨[], [], []⟩ 1 (sp 10 l) = (st, n, e) := ⟨_, _, _, rfl⟩
  rw [hg] at hg0
  have hg0' : e = 0 := hg0
  subst hg0'
  obtain ⟨cs, n2, e2, hj⟩ : ∃ cs n e, joinS st.labels st.cells st.leads = (cs, n, e) := ⟨_, _, _, rfl⟩
  have he2 : e2 = 0 := by
    by_cases h : e2 = 0
    · exact h
    · rw [readS_none h150 hg hj h] at he
      exact absurd he h
  subst he2
  have hR := readS_ok h150 hg hj
  have hf := go_full (sp 10 l) ⟨[], [], []⟩ ⟨[], [], []⟩ 1 1 (Sim.refl _) (by rw [hg])
  have hs := full_sp (sp 10 l) (sp_no 10 l)
  have hlen := sp_len 10 (jn 10 (fullL (sp 10 l)))
  have hlen0 := sp_len 10 l
  have hfl := full_len (sp 10 l)
  have hg' : goS ⟨[], [], []⟩ 1 (sp 10 (jn 10 (fullL (sp 10 l)))) = goS ⟨[], [], []⟩ 1 (fullL (sp 10 l)) := by
    rw [hs]
    split
    · rename_i e
      rw [e]
      show (if (takeS ⟨[], [], []⟩ ((1 : Nat) : Int) []).2 = 0 then _ else _) = _
      rw [take_nil, if_pos rfl]
      rfl
    · rfl
  have hc : ¬ 150 ≤ (jn 10 (fullL (sp 10 l))).count 10 := by
    rw [hs] at hlen
    split at hlen
    · simp at hlen; omega
    · omega
  rw [hg] at hf
  obtain ⟨st', n', e', hg2⟩ : ∃ st n e, goS ⟨[], [], []⟩ 1 (fullL (sp 10 l)) = (st, n, e) := ⟨_, _, _, rfl⟩
  rw [hg2] at hf
  obtain ⟨hf1, hf2⟩ := hf
  have hf1' : e' = 0 := hf1
  subst hf1'
  have hsim : Sim st st' := hf2
  obtain ⟨cs', n3, e3, hj'⟩ : ∃ cs n e, joinS st'.labels st'.cells st'.leads = (cs, n, e) := ⟨_, _, _, rfl⟩
  have hjs := join_sim st.labels st.leads st'.leads st.cells hsim.d
  rw [hj] at hjs
  rw [← hsim.l, ← hsim.c] at hj'
  rw [hj'] at hjs
  obtain ⟨q1, q2⟩ := hjs
  have q1' : cs = cs' := q1
  have q2' : (0 : Int) = e3 := q2
  subst q1'
  subst q2'
  rw [hsim.l, hsim.c] at hj'
  have hR' := readS_ok hc (hg'.trans hg2) hj'
  rw [hR, hR']
  exact ⟨rfl, rfl, hsim.l.symm⟩
/-- How many cells and labels there are. -/
def isLb (l : List UInt8) : Bool := ([58] : List UInt8).isSuffixOf l
theorem go_count : ∀ (ls : List (List UInt8)) (s : PS) (k : Nat), (goS s k ls).2.2 = 0 → (goS s k ls).1.cells.length = s.cells.length + ((fullL ls).filter fun l => !isLb l).length ∧ (goS s k ls).1.labels.length = s.labels.length + ((fullL ls).filter isLb).length
  | [], s, k, _ => by simp [goS, fullL]
  | l :: ls, s, k, he => by
    rw [goS] at he ⊢
    by_cases h0 : (takeS s (k : Int) l).2 = 0
    · rw [if_pos h0] at he ⊢
      have ih := go_count ls _ (k + 1) he
      by_cases hl : l = []
      · subst hl
        rw [take_nil] at ih ⊢
        exact ih
      · have e : fullL (l :: ls) = l :: fullL ls := by
          unfold fullL
          rw [List.filter_cons_of_pos]
          cases l with
          | nil => exact absurd rfl hl
          | cons a r => rfl
        rw [e, ih.1, ih.2]
        unfold takeS at h0 ⊢
        by_cases h80 : 80 < l.length
        · rw [if_pos h80] at h0; cases h0
        rw [if_neg h80, if_neg hl] at h0 ⊢
        by_cases hb : ([58] : List UInt8).isSuffixOf l = true
        · rw [if_pos hb] at h0 ⊢
          have hb' : isLb l = true := hb
          rw [List.filter_cons_of_neg (by simp [hb']), List.filter_cons_of_pos hb']
          unfold takeLb at h0 ⊢
          split at h0
          · cases h0
          split at h0
          · cases h0
          split at h0
          · cases h0
          rename_i q1 q2 q3
          rw [if_neg q1, if_neg q2, if_neg q3]
          clear ih
          refine ⟨?_, ?_⟩ <;> simp <;> omega
        · rw [if_neg hb] at h0 ⊢
          have hb' : ¬ isLb l = true := hb
          rw [List.filter_cons_of_pos (by simpa using hb'), List.filter_cons_of_neg hb']
          unfold takeCl at h0 ⊢
          split
          · clear ih
            refine ⟨?_, ?_⟩ <;> simp <;> omega
          · rename_i q1
            rw [q1] at h0
            split
            · clear ih
              refine ⟨?_, ?_⟩ <;> simp <;> omega
            · rename_i q2
              rw [q2] at h0
              cases h0
    · rw [if_neg h0] at he
      exact absurd he h0
theorem join_len (bs : List LB) : ∀ (ds : List LD) (cs : List Int), (joinS bs cs ds).1.length = cs.length
  | [], cs => rfl
  | d :: ds, cs => by
    rw [joinS]
    split
    · rfl
    · split
      · rw [join_len bs ds, List.length_set]
      · rfl
/-- The number of a line that waits is that of a line. -/
def LdN (s : PS) (k : Nat) : Prop := ∀ d ∈ s.leads, 1 ≤ d.n ∧ d.n < k
theorem take_ldn {s : PS} {k : Nat} (h : LdN s k) (hk : 1 ≤ k) (l : List UInt8) : LdN (takeS s (k : Int) l).1 (k + 1) := by
  have h0 : LdN s (k + 1) := fun d hd => by have := h d hd; omega
  unfold takeS
  split
  · exact h0
  split
  · exact h0
  split
  · unfold takeLb
    split
    · exact h0
    split
    · exact h0
    split
    · exact h0
    exact h0
  · unfold takeCl
    split
    · exact h0
    split
    · intro d hd
      rcases List.mem_append.1 hd with hd | hd
      · exact h0 d hd
      · simp only [List.mem_cons, List.not_mem_nil, or_false] at hd
        subst hd
        show 1 ≤ (k : Int) ∧ (k : Int) < ((k + 1 : Nat) : Int)
        omega
    · exact h0
theorem go_ldn : ∀ (ls : List (List UInt8)) (s : PS) (k : Nat), LdN s k → 1 ≤ k → LdN (goS s k ls).1 (k + ls.length) ∧ 0 ≤ (goS s k ls).2.1 ∧ (goS s k ls).2.1 < (k + ls.length : Nat)
  | [], s, k, h, hk => ⟨h, by simp [goS], by simp [goS]; omega⟩
  | l :: ls, s, k, h, hk => by
    rw [goS]
    by_cases h0 : (takeS s (k : Int) l).2 = 0
    · rw [if_pos h0]
      have ih := go_ldn ls _ (k + 1) (take_ldn h hk l) (by omega)
      rw [List.length_cons, show k + (ls.length + 1) = k + 1 + ls.length by omega]
      exact ih
    · rw [if_neg h0]
      refine ⟨fun d hd => ?_, ?_, ?_⟩
      · have := h d hd
        simp only [List.length_cons]
        omega
      · show 0 ≤ (k : Int)
        omega
      · show (k : Int) < _
        simp only [List.length_cons]
        omega
theorem join_n (bs : List LB) (m : Nat) (hm : 1 ≤ m) : ∀ (ds : List LD) (cs : List Int), (∀ d ∈ ds, 1 ≤ d.n ∧ d.n < m) → 0 ≤ (joinS bs cs ds).2.1 ∧ (joinS bs cs ds).2.1 < m
  | [], cs, _ => by simp [joinS]; omega
  | d :: ds, cs, h => by
    have hd := h d (by simp)
    rw [joinS]
    split
    · show 0 ≤ d.n ∧ d.n < m
      omega
    · split
      · exact join_n bs m hm ds _ (fun x hx => h x (List.mem_cons_of_mem _ hx))
      · show 0 ≤ d.n ∧ d.n < m
        omega
/-- What is told of a line that is wrong is the number of a line, or 0. -/
theorem read_n (l : List UInt8) : 0 ≤ (readS l).n ∧ (readS l).n ≤ (sp 10 l).length := by
  by_cases h150 : 150 ≤ l.count 10
  · rw [readS_large h150]; simp
  obtain ⟨st, n, e, hg⟩ : ∃ st n e, goS ⟨[], [], []⟩ 1 (sp 10 l) = (st, n, e) := ⟨_, _, _, rfl⟩
  have hl := go_ldn (sp 10 l) ⟨[], [], []⟩ 1 (fun d hd => by cases hd) (Nat.le_refl _)
  rw [hg] at hl
  obtain ⟨h1, h2, h3⟩ := hl
  dsimp only at h1 h2 h3
  by_cases he : e = 0
  · subst he
    obtain ⟨cs, n2, e2, hj⟩ : ∃ cs n e, joinS st.labels st.cells st.leads = (cs, n, e) := ⟨_, _, _, rfl⟩
    have hn := join_n st.labels (1 + (sp 10 l).length) (by omega) st.leads st.cells h1
    rw [hj] at hn
    dsimp only at hn
    by_cases he2 : e2 = 0
    · subst he2
      rw [readS_ok h150 hg hj]
      simp
    · rw [readS_none h150 hg hj he2]
      dsimp only
      omega
  · rw [readS_bad h150 hg he]
    dsimp only
    omega
theorem read_err (l : List UInt8) (h : ¬ (readS l).e = 0) : (readS l).cells = [] ∧ (readS l).labels = [] := by
  unfold readS at h ⊢
  split
  · exact ⟨rfl, rfl⟩
  · rename_i h1
    rw [if_neg h1] at h
    split
    · rename_i h2
      rw [if_pos h2] at h
      split
      · rename_i h3
        rw [if_pos h3] at h
        exact absurd rfl h
      · exact ⟨rfl, rfl⟩
    · exact ⟨rfl, rfl⟩
/-- How many cells and labels are told. -/
theorem read_count (l : List UInt8) (he : (readS l).e = 0) : (readS l).cells.length = ((fullL (sp 10 l)).filter fun l => !isLb l).length ∧ (readS l).labels.length = ((fullL (sp 10 l)).filter isLb).length := by
  by_cases h150 : 150 ≤ l.count 10
  · rw [readS_large h150] at he; cases he
  obtain ⟨st, n, e, hg⟩ : ∃ st n e, goS ⟨[], [], []⟩ 1 (sp 10 l) = (st, n, e) := ⟨_, _, _, rfl⟩
  by_cases h0 : e = 0
  · subst h0
    obtain ⟨cs, n2, e2, hj⟩ : ∃ cs n e, joinS st.labels st.cells st.leads = (cs, n, e) := ⟨_, _, _, rfl⟩
    by_cases he2 : e2 = 0
    · subst he2
      have hc := go_count (sp 10 l) ⟨[], [], []⟩ 1 (by rw [hg])
      rw [hg] at hc
      have hjl := join_len st.labels st.leads st.cells
      rw [hj] at hjl
      rw [readS_ok h150 hg hj]
      dsimp only at hc hjl ⊢
      simp only [List.length_nil, Nat.zero_add] at hc
      exact ⟨by rw [hjl]; exact hc.1, hc.2⟩
    · rw [readS_none h150 hg hj he2] at he
      exact absurd he he2
  · rw [readS_bad h150 hg h0] at he
    exact absurd he h0
end Go.Proofs.YtpggmmnjfofgcaaDoor
