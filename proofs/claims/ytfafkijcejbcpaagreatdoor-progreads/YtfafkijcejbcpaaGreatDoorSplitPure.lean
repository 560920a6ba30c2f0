/- Texts cut at one byte, put together again, and names: without any program. -/
import Derived.Lib.SplitLaws
import Derived.Lib.Join
import Derived.Lib.LastIndexLaws
import Derived.Lib.IndexMore
namespace Go.Proofs.YtfafkijcejbcpaaGreatDoor
open Go.Lib

/-- A text cut at each byte c. -/
def sp (c : UInt8) : List UInt8 → List (List UInt8)
  | [] => [[]]
  | x :: xs => if x = c then [] :: sp c xs else match sp c xs with
    | [] => [[x]]
    | y :: ys => (x :: y) :: ys
theorem sp_ne (c : UInt8) : ∀ l, sp c l ≠ []
  | [] => by simp [sp]
  | x :: xs => by
    unfold sp
    split
    · simp
    · split <;> simp
theorem sp_sep (c : UInt8) (l : List UInt8) : sp c (c :: l) = [] :: sp c l := by
  rw [sp, if_pos rfl]
theorem sp_other {c x : UInt8} (h : x ≠ c) {l y : List UInt8} {ys : List (List UInt8)} (e : sp c l = y :: ys) : sp c (x :: l) = (x :: y) :: ys := by
  rw [sp, if_neg h, e]
theorem sp_len (c : UInt8) : ∀ l : List UInt8, (sp c l).length = l.count c + 1
  | [] => rfl
  | x :: xs => by
    have ih := sp_len c xs
    by_cases h : x = c
    · subst h; rw [sp_sep]; simp [ih]
    · obtain ⟨y, ys, e⟩ := List.exists_cons_of_ne_nil (sp_ne c xs)
      rw [sp_other h e, List.count_cons_of_ne (by simpa using h)]
      rw [e] at ih
      simpa using ih
theorem sp_no (c : UInt8) : ∀ (l : List UInt8), ∀ x ∈ sp c l, c ∉ x
  | [] => by simp [sp]
  | a :: l => by
    have ih := sp_no c l
    by_cases h : a = c
    · subst h; rw [sp_sep]
      intro x hx
      rcases List.mem_cons.1 hx with rfl | hx
      · simp
      · exact ih x hx
    · obtain ⟨y, ys, e⟩ := List.exists_cons_of_ne_nil (sp_ne c l)
      rw [sp_other h e]
      rw [e] at ih
      intro x hx
      rcases List.mem_cons.1 hx with rfl | hx
      · intro hm
        rcases List.mem_cons.1 hm with rfl | hm
        · exact h rfl
        · exact ih y (by simp) hm
      · exact ih x (by simp [hx])
theorem sp_none {c : UInt8} : ∀ {l : List UInt8}, c ∉ l → sp c l = [l]
  | [], _ => rfl
  | x :: xs, h => by
    rw [sp_other (fun e => h (by simp [e])) (sp_none (fun e => h (List.mem_cons_of_mem _ e)))]
theorem sp_app (c : UInt8) : ∀ x y : List UInt8, sp c (x ++ c :: y) = sp c x ++ sp c y
  | [], y => by rw [List.nil_append, sp_sep]; rfl
  | a :: x, y => by
    have ih := sp_app c x y
    by_cases h : a = c
    · subst h; rw [List.cons_append, sp_sep, sp_sep, ih]; rfl
    · obtain ⟨z, zs, e⟩ := List.exists_cons_of_ne_nil (sp_ne c x)
      rw [e] at ih
      rw [List.cons_append, sp_other h ih, sp_other h e]; rfl
/-- What was cut put together again. -/
def jn (c : UInt8) : List (List UInt8) → List UInt8
  | [] => []
  | [x] => x
  | x :: y :: ys => x ++ c :: jn c (y :: ys)
theorem jn_cons (c : UInt8) (x : List UInt8) {ys : List (List UInt8)} (h : ys ≠ []) : jn c (x :: ys) = x ++ c :: jn c ys := by
  cases ys with
  | nil => exact absurd rfl h
  | cons y ys => rfl
theorem join_jn (c : UInt8) : ∀ xs : List (List UInt8), Lib.join xs [c] = jn c xs
  | [] => rfl
  | [x] => by simp [Lib.join, List.intercalate, jn]
  | x :: y :: ys => by
    have ih := join_jn c (y :: ys)
    rw [jn, ← ih]
    simp [Lib.join, List.intercalate]
theorem sp_jn (c : UInt8) : ∀ xs : List (List UInt8), xs ≠ [] → (∀ x ∈ xs, c ∉ x) → sp c (jn c xs) = xs
  | [], h, _ => absurd rfl h
  | [x], _, h => sp_none (h x (by simp))
  | x :: y :: ys, _, h => by
    rw [jn, sp_app, sp_none (h x (by simp)), sp_jn c (y :: ys) (by simp) (fun z hz => h z (List.mem_cons_of_mem _ hz))]; rfl
theorem jn_sp (c : UInt8) : ∀ l : List UInt8, jn c (sp c l) = l
  | [] => rfl
  | x :: xs => by
    have ih := jn_sp c xs
    by_cases h : x = c
    · subst h; rw [sp_sep, jn_cons _ _ (sp_ne _ _), ih]; rfl
    · obtain ⟨y, ys, e⟩ := List.exists_cons_of_ne_nil (sp_ne c xs)
      rw [sp_other h e]
      rw [e] at ih
      rw [← ih]
      cases ys with
      | nil => rfl
      | cons z zs => rfl
theorem jn_snoc (c : UInt8) (y : List UInt8) : ∀ {xs : List (List UInt8)}, xs ≠ [] → jn c (xs ++ [y]) = jn c xs ++ c :: y
  | [], h => absurd rfl h
  | [x], _ => rfl
  | x :: z :: zs, _ => by
    have ih := jn_snoc c y (xs := z :: zs) (by simp)
    show x ++ c :: jn c (z :: zs ++ [y]) = (x ++ c :: jn c (z :: zs)) ++ c :: y
    rw [ih]; simp
theorem jn_app (c : UInt8) {xs ys : List (List UInt8)} (h : ys ≠ []) : xs ≠ [] → jn c (xs ++ ys) = jn c xs ++ c :: jn c ys := by
  intro hx
  induction xs with
  | nil => exact absurd rfl hx
  | cons x xs ih =>
    cases xs with
    | nil => rw [List.singleton_append, jn_cons _ _ h]; rfl
    | cons z zs =>
      have e := ih (by simp)
      rw [List.cons_append, jn_cons _ _ (by simp), e, jn_cons c x (by simp)]; simp
/-- Go's own cutting is that one. -/
theorem splitK_sp (c : UInt8) : ∀ l : List UInt8, splitK [c] 0 (l.count c) l = sp c l
  | [] => rfl
  | x :: xs => by
    have ih := splitK_sp c xs
    by_cases h : x = c
    · subst h
      have hix : index (x :: xs) [x] = 0 := by rw [index]; simp [List.isPrefixOf]
      rw [sp_sep, List.count_cons_self, splitK, hix]
      simp [ih]
    · rw [List.count_cons_of_ne (by simpa using h)]
      have hp : ([c] : List UInt8).isPrefixOf (x :: xs) = false := by simp [List.isPrefixOf, Ne.symm h]
      have hix : index (x :: xs) [c] = if index xs [c] == -1 then -1 else index xs [c] + 1 := by rw [index, hp]; simp
      cases hk : xs.count c with
      | zero =>
        rw [hk] at ih
        rw [splitK, sp_other h ih.symm]
      | succ k =>
        rw [hk] at ih
        have hne : ¬ index xs [c] = -1 := fun e => by have := count_miss e; rw [count_one, hk] at this; omega
        have hge := index_ge xs [c]
        obtain ⟨j, hj⟩ : ∃ j : Nat, index xs [c] = j := ⟨(index xs [c]).toNat, by omega⟩
        have hj1 : (((j : Int) == -1) = true) = False := by simp
        have hj2 : ((((j : Int) + 1) == -1) = true) = False := by simp; omega
        rw [splitK, hj, if_neg (by simp [hj1])] at ih
        rw [hj, if_neg (by simp [hj1])] at hix
        rw [splitK, hix, if_neg (by simp [hj2]), sp_other h ih.symm]
        have e : ((j : Int) + 1).toNat = j + 1 := by omega
        simp [e]
/-- The last byte c of a text. -/
theorem last_cases (c : UInt8) (l : List UInt8) : (Lib.lastIndex l [c] = -1 ∧ c ∉ l ∧ sp c l = [l]) ∨ (∃ p q, l = p ++ c :: q ∧ c ∉ q ∧ Lib.lastIndex l [c] = p.length ∧ sp c l = sp c p ++ [q]) := by
  have occ : ∀ j, occAt l [c] j = true ↔ l[j]? = some c := by
    intro j
    unfold occAt
    rw [← List.head?_drop]
    cases l.drop j with
    | nil => simp [List.isPrefixOf]
    | cons a t =>
      simp only [List.isPrefixOf, List.head?_cons, Option.some.injEq, Bool.and_true, beq_iff_eq]
      exact eq_comm
  unfold Lib.lastIndex
  rw [List.length_singleton]
  by_cases hl : 1 ≤ l.length
  · rw [if_pos hl]
    rcases lastOcc_spec l [c] (l.length - 1 + 1) with ⟨e, hn⟩ | ⟨i, hi, e, hc, hn⟩
    · have hm : c ∉ l := by
        intro hm
        obtain ⟨j, hj, e2⟩ := List.mem_iff_getElem.1 hm
        have := hn j (by omega)
        rw [Bool.eq_false_iff] at this
        exact this ((occ j).2 (by rw [List.getElem?_eq_getElem hj, e2]))
      exact .inl ⟨e, hm, sp_none hm⟩
    · have hc' := (occ i).1 hc
      obtain ⟨hi', e2⟩ := List.getElem?_eq_some_iff.1 hc'
      have hlq : l = l.take i ++ c :: l.drop (i + 1) := by
        have h1 : l.drop i = c :: l.drop (i + 1) := by rw [List.drop_eq_getElem_cons hi', e2]
        rw [← h1, List.take_append_drop]
      have hq : c ∉ l.drop (i + 1) := by
        intro hm
        obtain ⟨j, hj, e3⟩ := List.mem_iff_getElem.1 hm
        have hj' := hj
        rw [List.length_drop] at hj'
        have := hn (i + 1 + j) (by omega) (by omega)
        rw [Bool.eq_false_iff] at this
        refine this ((occ _).2 ?_)
        rw [List.getElem_drop] at e3
        rw [List.getElem?_eq_getElem (by omega), e3]
      refine .inr ⟨l.take i, l.drop (i + 1), hlq, hq, ?_, ?_⟩
      · rw [e, List.length_take, Nat.min_eq_left (by omega)]
      · rw [← sp_none hq, ← sp_app, ← hlq]
  · rw [if_neg hl]
    have : l = [] := by cases l with
      | nil => rfl
      | cons a t => simp at hl
    subst this
    exact .inl ⟨rfl, by simp, rfl⟩
end Go.Proofs.YtfafkijcejbcpaaGreatDoor
