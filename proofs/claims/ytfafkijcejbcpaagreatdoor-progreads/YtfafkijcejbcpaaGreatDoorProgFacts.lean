/- Chapter 7: what is told of numbers is read as these; without any program. -/
import Derived.Test.YtfafkijcejbcpaaGreatDoorRows
import Derived.Test.YtfafkijcejbcpaaGreatDoorInstShape
import Derived.Test.YtfafkijcejbcpaaGreatDoorInstDev
import Derived.Test.YtfafkijcejbcpaaGreatDoorTextPure
import Derived.Test.YtfafkijcejbcpaaGreatDoorParsePure
import Derived.Test.YtfafkijcejbcpaaGreatDoorInstParse2
import Derived.Test.YtfafkijcejbcpaaGreatDoorSplitPure
import Derived.Test.YtfafkijcejbcpaaGreatDoorProgPure
import Derived.Test.YtfafkijcejbcpaaGreatDoorProgText
namespace Go.Proofs.YtfafkijcejbcpaaGreatDoor
open Go.Lib

/-- The bytes that lines of numbers and instructions have. -/
def okB (c : UInt8) : Bool := decide ((97 ≤ c.toNat ∧ c.toNat ≤ 122) ∨ (48 ≤ c.toNat ∧ c.toNat ≤ 57) ∨ c.toNat = 32 ∨ c.toNat = 45)
theorem itoa_ok (n : Int) : ∀ c ∈ itoa n, okB c = true := by
  have hd : ∀ (u : Nat) (c : UInt8), c ∈ decDigits u → okB c = true := fun u c hc => by
    have := dec_dig u c hc
    unfold okB
    simp; omega
  intro c hc
  unfold itoa at hc
  split at hc
  · rcases List.mem_cons.1 hc with e | e
    · subst e; rfl
    · exact hd _ c e
  · exact hd _ c hc
theorem word_ok : ∀ n : Nat, n < 23 → ∀ c ∈ shW n, okB c = true := by decide +kernel
theorem tell_ok (k n : Int) : ∀ c ∈ tellL k n, okB c = true := by
  intro c hc
  unfold tellL at hc
  split at hc
  · simp at hc
  split at hc
  · rcases List.mem_cons.1 hc with e | e
    · subst e; rfl
    rcases List.mem_cons.1 e with e | e
    · subst e; rfl
    exact itoa_ok n c e
  · rcases List.mem_cons.1 hc with e | e
    · subst e; rfl
    exact itoa_ok n c e
theorem text_ok (n : Nat) (hn : n < 23) (a b c : Int) : ∀ x ∈ textL n a b c, okB x = true := by
  intro x hx
  unfold textL at hx
  rcases List.mem_append.1 hx with hx | hx
  · rcases List.mem_append.1 hx with hx | hx
    · rcases List.mem_append.1 hx with hx | hx
      · exact word_ok n hn x hx
      · exact tell_ok _ _ x hx
    · exact tell_ok _ _ x hx
  · exact tell_ok _ _ x hx
theorem line_ok (n : Int) : ∀ x ∈ lineN n, okB x = true := by
  unfold lineN
  rcases readD_cases n with h | ⟨h1, h2⟩
  · rw [h, if_neg (by decide)]
    intro x hx
    rcases List.mem_append.1 hx with hx | hx
    · exact (show ∀ c ∈ wd, okB c = true by decide) x hx
    · exact itoa_ok n x hx
  · rw [if_pos h1]
    have r := chkD_ok h2
    exact text_ok _ (by omega) _ _ _
theorem tell_sp0 (k n : Int) : Sp (tellL k n) := by
  unfold tellL Sp
  split
  · exact .inl rfl
  split
  · exact .inr ⟨_, rfl⟩
  · exact .inr ⟨_, rfl⟩
theorem text_cut (n : Nat) (hn : n < 23) (a b c : Int) : (cutL (textL n a b c)).1 = shW n := by
  unfold textL
  rw [List.append_assoc, List.append_assoc, cut_at _ _ (word_nb n hn) (tell_sp _ _ _ (tell_sp _ _ _ (tell_sp0 _ _)))]
theorem word_wd : ∀ n : Nat, n < 23 → ¬ shW n = [119, 111, 114, 100] := by decide +kernel
theorem text_wd (n : Nat) (hn : n < 23) (a b c : Int) : ¬ wd.isPrefixOf (textL n a b c) = true := by
  intro h
  obtain ⟨t, ht⟩ := List.isPrefixOf_iff_prefix.1 h
  have e := text_cut n hn a b c
  rw [← ht, show wd ++ t = [119, 111, 114, 100] ++ (32 :: t) from rfl, cut_at _ _ (by decide) (.inr ⟨t, rfl⟩)] at e
  exact word_wd n hn e.symm
theorem cell_line {n : Int} (hn : -2147483648 ≤ n ∧ n ≤ 2147483647) : cellL (lineN n) = some n := by
  unfold cellL lineN
  rcases readD_cases n with h | ⟨h1, h2⟩
  · rw [h, if_neg (show ¬ (5 : Int) = 0 by decide), if_pos (by rw [List.isPrefixOf_iff_prefix]; exact List.prefix_append _ _)]
    show numR ((wd ++ itoa n).drop wd.length) = _
    rw [List.drop_left, numR_itoa hn]
  · rw [if_pos h1]
    have r := chkD_ok h2
    rw [if_neg (text_wd _ (by omega) _ _ _), parse_text h2, if_pos rfl]
    dsimp only
    congr 1
    have e : (readD n) = ⟨n % 32, n / 32 % 8, n / 256 % 8, n / 2048 - 2048, 0⟩ := by
      unfold readD at h1 ⊢
      split at h1
      · rename_i h; rw [if_pos h]
      · cases h1
    rw [e]
    unfold numD
    dsimp only
    omega
theorem ok_not {l : List UInt8} (h : ∀ c ∈ l, okB c = true) : 10 ∉ l ∧ ([58] : List UInt8).isSuffixOf l = false := by
  refine ⟨fun hm => by have := h 10 hm; revert this; decide, ?_⟩
  rw [Bool.eq_false_iff]
  intro hs
  obtain ⟨t, ht⟩ := List.isSuffixOf_iff_suffix.1 hs
  have := h 58 (by rw [← ht]; simp)
  revert this
  decide
theorem line_ne (n : Int) : lineN n ≠ [] := by
  unfold lineN
  rcases readD_cases n with h | ⟨h1, h2⟩
  · rw [h, if_neg (by decide)]; simp [wd]
  · rw [if_pos h1]
    have r := chkD_ok h2
    have : ∀ n : Nat, n < 23 → shW n ≠ [] := by decide +kernel
    have h3 := this (readD n).o.toNat (by omega)
    unfold textL
    intro e
    simp only [List.append_eq_nil_iff] at e
    exact h3 e.1.1.1
theorem take_line (st : PS) (k : Int) {n : Int} (hn : -2147483648 ≤ n ∧ n ≤ 2147483647) : takeS st k (lineN n) = (⟨st.cells ++ [n], st.labels, st.leads⟩, 0) := by
  unfold takeS
  have hl := line_len n (by omega)
  rw [if_neg (by omega), if_neg (line_ne n), if_neg (by rw [(ok_not (line_ok n)).2]; simp)]
  unfold takeCl
  rw [cell_line hn]
def isN (n : Int) : Prop := -2147483648 ≤ n ∧ n ≤ 2147483647
theorem go_lines : ∀ (xs : List Int) (st : PS) (k : Nat) (ys : List (List UInt8)), (∀ x ∈ xs, isN x) → goS st k (xs.map lineN ++ ys) = goS ⟨st.cells ++ xs, st.labels, st.leads⟩ (k + xs.length) ys
  | [], st, k, ys, _ => by simp
  | x :: xs, st, k, ys, h => by
    rw [List.map_cons, List.cons_append, goS, take_line st _ (h x (by simp)), if_pos rfl]
    dsimp only
    rw [go_lines xs _ _ _ (fun y hy => h y (List.mem_cons_of_mem _ hy))]
    simp only [List.append_assoc, List.singleton_append, List.length_cons]
    congr 1
    omega
theorem take_empty (st : PS) (k : Int) : takeS st k [] = (st, 0) := by
  unfold takeS
  rw [if_neg (by simp), if_pos rfl]
/-- The lines of a text of numbers. -/
def tl (xs : List Int) : List (List UInt8) := if xs = [] then [[]] else xs.map lineN
theorem sp_text (xs : List Int) : sp 10 (jn 10 (xs.map lineN)) = tl xs := by
  unfold tl
  split
  · rename_i h; subst h; rfl
  · rename_i h
    refine sp_jn 10 _ (by simpa using h) (fun x hx => ?_)
    obtain ⟨n, _, rfl⟩ := List.mem_map.1 hx
    exact (ok_not (line_ok n)).1
theorem go_tl (xs : List Int) (st : PS) (k : Nat) (ys : List (List UInt8)) (h : ∀ x ∈ xs, isN x) : goS st k (tl xs ++ ys) = goS ⟨st.cells ++ xs, st.labels, st.leads⟩ (k + (tl xs).length) ys := by
  unfold tl
  split
  · rename_i e; subst e
    rw [List.singleton_append, goS, take_empty, if_pos rfl]
    simp
  · rw [go_lines xs st k ys h, List.length_map]
theorem tl_len (xs : List Int) : (tl xs).length ≤ xs.length + 1 ∧ (xs ≠ [] → (tl xs).length = xs.length) := by
  unfold tl
  split
  · rename_i h; subst h; simp
  · simp
theorem read_two (xs ys : List Int) (hx : ∀ x ∈ xs, isN x) (hy : ∀ x ∈ ys, isN x) (hl : xs.length + ys.length ≤ 140) : readS (jn 10 (xs.map lineN) ++ 10 :: jn 10 (ys.map lineN)) = ⟨xs ++ ys, [], 0, 0⟩ := by
  have hs : sp 10 (jn 10 (xs.map lineN) ++ 10 :: jn 10 (ys.map lineN)) = tl xs ++ tl ys := by rw [sp_app, sp_text, sp_text]
  have hc := sp_len 10 (jn 10 (xs.map lineN) ++ 10 :: jn 10 (ys.map lineN))
  rw [hs, List.length_append] at hc
  have h1 := (tl_len xs).1
  have h2 := (tl_len ys).1
  have hg : goS ⟨[], [], []⟩ 1 (sp 10 (jn 10 (xs.map lineN) ++ 10 :: jn 10 (ys.map lineN))) = (⟨xs ++ ys, [], []⟩, 0, 0) := by
    rw [hs, go_tl xs _ _ _ hx]
    have := go_tl ys ⟨[] ++ xs, [], []⟩ (1 + (tl xs).length) [] hy
    rw [List.append_nil] at this
    rw [this]
    simp [goS]
  exact readS_ok (by omega) hg rfl
theorem read_text (xs : List Int) (hx : ∀ x ∈ xs, isN x) (hl : xs.length ≤ 150) (h0 : xs ≠ []) : readS (jn 10 (xs.map lineN)) = ⟨xs, [], 0, 0⟩ := by
  have hs := sp_text xs
  have hc := sp_len 10 (jn 10 (xs.map lineN))
  rw [hs, (tl_len xs).2 h0] at hc
  have hg : goS ⟨[], [], []⟩ 1 (sp 10 (jn 10 (xs.map lineN))) = (⟨xs, [], []⟩, 0, 0) := by
    rw [hs]
    have := go_tl xs ⟨[], [], []⟩ 1 [] hx
    rw [List.append_nil] at this
    rw [this]
    simp [goS]
  exact readS_ok (by omega) hg rfl
theorem read_line {l : List UInt8} {n : Int} (hl : ∀ c ∈ l, okB c = true) (hne : l ≠ []) (h80 : l.length ≤ 80) (hc : cellL l = some n) : readS l = ⟨[n], [], 0, 0⟩ := by
  have h10 := (ok_not hl).1
  have hs := sp_none h10
  have hcn : l.count 10 = 0 := List.count_eq_zero.2 h10
  refine readS_ok (st := ⟨[n], [], []⟩) (n := 0) (n' := 0) (by omega) ?_ rfl
  rw [hs, goS]
  have ht : takeS ⟨[], [], []⟩ ((1 : Nat) : Int) l = (⟨[n], [], []⟩, 0) := by
    unfold takeS
    rw [if_neg (by omega), if_neg hne, if_neg (by rw [(ok_not hl).2]; simp)]
    unfold takeCl
    rw [hc]
    rfl
  rw [ht, if_pos rfl]
  rfl
theorem read_word {n : Int} (hn : isN n) : readS (wd ++ itoa n) = ⟨[n], [], 0, 0⟩ := by
  unfold isN at hn
  refine read_line (fun c hc => ?_) (by simp [wd]) ?_ ?_
  · rcases List.mem_append.1 hc with hc | hc
    · exact (show ∀ c ∈ wd, okB c = true by decide) c hc
    · exact itoa_ok n c hc
  · have := itoa_len n (by omega)
    simp [wd]; omega
  · unfold cellL
    rw [if_pos (by rw [List.isPrefixOf_iff_prefix]; exact List.prefix_append _ _)]
    show numR ((wd ++ itoa n).drop wd.length) = _
    rw [List.drop_left, numR_itoa hn]
theorem read_halt : readS [104, 97, 108, 116] = ⟨[4194304], [], 0, 0⟩ := by
  have hc : chkD 0 0 0 0 = 0 := by decide +kernel
  refine read_line (by decide) (by decide) (by decide) ?_
  unfold cellL
  have e : ([104, 97, 108, 116] : List UInt8) = textL (0 : Int).toNat 0 0 0 := by rfl
  rw [if_neg (by decide), e, parse_text hc, if_pos rfl]
  rfl
theorem jn_empty (xs : List Int) : jn 10 (xs.map lineN) = [] ↔ xs = [] := by
  constructor
  · intro h
    cases xs with
    | nil => rfl
    | cons x xs =>
      exfalso
      cases xs with
      | nil => exact line_ne x h
      | cons y ys =>
        rw [List.map_cons, List.map_cons, jn] at h
        simp at h
  · rintro rfl; rfl
/-- What Text answers, with and without an error. -/
theorem text_cases (xs : List Int) : (((textS xs).e = 0 ∧ xs.length ≤ 150 ∧ (∀ x ∈ xs, isN x) ∧ (textS xs).s = jn 10 (xs.map lineN))) ∨ (((textS xs).e = 1 ∨ (textS xs).e = 2) ∧ (textS xs).s = []) := by
  unfold textS
  split
  · exact .inr ⟨.inr rfl, rfl⟩
  split
  · rename_i h1 h2
    refine .inl ⟨rfl, by omega, fun x hx => ?_, rfl⟩
    have := List.all_eq_true.1 h2 x hx
    simpa [isN] using this
  · exact .inr ⟨.inl rfl, rfl⟩
theorem itoa_0 : itoa 0 = [48] := by
  unfold itoa
  rw [if_neg (by decide), decDigits, dif_pos (by decide)]
  rfl
theorem itoa_m5 : itoa (-5) = [45, 53] := by
  unfold itoa
  rw [if_pos (by decide), decDigits, dif_pos (by decide)]
  rfl
theorem text_ex : textS [0, -5] = ⟨[119, 111, 114, 100, 32, 48, 10, 119, 111, 114, 100, 32, 45, 53], 0⟩ := by
  have h0 : lineN 0 = wd ++ itoa 0 := by unfold lineN; rw [if_neg (by decide +kernel)]
  have h5 : lineN (-5) = wd ++ itoa (-5) := by unfold lineN; rw [if_neg (by decide +kernel)]
  unfold textS
  rw [if_neg (by decide), if_pos (by decide)]
  simp only [List.map_cons, List.map_nil, h0, h5, itoa_0, itoa_m5]
  rfl
end Go.Proofs.YtfafkijcejbcpaaGreatDoor
