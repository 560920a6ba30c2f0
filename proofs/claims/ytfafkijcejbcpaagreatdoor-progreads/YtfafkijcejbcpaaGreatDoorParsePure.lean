/- Chapter 6 on lists of bytes: what is told is guessed again. -/
import Derived.Test.YtfafkijcejbcpaaGreatDoorRows
import Derived.Test.YtfafkijcejbcpaaGreatDoorInstShape
import Derived.Test.YtfafkijcejbcpaaGreatDoorInstDev
import Derived.Test.YtfafkijcejbcpaaGreatDoorTextPure
import Derived.Lib.AtoiAllCases
import Derived.Lib.Strings
import Derived.Lib.Bytealg
namespace Go.Proofs.YtfafkijcejbcpaaGreatDoor
open Go.ChangeShapes Go.WideShapes Go.ChangeAt Go.RowKit
open Go.Lib

theorem parse_app : ∀ (l m : List UInt8) (acc v : Nat), parseUint10 acc l = .ok v → parseUint10 acc (l ++ m) = parseUint10 v m
  | [], m, acc, v, h => by
    simp only [parseUint10] at h
    injection h with h
    subst h
    rfl
  | c :: r, m, acc, v, h => by
    simp only [parseUint10] at h
    simp only [List.cons_append, parseUint10]
    split at h
    · rename_i h1
      rw [if_pos h1]
      split at h
      · cases h
      · rename_i h2
        rw [if_neg h2]
        split at h
        · cases h
        · rename_i h3
          rw [if_neg h3]
          exact parse_app r m _ v h
    · cases h
theorem dig_toNat (d : Nat) (h : d < 10) : (UInt8.ofNat (48 + d)).toNat = 48 + d := by
  show (48 + d) % 256 = 48 + d
  omega
theorem parse_one (acc d : Nat) (h : d < 10) (ha : acc < 1000000000000) : parseUint10 acc [UInt8.ofNat (48 + d)] = .ok (acc * 10 + d) := by
  simp only [parseUint10, dig_toNat d h]
  rw [if_pos (by omega), if_neg (by omega), if_neg (by omega), Nat.add_sub_cancel_left]
theorem parse_dec (u : Nat) (hu : u < 1000000000000) : parseUint10 0 (decDigits u) = .ok u := by
  induction u using Nat.strongRecOn with
  | _ u ih =>
    by_cases h : u < 10
    · rw [decDigits, dif_pos h, parse_one 0 u h (by omega), Nat.zero_mul, Nat.zero_add]
    · rw [decDigits, dif_neg h, parse_app _ _ _ _ (ih (u / 10) (by omega) (by omega)), parse_one _ _ (by omega) (by omega)]
      congr 1
      omega
theorem dec_dig (u : Nat) : ∀ c ∈ decDigits u, 48 ≤ c.toNat ∧ c.toNat ≤ 57 := by
  induction u using Nat.strongRecOn with
  | _ u ih =>
    intro c hc
    by_cases h : u < 10
    · rw [decDigits, dif_pos h] at hc
      simp only [List.mem_cons, List.not_mem_nil, or_false] at hc
      subst hc
      rw [dig_toNat u h]
      omega
    · rw [decDigits, dif_neg h] at hc
      rcases List.mem_append.1 hc with e | e
      · exact ih (u / 10) (by omega) c e
      · simp only [List.mem_cons, List.not_mem_nil, or_false] at e
        subst e
        rw [dig_toNat _ (by omega)]
        omega
theorem dec_ne (u : Nat) : decDigits u ≠ [] := by
  rw [decDigits]
  split <;> simp
theorem mag_dec (u : Nat) (hu : u < 1000000000000) : parseMag (decDigits u) = .ok u := by
  unfold parseMag
  rw [if_neg (dec_ne u)]
  exact parse_dec u hu
theorem atoi_itoa (n : Int) (h : -1000000000000 < n ∧ n < 1000000000000) : atoiAll (itoa n) = .ok n := by
  unfold itoa
  by_cases hn : n < 0
  · rw [if_pos hn, atoiAll_minus, mag_dec _ (by omega)]
    show (if 9223372036854775808 < n.natAbs then _ else _) = _
    rw [if_neg (by omega)]
    congr 1
    omega
  · rw [if_neg hn]
    obtain ⟨c, r, hc⟩ : ∃ c r, decDigits n.toNat = c :: r := by
      cases hd : decDigits n.toNat with
      | nil => exact absurd hd (dec_ne _)
      | cons c r => exact ⟨c, r, rfl⟩
    have hb := dec_dig n.toNat c (by rw [hc]; simp)
    have hm := mag_dec n.toNat (by omega)
    rw [hc] at hm ⊢
    rw [atoiAll_plain c r (by omega) (by omega), hm]
    show (if 9223372036854775808 ≤ n.toNat then _ else _) = _
    rw [if_neg (by omega)]
    congr 1
    omega
theorem itoa_nb (n : Int) : ∀ c ∈ itoa n, (c != 32) = true := by
  have hd : ∀ (u : Nat) (c : UInt8), c ∈ decDigits u → (c != 32) = true := fun u c hc => by
    have := dec_dig u c hc
    rw [bne_iff_ne]
    intro e
    subst e
    have z : (32 : UInt8).toNat = 32 := rfl
    omega
  intro c hc
  unfold itoa at hc
  split at hc
  · rcases List.mem_cons.1 hc with e | e
    · subst e; rfl
    · exact hd _ c e
  · exact hd _ c hc
/-- strings.Cut at a blank. -/
def cutL (s : List UInt8) : List UInt8 × List UInt8 := (s.takeWhile (· != 32), (s.dropWhile (· != 32)).drop 1)
def numP (p : List UInt8) : Int := match atoiAll p with
  | .ok v => v
  | .«syntax» => 0
  | .range => atoiSat p
def takeL (k : Int) (s : List UInt8) : Int × List UInt8 := if k = 0 then (0, s) else (numP (if k = 1 then trimPrefix (cutL s).1 [114] else (cutL s).1), (cutL s).2)
def opL (w : List UInt8) : Nat := shL.findIdx fun r => decide (r.1 = w)
structure G4 where
  o : Int
  a : Int
  b : Int
  c : Int
def guessL (s : List UInt8) : G4 :=
  if opL (cutL s).1 < 23 then
    ⟨opL (cutL s).1, (takeL (shA (opL (cutL s).1)) (cutL s).2).1, (takeL (shB (opL (cutL s).1)) (takeL (shA (opL (cutL s).1)) (cutL s).2).2).1, (takeL (shC (opL (cutL s).1)) (takeL (shB (opL (cutL s).1)) (takeL (shA (opL (cutL s).1)) (cutL s).2).2).2).1⟩
  else ⟨23, 0, 0, 0⟩
def Sp (t : List UInt8) : Prop := t = [] ∨ ∃ t', t = 32 :: t'
theorem cut_at (x t : List UInt8) (hx : ∀ c ∈ x, (c != 32) = true) (ht : Sp t) : cutL (x ++ t) = (x, t.drop 1) := by
  unfold cutL
  have h1 : (x ++ t).takeWhile (· != 32) = x ++ t.takeWhile (· != 32) := List.takeWhile_append_of_pos (by simpa using hx)
  have h2 : (x ++ t).dropWhile (· != 32) = t.dropWhile (· != 32) := List.dropWhile_append_of_pos (by simpa using hx)
  rw [h1, h2]
  rcases ht with rfl | ⟨t', rfl⟩
  · simp
  · simp
theorem tell_sp (k n : Int) (t : List UInt8) (ht : Sp t) : Sp (tellL k n ++ t) := by
  unfold tellL
  split
  · exact ht
  · split
    · exact Or.inr ⟨_, rfl⟩
    · exact Or.inr ⟨_, rfl⟩
theorem take_tell (k n : Int) (t : List UInt8) (ht : Sp t) (h0 : k = 0 → n = 0) (hn : -1000000 < n ∧ n < 1000000) : takeL k ((tellL k n ++ t).drop 1) = (n, t.drop 1) := by
  unfold takeL tellL
  by_cases hk : k = 0
  · rw [if_pos hk, if_pos hk, h0 hk]
    rfl
  · rw [if_neg hk, if_neg hk]
    by_cases h1 : k = 1
    · rw [if_pos h1, if_pos h1]
      have e : ((32 :: 114 :: itoa n) ++ t).drop 1 = (114 :: itoa n) ++ t := rfl
      have c : cutL ((114 :: itoa n) ++ t) = (114 :: itoa n, t.drop 1) := cut_at _ _ (fun c hc => by
        rcases List.mem_cons.1 hc with e | e
        · subst e; rfl
        · exact itoa_nb n c e) ht
      rw [e, c]
      have tp : trimPrefix (114 :: itoa n) [114] = itoa n := by simp [trimPrefix, hasPrefix]
      simp only [tp, numP, atoi_itoa n ⟨by omega, by omega⟩]
    · rw [if_neg h1, if_neg h1]
      have e : ((32 :: itoa n) ++ t).drop 1 = itoa n ++ t := rfl
      rw [e, cut_at _ _ (itoa_nb n) ht]
      simp only [numP, atoi_itoa n ⟨by omega, by omega⟩]
theorem word_nb : ∀ n : Nat, n < 23 → ∀ c ∈ shW n, (c != 32) = true := by decide +kernel
theorem op_word : ∀ n : Nat, n < 23 → opL (shW n) = n := by decide +kernel
theorem may0 {n : Int} (h : kMay 0 n = true) : n = 0 := by
  unfold kMay at h
  have := of_decide_eq_true h
  simp only [kLo, kHi] at this
  split at this <;> simp at this <;> omega
theorem guess_text (n : Nat) (hn : n < 23) (a b c : Int) (h : chkD n a b c = 0) : guessL (textL n a b c) = ⟨n, a, b, c⟩ := by
  have hr := chkD_ok h
  have hk : kMay (shA n) a = true ∧ kMay (shB n) b = true ∧ kMay (shC n) c = true := by
    unfold chkD at h
    rw [if_pos hr.1] at h
    unfold chkN at h
    rw [show (n : Int).toNat = n from rfl] at h
    by_cases hk : kMay (shA n) a = true ∧ kMay (shB n) b = true ∧ kMay (shC n) c = true
    · exact hk
    · rw [if_neg hk] at h; cases h
  have s0 : Sp [] := Or.inl rfl
  have s1 : Sp (tellL (shC n) c) := by have := tell_sp (shC n) c [] s0; rwa [List.append_nil] at this
  have s2 := tell_sp (shB n) b _ s1
  have s3 := tell_sp (shA n) a _ s2
  have e : textL n a b c = shW n ++ (tellL (shA n) a ++ (tellL (shB n) b ++ tellL (shC n) c)) := by unfold textL; simp only [List.append_assoc]
  have c0 : cutL (textL n a b c) = (shW n, (tellL (shA n) a ++ (tellL (shB n) b ++ tellL (shC n) c)).drop 1) := by rw [e]; exact cut_at _ _ (word_nb n hn) s3
  have tA := take_tell (shA n) a _ s2 (fun z => may0 (by rw [z] at hk; exact hk.1)) (by omega)
  have tB := take_tell (shB n) b _ s1 (fun z => may0 (by rw [z] at hk; exact hk.2.1)) (by omega)
  have tC := take_tell (shC n) c [] s0 (fun z => may0 (by rw [z] at hk; exact hk.2.2)) (by omega)
  rw [List.append_nil] at tC
  unfold guessL
  simp only [c0, op_word n hn, if_pos hn, tA, tB, tC]
theorem text_inj {o a b c o' a' b' c' : Int} (h : chkD o a b c = 0) (h' : chkD o' a' b' c' = 0) (e : textL o.toNat a b c = textL o'.toNat a' b' c') : o = o' ∧ a = a' ∧ b = b' ∧ c = c' := by
  obtain ⟨n, rfl⟩ := Int.eq_ofNat_of_zero_le (chkD_ok h).1.1
  obtain ⟨n', rfl⟩ := Int.eq_ofNat_of_zero_le (chkD_ok h').1.1
  have r := chkD_ok h
  have r' := chkD_ok h'
  have g := guess_text n (by omega) a b c h
  have g' := guess_text n' (by omega) a' b' c' h'
  have e' : textL n a b c = textL n' a' b' c' := e
  rw [e', g'] at g
  injection g with g1 g2 g3 g4
  exact ⟨g1.symm, g2.symm, g3.symm, g4.symm⟩
theorem num_inj {o a b c o' a' b' c' : Int} (h : chkD o a b c = 0) (h' : chkD o' a' b' c' = 0) (e : numD o a b c = numD o' a' b' c') : o = o' ∧ a = a' ∧ b = b' ∧ c = c' := by
  have r := chkD_ok h
  have r' := chkD_ok h'
  unfold numD at e
  omega
end Go.Proofs.YtfafkijcejbcpaaGreatDoor
