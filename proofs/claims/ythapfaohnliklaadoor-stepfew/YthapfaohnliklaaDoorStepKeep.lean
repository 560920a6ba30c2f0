/- Plain: what a step may do to a machine; a machine that may be may be behind it. -/
import Derived.Test.YthapfaohnliklaaDoorRows
import Derived.Test.YthapfaohnliklaaDoorBits
import Derived.Test.YthapfaohnliklaaDoorKeyPure
import Derived.Test.YthapfaohnliklaaDoorKeyCov
import Derived.Test.YthapfaohnliklaaDoorCellPure
import Derived.Test.YthapfaohnliklaaDoorValsArg
import Derived.Test.YthapfaohnliklaaDoorMemPure
import Derived.Test.YthapfaohnliklaaDoorNum
import Derived.Test.YthapfaohnliklaaDoorInstDev
import Derived.Test.YthapfaohnliklaaDoorMachArg
import Derived.Test.YthapfaohnliklaaDoorStepChk
import Derived.Test.YthapfaohnliklaaDoorStepSmall
import Derived.Test.YthapfaohnliklaaDoorStepMid
import Derived.Test.YthapfaohnliklaaDoorStepMid2
import Derived.Test.YthapfaohnliklaaDoorStepBack
import Derived.Test.YthapfaohnliklaaDoorStepCall
import Derived.Test.YthapfaohnliklaaDoorStepFetch
import Derived.Test.YthapfaohnliklaaDoorStepAct
import Derived.Test.YthapfaohnliklaaDoorStepActs
import Derived.Test.YthapfaohnliklaaDoorStepStep
import Derived.Test.YthapfaohnliklaaDoorStepTop
namespace Go.Proofs.YthapfaohnliklaaDoor
open Go.RowKit
set_option linter.unusedVariables false

/-- What an instruction that does something may do. -/
inductive Eff (x : MC) (i : ID) (n : K5) : MC → K5 → Prop
  | put (v : MV) (hv : chk1 v = 0) (ho : i.o ≠ 8 ∧ i.o ≠ 9 ∧ i.o ≠ 11 ∧ i.o ≠ 18 ∧ i.o ≠ 19 ∧ i.o ≠ 21 ∧ i.o ≠ 22) : Eff x i n (putR x i.a.toNat v) n
  | jump (ho : i.o = 8 ∨ i.o = 9) (hb : 0 ≤ x.k.a + i.c ∧ x.k.a + i.c ≤ 400) : Eff x i n x { n with a := x.k.a + i.c }
  | pass (ho : i.o = 9) : Eff x i n x n
  | store (ho : i.o = 11) (hi : (reg x i.b).i = true) (he : storeE x.m (kOf (reg x i.b)) i.c (reg x i.a) = 0) : Eff x i n { x with m := x.m.set (pl (kOf (reg x i.b)) i.c) (reg x i.a) } n
  | call (ho : i.o = 18) (ha : (reg x i.a).i = true) (hb : (reg x i.b).i = true) (he : callE (kOf (reg x i.a)) (kOf (reg x i.b)) x.s.length = 0) : Eff x i n (callM x n (kOf (reg x i.b)) (reg x 7)) (open5 (kOf (reg x i.a)))
  | back (ho : i.o = 19) (f : FR) (fs : List FR) (hs : x.s = fs ++ [f]) : Eff x i n (backM x f fs) f.c
  | clear (ho : i.o = 21) : Eff x i n { x with r := clrN i.c x.r 8 } n
  | tell (ho : i.o = 22) (hi : (reg x i.a).i = false) (hl : x.o.length < 100) : Eff x i n { x with o := x.o ++ [(reg x i.a).n] } n

theorem chk1_nV {m : Int} (h : -2147483648 ≤ m ∧ m ≤ 2147483647) : chk1 (nV m) = 0 := by
  show numE m 0 0 0 0 0 = 0
  unfold numE
  rw [if_pos h]
  rfl
theorem chk1_kV {k : K5} (h : ok5 k) : chk1 (kV k) = 0 := by
  show keyE 0 k.p k.b k.l k.a k.s = 0
  unfold keyE
  have h' : ok k.p k.b k.l k.a k.s := h
  rw [if_pos h', if_pos rfl]
theorem chk1_key {v : MV} (h : chk1 v = 0) (hi : v.i = true) : v.n = 0 ∧ ok5 (kOf v) := by
  obtain ⟨i, n, p, b, l, a, s⟩ := v
  cases hi
  exact keyE_ok h
theorem chk1_num {v : MV} (h : chk1 v = 0) (hi : v.i = false) : (-2147483648 ≤ v.n ∧ v.n ≤ 2147483647) ∧ v.p = 0 ∧ v.b = 0 ∧ v.l = 0 ∧ v.a = 0 ∧ v.s = 0 := by
  obtain ⟨i, n, p, b, l, a, s⟩ := v
  cases hi
  exact numE_ok h
theorem chk1_nil : chk1 nil0 = 0 := by decide
theorem reg_chk {x : MC} (h8 : x.r.length = 8) (hr : chkL x.r = 0) {k : Int} (hk : 0 ≤ k ∧ k ≤ 7) : chk1 (reg x k) = 0 := by
  unfold reg
  rw [List.getD_eq_getElem?_getD, List.getElem?_eq_getElem (by omega)]
  exact chkL_all.1 hr _ (List.getElem_mem _)
theorem kOf_kV (k : K5) : kOf (kV k) = k := rfl
theorem move_ok {p b l a s n : Int} (h : (moveK p b l a s n).e = 0) : ok (moveK p b l a s n).p (moveK p b l a s n).b (moveK p b l a s n).l (moveK p b l a s n).a (moveK p b l a s n).s := by
  unfold moveK at h ⊢
  by_cases hu : unsE p b l a s = 0
  · rw [if_pos hu] at h ⊢
    obtain ⟨⟨h1, h2, h3, h4, h5, h6, h7, h8, h9⟩, hs⟩ := ok_of_uns hu
    by_cases hb : 0 ≤ a + n ∧ a + n ≤ 400
    · rw [if_pos hb] at h ⊢
      exact ⟨h1, h2, h3, h4, h5, hb.1, hb.2, h8, h9⟩
    · rw [if_neg hb] at h
      cases h
  · rw [if_neg hu] at h
    exact absurd h hu
theorem narrow_ok' {p b l a s n : Int} (h : (narrowK p b l a s n).e = 0) : ok (narrowK p b l a s n).p (narrowK p b l a s n).b (narrowK p b l a s n).l (narrowK p b l a s n).a (narrowK p b l a s n).s := by
  unfold narrowK at h ⊢
  by_cases hu : unsE p b l a s = 0
  · rw [if_pos hu] at h ⊢
    obtain ⟨⟨h1, h2, h3, h4, h5, h6, h7, h8, h9⟩, hs⟩ := ok_of_uns hu
    by_cases hb : b ≤ a ∧ 0 ≤ n ∧ a + n ≤ b + l
    · rw [if_pos hb] at h ⊢
      refine ⟨h1, h2, ?_, ?_, ?_, h6, h7, h8, h9⟩ <;> dsimp only <;> omega
    · rw [if_neg hb] at h
      cases h
  · rw [if_neg hu] at h
    exact absurd h hu
theorem and_127 (p n : Int) (h : 0 ≤ p ∧ p ≤ 127) : 0 ≤ bits .and .i64 p n ∧ bits .and .i64 p n ≤ 127 := by
  have hb := and_b p n
  have hz : ∀ i : Nat, 7 ≤ i → i < 64 → bt p i = false := fun i h7 hi => by
    rw [bt_eq p i hi]
    have hp : p / 2 ^ i = 0 := by
      apply Int.ediv_eq_zero_of_lt h.1
      have : (2 : Int) ^ 7 ≤ 2 ^ i := by exact_mod_cast Nat.pow_le_pow_right (by omega) h7
      omega
    rw [hp]
    decide
  have hk : ∀ i : Nat, 7 ≤ i → i < 64 → bt (bits .and .i64 p n) i = false := fun i h7 hi => by rw [bt_and, hz i h7 hi]; rfl
  obtain ⟨q, hq⟩ : ∃ q, bits .and .i64 p n = q := ⟨_, rfl⟩
  rw [hq] at hb hk ⊢
  have hm : q = q % 128 := by
    apply bt_ext q (q % 128) hb (by omega)
    intro i hi
    rcases Nat.lt_or_ge i 7 with h7 | h7
    · rw [bt_eq q i hi, bt_eq _ i hi]
      have hi7 : i = 0 ∨ i = 1 ∨ i = 2 ∨ i = 3 ∨ i = 4 ∨ i = 5 ∨ i = 6 := by omega
      rcases hi7 with rfl | rfl | rfl | rfl | rfl | rfl | rfl <;> (congr 1; apply propext; omega)
    · rw [hk i h7 hi, bt_eq _ i hi]
      have : q % 128 / 2 ^ i = 0 := by
        apply Int.ediv_eq_zero_of_lt (by omega)
        have : (2 : Int) ^ 7 ≤ 2 ^ i := by exact_mod_cast Nat.pow_le_pow_right (by omega) h7
        omega
      rw [this]
      decide
  omega
theorem drop_ok {p b l a s n : Int} (h : (dropK p b l a s n).e = 0) : ok (dropK p b l a s n).p (dropK p b l a s n).b (dropK p b l a s n).l (dropK p b l a s n).a (dropK p b l a s n).s := by
  unfold dropK at h ⊢
  by_cases hu : unsE p b l a s = 0
  · rw [if_pos hu] at h ⊢
    obtain ⟨⟨h1, h2, h3, h4, h5, h6, h7, h8, h9⟩, hs⟩ := ok_of_uns hu
    have hb := and_127 p n ⟨h1, h2⟩
    exact ⟨hb.1, hb.2, h3, h4, h5, h6, h7, h8, h9⟩
  · rw [if_neg hu] at h
    exact absurd h hu
theorem seal_cases {p b l a s p' b' l' a' s' : Int} (h : (sealK p b l a s p' b' l' a' s').e = 0) :
    ok p b l a s ∧ ok p' b' l' a' s' ∧ s = 0 ∧ mayE p' b' l' a' s' 32 = 0 ∧ (1 ≤ a' ∧ a' ≤ 63) ∧ sealK p b l a s p' b' l' a' s' = ⟨p, b, l, a, a', 0⟩ := by
  unfold sealK at h ⊢
  rcases @Decidable.em (ok p b l a s ∧ ok p' b' l' a' s') (decBoth p b l a s p' b' l' a' s') with hb | hb
  · rw [if_pos hb] at h ⊢
    split at h
    · rename_i hs
      rw [if_pos hs]
      split at h
      · rename_i hm
        rw [if_pos hm]
        split at h
        · rename_i ha
          rw [if_pos ha]
          exact ⟨hb.1, hb.2, hs, hm, ha, rfl⟩
        · cases h
      · rename_i hm
        exact absurd h hm
    · cases h
  · rw [if_neg hb] at h
    cases h
theorem open_cases {p b l a s p' b' l' a' s' : Int} (h : (openK p b l a s p' b' l' a' s').e = 0) :
    ok p b l a s ∧ ok p' b' l' a' s' ∧ ¬ s = 0 ∧ mayE p' b' l' a' s' 64 = 0 ∧ s = a' ∧ openK p b l a s p' b' l' a' s' = ⟨p, b, l, a, 0, 0⟩ := by
  unfold openK at h ⊢
  rcases @Decidable.em (ok p b l a s ∧ ok p' b' l' a' s') (decBoth p b l a s p' b' l' a' s') with hb | hb
  · rw [if_pos hb] at h ⊢
    split at h
    · cases h
    · rename_i hs
      rw [if_neg hs]
      split at h
      · rename_i hm
        rw [if_pos hm]
        split at h
        · rename_i ha
          rw [if_pos ha]
          exact ⟨hb.1, hb.2, hs, hm, ha, rfl⟩
        · cases h
      · rename_i hm
        exact absurd h hm
  · rw [if_neg hb] at h
    cases h
theorem seal_ok {p b l a s p' b' l' a' s' : Int} (h : (sealK p b l a s p' b' l' a' s').e = 0) : ok (sealK p b l a s p' b' l' a' s').p (sealK p b l a s p' b' l' a' s').b (sealK p b l a s p' b' l' a' s').l (sealK p b l a s p' b' l' a' s').a (sealK p b l a s p' b' l' a' s').s := by
  obtain ⟨⟨h1, h2, h3, h4, h5, h6, h7, h8, h9⟩, _, _, _, ha, e⟩ := seal_cases h
  rw [e]
  refine ⟨h1, h2, h3, h4, h5, h6, h7, ?_, ?_⟩ <;> dsimp only <;> omega
theorem open_ok {p b l a s p' b' l' a' s' : Int} (h : (openK p b l a s p' b' l' a' s').e = 0) : ok (openK p b l a s p' b' l' a' s').p (openK p b l a s p' b' l' a' s').b (openK p b l a s p' b' l' a' s').l (openK p b l a s p' b' l' a' s').a (openK p b l a s p' b' l' a' s').s := by
  obtain ⟨⟨h1, h2, h3, h4, h5, h6, h7, h8, h9⟩, _, _, _, ha, e⟩ := open_cases h
  rw [e]
  refine ⟨h1, h2, h3, h4, h5, h6, h7, ?_, ?_⟩ <;> dsimp only <;> omega
/-- What is known of a machine that may be. -/
structure Good (x : MC) : Prop where
  r8 : x.r.length = 8
  r : chkL x.r = 0
  k : ok5 x.k
  m : memE x.m = 0
  s : stkE x.s = 0
  o : outE x.o = 0
theorem good_of {x : MC} (h8 : x.r.length = 8) (h : mcE x = 0) : Good x := by
  obtain ⟨h1, h2, h3, h4, h5⟩ := mcE_parts h
  exact ⟨h8, h1, ok_of_chk h2, h3, h4, h5⟩
theorem Good.e {x : MC} (h : Good x) : mcE x = 0 := by
  unfold mcE
  have h2 : chk5 x.k = 0 := chk_yes h.k
  rw [if_pos h.r, if_pos h2, if_pos h.m, if_pos h.s]
  exact h.o
theorem keyR_ok {x x' : MC} {a : Int} {K : KK} {n n' : K5} (h : keyR x a K n = .ok x' n') (hK : K.e = 0 → ok K.p K.b K.l K.a K.s) : ∃ v, chk1 v = 0 ∧ x' = putR x a.toNat v ∧ n' = n := by
  unfold keyR at h
  split at h
  · rename_i he
    cases h
    exact ⟨_, chk1_kV (k := ⟨K.p, K.b, K.l, K.a, K.s⟩) (hK he), rfl, rfl⟩
  · cases h
theorem recI_b (o a b : Int) : -2147483648 ≤ recI o a b ∧ recI o a b ≤ 2147483647 := by
  unfold recI
  split
  · exact wb _
  · split
    · exact wb _
    · split
      · exact wb _
      · split
        · unfold divI
          split
          · decide
          · exact wb _
        · unfold lessI
          split <;> decide
theorem calcR_ok {x x' : MC} {i : ID} {n n' : K5} {b c : MV} (h : calcR x i n b c = .ok x' n') : ∃ v, chk1 v = 0 ∧ x' = putR x i.a.toNat v ∧ n' = n := by
  unfold calcR at h
  split at h
  · cases h
  · split at h
    · cases h
    · split at h
      · cases h
      · cases h
        exact ⟨_, chk1_nV (recI_b _ _ _), rfl, rfl⟩
theorem jumpR_ok {x x' : MC} {i : ID} {n n' : K5} (h : jumpR x i n = .ok x' n') : (0 ≤ x.k.a + i.c ∧ x.k.a + i.c ≤ 400) ∧ x' = x ∧ n' = { n with a := x.k.a + i.c } := by
  unfold jumpR at h
  split at h
  · rename_i hb
    cases h
    exact ⟨hb, rfl, rfl⟩
  · cases h
theorem mem_chk {vs : List MV} (h : memE vs = 0) (k : Nat) : chk1 (vs.getD k nil0) = 0 := by
  rw [List.getD_eq_getElem?_getD]
  rcases Nat.lt_or_ge k vs.length with hk | hk
  · rw [List.getElem?_eq_getElem hk]
    exact chkL_all.1 (mem_small h).2 _ (List.getElem_mem _)
  · rw [List.getElem?_eq_none hk]
    exact chk1_nil
theorem loadV_chk {vs : List MV} {k : K5} {off : Int} (h : memE vs = 0) : chk1 (loadV vs k off) = 0 := by
  unfold loadV
  split
  · split
    · exact chk1_nil
    · exact mem_chk h _
  · exact chk1_nil
theorem askI_b {v : MV} (h : chk1 v = 0) (hi : v.i = true) (c : Int) : -2147483648 ≤ askI v c ∧ askI v c ≤ 2147483647 := by
  have := ok5_lit (chk1_key h hi).2
  unfold kOf at this
  dsimp only at this
  unfold askI
  split
  · omega
  · split
    · omega
    · split
      · omega
      · split <;> omega
/-- Whatever it does is one of these. -/
theorem act_eff {x x' : MC} {i : ID} {n n' : K5} (hG : Good x) (hi : okI i) (h : actR x i n = .ok x' n') : Eff x i n x' n' := by
  obtain ⟨⟨o1, o2⟩, a1, a2, b1, b2, c1, c2⟩ := chkD_ok hi
  obtain ⟨c3, c4, c5⟩ := okI_c hi
  obtain ⟨O, hO⟩ := Int.eq_ofNat_of_zero_le o1
  have ra := reg_chk hG.r8 hG.r ⟨a1, a2⟩
  have rb := reg_chk hG.r8 hG.r ⟨b1, b2⟩
  have hO23 : O = 0 ∨ O = 1 ∨ O = 2 ∨ O = 3 ∨ O = 4 ∨ O = 5 ∨ O = 6 ∨ O = 7 ∨ O = 8 ∨ O = 9 ∨ O = 10 ∨ O = 11 ∨ O = 12 ∨ O = 13 ∨ O = 14 ∨ O = 15 ∨ O = 16 ∨ O = 17 ∨ O = 18 ∨ O = 19 ∨ O = 20 ∨ O = 21 ∨ O = 22 := by omega
  unfold actR at h
  rw [hO, Int.toNat_natCast] at h
  rcases hO23 with rfl | rfl | rfl | rfl | rfl | rfl | rfl | rfl | rfl | rfl | rfl | rfl | rfl | rfl | rfl | rfl | rfl | rfl | rfl | rfl | rfl | rfl | rfl
  all_goals simp only at h
  · cases h
  · cases h
    exact .put _ (chk1_nV (by omega)) (by omega)
  · cases h
    exact .put _ rb (by omega)
  · obtain ⟨v, hv, rfl, rfl⟩ := calcR_ok h
    exact .put _ hv (by omega)
  · obtain ⟨v, hv, rfl, rfl⟩ := calcR_ok h
    exact .put _ hv (by omega)
  · obtain ⟨v, hv, rfl, rfl⟩ := calcR_ok h
    exact .put _ hv (by omega)
  · obtain ⟨v, hv, rfl, rfl⟩ := calcR_ok h
    exact .put _ hv (by omega)
  · obtain ⟨v, hv, rfl, rfl⟩ := calcR_ok h
    exact .put _ hv (by omega)
  · obtain ⟨hb, rfl, rfl⟩ := jumpR_ok h
    exact .jump (by omega) hb
  · split at h
    · cases h
    · split at h
      · cases h
        exact .pass (by omega)
      · obtain ⟨hb, rfl, rfl⟩ := jumpR_ok h
        exact .jump (by omega) hb
  · split at h
    · split at h
      · cases h
        exact .put _ (loadV_chk hG.m) (by omega)
      · cases h
    · cases h
  · split at h
    · rename_i hbi
      split at h
      · rename_i he
        cases h
        rw [store_set he]
        exact .store (by omega) hbi he
      · cases h
    · cases h
  · split at h
    · split at h
      · cases h
      · obtain ⟨v, hv, rfl, rfl⟩ := keyR_ok h (by unfold shiftK; split; exact move_ok; exact narrow_ok')
        exact .put _ hv (by omega)
    · cases h
  · split at h
    · split at h
      · cases h
      · obtain ⟨v, hv, rfl, rfl⟩ := keyR_ok h (by unfold shiftK; split; exact move_ok; exact narrow_ok')
        exact .put _ hv (by omega)
    · cases h
  · split at h
    · obtain ⟨v, hv, rfl, rfl⟩ := keyR_ok h drop_ok
      exact .put _ hv (by omega)
    · cases h
  · split at h
    · split at h
      · obtain ⟨v, hv, rfl, rfl⟩ := keyR_ok h seal_ok
        exact .put _ hv (by omega)
      · cases h
    · cases h
  · split at h
    · split at h
      · obtain ⟨v, hv, rfl, rfl⟩ := keyR_ok h open_ok
        exact .put _ hv (by omega)
      · cases h
    · cases h
  · split at h
    · cases h
      exact .put _ (chk1_nV (by split <;> omega)) (by omega)
    · split at h
      · rename_i hbi
        cases h
        exact .put _ (chk1_nV (askI_b rb hbi _)) (by omega)
      · cases h
  · split at h
    · rename_i hai
      split at h
      · rename_i hbi
        split at h
        · rename_i he
          cases h
          exact .call (by omega) hai hbi he
        · cases h
      · cases h
    · cases h
  · split at h
    · cases h
    · rename_i f hf
      cases h
      obtain ⟨hne, hl⟩ := List.getLast?_eq_some_iff.1 hf
      rw [hl]
      simp only [List.dropLast_concat]
      exact .back (by omega) f _ hl
  · cases h
    exact .put _ (chk1_kV hG.k) (by omega)
  · cases h
    exact .clear (by omega)
  · split at h
    · cases h
    · rename_i hai
      split at h
      · cases h
      · rename_i hl
        cases h
        exact .tell (by omega) (by simpa using hai) (by omega)
theorem frsE_all {fs : List FR} : frsE fs = 0 ↔ ∀ f ∈ fs, frE f = 0 := by
  induction fs with
  | nil => exact ⟨fun _ f h => by simp at h, fun _ => rfl⟩
  | cons f fs ih =>
    unfold frsE
    split
    · rename_i h
      rw [ih]
      exact ⟨fun hh u hu => by rcases List.mem_cons.1 hu with rfl | hu; exact h; exact hh u hu, fun hh u hu => hh u (List.mem_cons_of_mem _ hu)⟩
    · rename_i h
      exact ⟨fun hh => absurd hh h, fun hh => absurd (hh f List.mem_cons_self) h⟩
theorem frE_iff {f : FR} : frE f = 0 ↔ ok5 f.c ∧ chk1 f.d = 0 := by
  unfold frE
  rcases chk5_cases f.c with ⟨h, e⟩ | ⟨h, e⟩
  · rw [if_pos e]
    exact ⟨fun hh => ⟨h, hh⟩, fun hh => hh.2⟩
  · rw [if_neg (by rw [e]; decide), e]
    exact ⟨fun hh => (by cases hh), fun hh => absurd hh.1 h⟩
theorem stk_iff {fs : List FR} : stkE fs = 0 ↔ fs.length ≤ 16 ∧ ∀ f ∈ fs, ok5 f.c ∧ chk1 f.d = 0 := by
  unfold stkE
  split
  · rename_i h
    exact ⟨fun hh => (by cases hh), fun hh => by omega⟩
  · rename_i h
    rw [frsE_all]
    exact ⟨fun hh => ⟨by omega, fun f hf => frE_iff.1 (hh f hf)⟩, fun hh f hf => frE_iff.2 (hh.2 f hf)⟩
theorem toldE_all {ns : List Int} : toldE ns = 0 ↔ ∀ n ∈ ns, wrap32 n = n := by
  induction ns with
  | nil => exact ⟨fun _ f h => by simp at h, fun _ => rfl⟩
  | cons f fs ih =>
    unfold toldE
    split
    · rename_i h
      rw [ih]
      exact ⟨fun hh u hu => by rcases List.mem_cons.1 hu with rfl | hu; exact h; exact hh u hu, fun hh u hu => hh u (List.mem_cons_of_mem _ hu)⟩
    · rename_i h
      exact ⟨fun hh => (by cases hh), fun hh => absurd (hh f List.mem_cons_self) h⟩
theorem out_iff {ns : List Int} : outE ns = 0 ↔ ns.length ≤ 100 ∧ ∀ n ∈ ns, wrap32 n = n := by
  unfold outE
  split
  · rename_i h
    exact ⟨fun hh => (by cases hh), fun hh => by omega⟩
  · rename_i h
    rw [toldE_all]
    exact ⟨fun hh => ⟨by omega, hh⟩, fun hh => hh.2⟩
theorem regs_set {r : List MV} {k : Nat} {v : MV} (hr : chkL r = 0) (hv : chk1 v = 0) : chkL (r.set k v) = 0 := by
  rw [chkL_all] at hr ⊢
  intro u hu
  rcases List.mem_or_eq_of_mem_set hu with h | rfl
  · exact hr u h
  · exact hv
theorem clr_chk {c : Int} {r : List MV} (hr : chkL r = 0) (k : Nat) : chkL (clrN c r k) = 0 := by
  induction k with
  | zero => exact hr
  | succ k ih =>
    unfold clrN
    split
    · exact regs_set ih chk1_nil
    · exact ih
theorem open_good {k : K5} (h : ok5 k) : ok5 (open5 k) := by
  obtain ⟨h1, h2, h3, h4, h5, h6, h7, h8, h9⟩ := ok5_lit h
  exact ⟨h1, h2, h3, h4, h5, h6, h7, Int.le_refl _, (by show (0 : Int) ≤ 63; decide)⟩
/-- P19: a machine that may be may be behind the step. -/
theorem eff_good {x x' : MC} {i : ID} {n n' : K5} (hG : Good x) (hi : okI i) (hn : ok5 n) (h : Eff x i n x' n') : Good { x' with k := n' } := by
  obtain ⟨⟨o1, o2⟩, a1, a2, b1, b2, c1, c2⟩ := chkD_ok hi
  have ra := reg_chk hG.r8 hG.r ⟨a1, a2⟩
  have rb := reg_chk hG.r8 hG.r ⟨b1, b2⟩
  have r7 := reg_chk hG.r8 hG.r (k := 7) (by omega)
  cases h with
  | put v hv ho => exact ⟨by show (x.r.set _ _).length = 8; rw [List.length_set]; exact hG.r8, regs_set hG.r hv, hn, hG.m, hG.s, hG.o⟩
  | jump ho hb =>
    obtain ⟨h1, h2, h3, h4, h5, h6, h7, h8, h9⟩ := ok5_lit hn
    exact ⟨hG.r8, hG.r, ⟨h1, h2, h3, h4, h5, hb.1, hb.2, h8, h9⟩, hG.m, hG.s, hG.o⟩
  | pass ho => exact ⟨hG.r8, hG.r, hn, hG.m, hG.s, hG.o⟩
  | store ho hi he => exact ⟨hG.r8, hG.r, hn, mem_set hG.m ra, hG.s, hG.o⟩
  | call ho ha hb he =>
    have k1 := (chk1_key ra ha).2
    have k2 := (chk1_key rb hb).2
    have hl : x.s.length < 16 := by
      unfold callE at he
      split at he
      · cases he
      · split at he
        · cases he
        · split at he
          · cases he
          · omega
    obtain ⟨s1, s2⟩ := stk_iff.1 hG.s
    refine ⟨by show (x.r.set _ _).length = 8; rw [List.length_set]; exact hG.r8, regs_set hG.r (chk1_kV (open_good k2)), open_good k1, hG.m, stk_iff.2 ⟨by show (x.s ++ [_]).length ≤ 16; simp; omega, fun f hf => ?_⟩, hG.o⟩
    rcases List.mem_append.1 hf with hf | hf
    · exact s2 f hf
    · obtain rfl := List.mem_singleton.1 hf
      exact ⟨hn, r7⟩
  | back ho f fs hs =>
    obtain ⟨s1, s2⟩ := stk_iff.1 hG.s
    have hf := s2 f (by rw [hs]; simp)
    refine ⟨by show (x.r.set _ _).length = 8; rw [List.length_set]; exact hG.r8, regs_set hG.r hf.2, hf.1, hG.m, stk_iff.2 ⟨by rw [hs] at s1; simp at s1; show fs.length ≤ 16; omega, fun g hg => s2 g (by rw [hs]; exact List.mem_append_left _ hg)⟩, hG.o⟩
  | clear ho => exact ⟨by show (clrN _ _ _).length = 8; rw [clr_len]; exact hG.r8, clr_chk hG.r 8, hn, hG.m, hG.s, hG.o⟩
  | tell ho hi hl =>
    obtain ⟨s1, s2⟩ := out_iff.1 hG.o
    refine ⟨hG.r8, hG.r, hn, hG.m, hG.s, out_iff.2 ⟨by show (x.o ++ [_]).length ≤ 100; simp; omega, fun m hm => ?_⟩⟩
    rcases List.mem_append.1 hm with hm | hm
    · exact s2 m hm
    · obtain rfl := List.mem_singleton.1 hm
      exact w_in _ (chk1_num ra hi).1
/-- What is known of where it runs. -/
theorem fet_at {x : MC} (hm : memE x.m = 0) (h : fetI x = 0) : x.k.s = 0 ∧ inB 4 x.k.p = true ∧ cov5 x.k x.k.a = true ∧ x.k.a < x.m.length ∧ x.m.length ≤ 400 ∧ (cellAt x).i = false ∧ okI (insAt x) := by
  have ho := fet_ok h
  unfold fetI at h
  split at h
  · rename_i h1
    split at h
    · rename_i h2
      split at h
      · rename_i h3
        split at h
        · cases h
        · rename_i h4
          exact ⟨h1, h2, h3.1, h3.2, (mem_small hm).1, by simpa using h4, ho⟩
      · cases h
    · cases h
  · cases h
theorem next_ok {x : MC} (hG : Good x) (h : fetI x = 0) : ok5 (nextK x) := by
  obtain ⟨_, _, _, h4, h5, _, _⟩ := fet_at hG.m h
  obtain ⟨k1, k2, k3, k4, k5, k6, k7, k8, k9⟩ := ok5_lit hG.k
  refine ⟨k1, k2, k3, k4, k5, ?_, ?_, k8, k9⟩
  · show 0 ≤ x.k.a + 1
    omega
  · show x.k.a + 1 ≤ 400
    omega
/-- A step that is done: what it does. -/
theorem step_eff {x : MC} (h8 : x.r.length = 8) (h : stpE x = 0) : Good x ∧ fetI x = 0 ∧ okI (insAt x) ∧ ∃ x' n', Eff x (insAt x) (nextK x) x' n' ∧ stpM x = { x' with k := n' } ∧ stepA x = .ok x' n' := by
  unfold stpE at h
  split at h
  · rename_i he
    have hG := good_of h8 he
    unfold stpM
    rw [if_pos he]
    cases hA : stepA x with
    | no t =>
      rw [hA] at h
      exact absurd h (step_no hA)
    | ok x' n' =>
      have hA' := hA
      unfold stepA at hA
      split at hA
      · rename_i hf
        exact ⟨hG, hf, fet_ok hf, x', n', act_eff hG (fet_ok hf) hA, rfl, rfl⟩
      · cases hA
  · rename_i he
    exact absurd h he
theorem step_good {x : MC} (h8 : x.r.length = 8) (h : stpE x = 0) : Good (stpM x) := by
  obtain ⟨hG, hf, hi, x', n', hE, e, _⟩ := step_eff h8 h
  rw [e]
  exact eff_good hG hi (next_ok hG hf) hE
theorem stp_no {x : MC} (h : ¬ stpE x = 0) : stpM x = zeroM := by
  unfold stpE at h
  unfold stpM
  split
  · rename_i he
    rw [if_pos he] at h
    cases hA : stepA x with
    | no t => rfl
    | ok x' n' => rw [hA] at h; exact absurd rfl h
  · rfl
theorem stp_r8 {x : MC} (h8 : x.r.length = 8) : (stpM x).r.length = 8 := by
  by_cases h : stpE x = 0
  · exact (step_good h8 h).r8
  · rw [stp_no h]
    rfl
theorem kb_of_ok {k : K5} (h : ok5 k) : k5b k := by
  obtain ⟨h1, h2, h3, h4, h5, h6, h7, h8, h9⟩ := ok5_lit h
  unfold k5b kb
  omega
theorem mv_of_chk {v : MV} (h : chk1 v = 0) : mvOk v := by
  cases hi : v.i
  · obtain ⟨h1, h2, h3, h4, h5, h6⟩ := chk1_num h hi
    unfold mvOk vb kb
    omega
  · obtain ⟨h1, h2⟩ := chk1_key h hi
    have h3 := kb_of_ok h2
    unfold k5b kOf at h3
    exact ⟨by omega, h3⟩
theorem Good.b {x : MC} (h : Good x) : McB x := by
  refine ⟨h.r8, fun v hv => mv_of_chk (chkL_all.1 h.r v hv), kb_of_ok h.k, fun v hv => mv_of_chk (chkL_all.1 (mem_small h.m).2 v hv), fun f hf => ?_, fun n hn => ?_⟩
  · have := (stk_iff.1 h.s).2 f hf
    exact ⟨kb_of_ok this.1, mv_of_chk this.2⟩
  · have h1 := (out_iff.1 h.o).2 n hn
    have h2 := wb n
    unfold nmOk
    omega
end Go.Proofs.YthapfaohnliklaaDoor
