/- The document's own answers on keys (package custodianref): what each of its calls answers, for whatever numbers; it turns nothing that was in memory. -/
import Derived.Test.YtpmmgpiamginaaaRows
import Derived.Test.YtpmmgpiamginaaaBits
import Derived.Test.YtpmmgpiamginaaaWithin
import Derived.Test.YtpmmgpiamginaaaKeyPure
import Derived.Test.YtpmmgpiamginaaaKeys
import Derived.WalkKit
import Derived.ProofKit
import Derived.OpenShut
namespace Go.Proofs.Ytpmmgpiamginaaa
open Go.ChangeShapes Go.WideShapes Go.ChangeAt Go.RowKit

def outB (n lo hi : Int) : Bool := decide (n < lo ∨ hi < n)
theorem ref_outside (n lo hi : Int) (w : World) :
    Calls Try.prog 25 #[.int .i64 n, .int .i64 lo, .int .i64 hi] w fun e w' => e = .returned (.bool (outB n lo hi)) ∧ w' = w := by
  unfold outB
  by_cases h1 : n < lo
  · rw [decide_eq_true (Or.inl h1)]
    go_enter Try.func25, Try.ntmps25
    go_wp2
    go_ret
    exact ⟨rfl, rfl⟩
  · by_cases h2 : hi < n
    · rw [decide_eq_true (Or.inr h2)]
      go_enter Try.func25, Try.ntmps25
      go_wp2
      go_ret
      exact ⟨rfl, rfl⟩
    · rw [decide_eq_false (fun h => h.elim h1 h2)]
      go_enter Try.func25, Try.ntmps25
      go_wp2
      go_ret
      exact ⟨rfl, rfl⟩
theorem ref_check (p b l a s : Int) (w : World) :
    Calls Try.prog 10 #[.agg #[.int .i64 p, .int .i64 b, .int .i64 l, .int .i64 a, .int .i64 s]] w fun e w' => e = .returned (.int .i64 (chkE p b l a s)) ∧ Below w.heap.size w w' := by
  have yes : outB p 0 127 = false → outB b 0 400 = false → outB l 0 400 = false → ¬ 400 < b + l → outB a 0 400 = false → outB s 0 63 = false → chkE p b l a s = 0 := by
    simp only [outB, decide_eq_false_iff_not]
    intro h1 h2 h3 h4 h5 h6
    exact chk_yes (by unfold ok; omega)
  have no : (outB p 0 127 = true ∨ outB b 0 400 = true ∨ outB l 0 400 = true ∨ 400 < b + l ∨ outB a 0 400 = true ∨ outB s 0 63 = true) → chkE p b l a s = 1 := by
    simp only [outB, decide_eq_true_eq]
    intro h
    refine chk_no (fun h' => ?_)
    have := ok_lit h'
    omega
  have bd : outB b 0 400 = false → outB l 0 400 = false → (0 ≤ b ∧ b ≤ 400 ∧ 0 ≤ l ∧ l ≤ 400) := by
    simp only [outB, decide_eq_false_iff_not]; omega
  have cs : (outB p 0 127 = true ∧ chkE p b l a s = 1) ∨ (outB p 0 127 = false ∧ outB b 0 400 = true ∧ chkE p b l a s = 1) ∨ (outB p 0 127 = false ∧ outB b 0 400 = false ∧ outB l 0 400 = true ∧ chkE p b l a s = 1) ∨
    (outB p 0 127 = false ∧ outB b 0 400 = false ∧ outB l 0 400 = false ∧ (0 ≤ b ∧ b ≤ 400 ∧ 0 ≤ l ∧ l ≤ 400) ∧ 400 < b + l ∧ chkE p b l a s = 1) ∨
    (outB p 0 127 = false ∧ outB b 0 400 = false ∧ outB l 0 400 = false ∧ (0 ≤ b ∧ b ≤ 400 ∧ 0 ≤ l ∧ l ≤ 400) ∧ ¬ 400 < b + l ∧ outB a 0 400 = true ∧ chkE p b l a s = 1) ∨
    (outB p 0 127 = false ∧ outB b 0 400 = false ∧ outB l 0 400 = false ∧ (0 ≤ b ∧ b ≤ 400 ∧ 0 ≤ l ∧ l ≤ 400) ∧ ¬ 400 < b + l ∧ outB a 0 400 = false ∧ outB s 0 63 = true ∧ chkE p b l a s = 1) ∨
    (outB p 0 127 = false ∧ outB b 0 400 = false ∧ outB l 0 400 = false ∧ (0 ≤ b ∧ b ≤ 400 ∧ 0 ≤ l ∧ l ≤ 400) ∧ ¬ 400 < b + l ∧ outB a 0 400 = false ∧ outB s 0 63 = false ∧ chkE p b l a s = 0) := by
    cases h1 : outB p 0 127
    · cases h2 : outB b 0 400
      · cases h3 : outB l 0 400
        · have h4 := bd h2 h3
          by_cases h5 : 400 < b + l
          · exact .inr (.inr (.inr (.inl ⟨rfl, rfl, rfl, h4, h5, no (by simp [h5])⟩)))
          · cases h6 : outB a 0 400
            · cases h7 : outB s 0 63
              · exact .inr (.inr (.inr (.inr (.inr (.inr ⟨rfl, rfl, rfl, h4, h5, rfl, rfl, yes h1 h2 h3 h5 h6 h7⟩)))))
              · exact .inr (.inr (.inr (.inr (.inr (.inl ⟨rfl, rfl, rfl, h4, h5, rfl, rfl, no (by simp [h7])⟩)))))
            · exact .inr (.inr (.inr (.inr (.inl ⟨rfl, rfl, rfl, h4, h5, rfl, no (by simp [h6])⟩))))
        · exact .inr (.inr (.inl ⟨rfl, rfl, rfl, no (by simp [h3])⟩))
      · exact .inr (.inl ⟨rfl, rfl, no (by simp [h2])⟩)
    · exact .inl ⟨rfl, no (by simp [h1])⟩
  clear yes no bd
  rcases cs with ⟨h1, hm⟩ | ⟨h1, h2, hm⟩ | ⟨h1, h2, h3, hm⟩ | ⟨h1, h2, h3, h4, h5, hm⟩ | ⟨h1, h2, h3, h4, h5, h6, hm⟩ | ⟨h1, h2, h3, h4, h5, h6, h7, hm⟩ | ⟨h1, h2, h3, h4, h5, h6, h7, hm⟩
  all_goals
    rw [hm]
    clear hm
    go_enter Try.func10, Try.ntmps10
    go_wp2_with (go_at_call 25; refine (ref_outside _ _ _ _).mono ?_; rintro e w' ⟨rfl, rfl⟩)
    go_ret
    exact ⟨rfl, (Below.refl _ _).alloc (Nat.le_refl _) _⟩
theorem ref_covers (p b l a s x : Int) (w : World) (hb : kb p b l a s) (hx : -9223372036854775808 ≤ x ∧ x ≤ 9223372036854775807) :
    Calls Try.prog 12 #[.agg #[.int .i64 p, .int .i64 b, .int .i64 l, .int .i64 a, .int .i64 s], .int .i64 x] w fun e w' => e = .returned (.bool (covB b l x)) ∧ Below w.heap.size w w' := by
  obtain ⟨-, b2, b3, -, -⟩ := hb
  have hu := u64_gap x b hx b2
  have cs : (l ≤ 0 ∧ covB b l x = false) ∨ (0 < l ∧ x < b ∧ covB b l x = false) ∨ (0 < l ∧ b ≤ x ∧ decide (x - b < l) = true ∧ covB b l x = true) ∨ (0 < l ∧ b ≤ x ∧ decide (x - b < l) = false ∧ covB b l x = false) := by
    simp only [covB, decide_eq_true_eq, decide_eq_false_iff_not]; omega
  rcases cs with ⟨h1, hm⟩ | ⟨h1, h2, hm⟩ | ⟨h1, h2, h3, hm⟩ | ⟨h1, h2, h3, hm⟩
  · rw [hm]
    clear hm hu
    go_enter Try.func12, Try.ntmps12
    go_wp2
    go_ret
    exact ⟨rfl, (Below.refl _ _).alloc (Nat.le_refl _) _⟩
  · rw [hm]
    clear hm hu
    go_enter Try.func12, Try.ntmps12
    go_wp2
    go_ret
    exact ⟨rfl, (Below.refl _ _).alloc (Nat.le_refl _) _⟩
  all_goals
    rw [hm]
    replace hu := hu h2
    clear hm
    go_enter Try.func12, Try.ntmps12
    go_wp2
    go_ret
    exact ⟨rfl, (Below.refl _ _).alloc (Nat.le_refl _) _⟩
theorem cw_of {b l b' l' : Int} (h : ∀ x, b ≤ x → x < b + l → covB b' l' x = true) : cwB b l b' l' = true := by
  unfold cwB
  rw [decide_eq_true_eq]
  by_cases hl : l ≤ 0
  · exact Or.inl hl
  · have h1 := h b (by omega) (by omega)
    have h2 := h (b + l - 1) (by omega) (by omega)
    simp only [covB, decide_eq_true_eq] at h1 h2
    omega
theorem cw_not {b l b' l' x : Int} (h1 : b ≤ x) (h2 : x < b + l) (h : covB b' l' x = false) : cwB b l b' l' = false := by
  simp only [covB, decide_eq_false_iff_not] at h
  unfold cwB
  rw [decide_eq_false_iff_not]
  omega
theorem ref_under (p b l a s p' b' l' a' s' : Int) (w : World) (ho : ok p b l a s) (ho' : ok p' b' l' a' s') :
    Calls Try.prog 14 #[.agg #[.int .i64 p, .int .i64 b, .int .i64 l, .int .i64 a, .int .i64 s], .agg #[.int .i64 p', .int .i64 b', .int .i64 l', .int .i64 a', .int .i64 s']] w fun e w' => e = .returned (.bool (undB p b l s p' b' l' s')) ∧ Below w.heap.size w w' := by
  have kb' : kb p' b' l' a' s' := by unfold kb; unfold ok at ho'; omega
  obtain ⟨-, -, o3, o4, o5, -, -, -, -⟩ := ho
  clear ho'
  go_enter Try.func14, Try.ntmps14
  go_wp2
  go_loopw [5] (fun i wr => ∃ x : Int, b ≤ x ∧ x ≤ b + l ∧ i = .int .i64 x ∧ Below w.heap.size w wr ∧ Box wr w.heap.size #[.int .i64 p, .int .i64 b, .int .i64 l, .int .i64 a, .int .i64 s] ∧ Box wr (w.heap.size + 1) #[.int .i64 p', .int .i64 b', .int .i64 l', .int .i64 a', .int .i64 s'] ∧ ∀ y, b ≤ y → y < x → covB b' l' y = true) (fun i _ => (b + l - intOf i).toNat)
  case atStart => exact ⟨b, by omega, by omega, rfl, two _ _, (Box.new _ _ _).alloc _, Box.new1 _ _ _ _, fun y h1 h2 => by omega⟩
  case round =>
    obtain ⟨x, h1, h2, rfl, hB, B1, B2, hall⟩ := hrel
    have q1 := B1.cell
    have q2 := B2.cell
    by_cases hlt : x < b + l
    · cases hc : covB b' l' x
      · have hu : undB p b l s p' b' l' s' = false := by unfold undB; rw [cw_not h1 hlt hc]; rfl
        have HE : Hid (Ending.returned (.bool false) = .returned (.bool (undB p b l s p' b' l' s'))) := by rw [hu]; rfl
        clear hu hall
        go_wp2_with (go_at_call 12; refine (ref_covers _ _ _ _ _ _ _ kb' (by omega)).mono ?_; rintro e w' ⟨rfl, hbb⟩)
        go_ret
        exact ⟨HE.out, Below.step0 hB hbb⟩
      · have H : Hid (∀ y, b ≤ y → y < x → covB b' l' y = true) := hall
        clear hall
        go_wp2_with (go_at_call 12; refine (ref_covers _ _ _ _ _ _ _ kb' (by omega)).mono ?_; rintro e w' ⟨rfl, hbb⟩; replace B1 := B1.below hbb; replace B2 := B2.below hbb)
        go_roundw
        case rel => exact ⟨x + 1, by omega, by omega, by go_num, Below.step0 hB hbb, B1, B2, fun y h3 h4 => by
          by_cases e : y = x
          · subst e; exact hc
          · exact H.out y h3 (by omega)⟩
        case measure => simp [intOf]; omega
    · have hw : cwB b l b' l' = true := cw_of fun y h3 h4 => hall y h3 (by omega)
      clear hall
      cases hi : inB p p'
      · have HE : Hid (Ending.returned (.bool false) = .returned (.bool (undB p b l s p' b' l' s'))) := by unfold undB; rw [hw, hi]; rfl
        clear hw
        go_wp2_with (go_at_call 28; refine (ref_within _ _ _).mono ?_; rintro e w' ⟨rfl, rfl⟩)
        go_ret
        exact ⟨HE.out, hB⟩
      · cases hz : (s' == 0)
        · have HE : Hid (Ending.returned (.bool (s == s')) = .returned (.bool (undB p b l s p' b' l' s'))) := by unfold undB; rw [hw, hi, hz]; rfl
          clear hw
          go_wp2_with (go_at_call 28; refine (ref_within _ _ _).mono ?_; rintro e w' ⟨rfl, rfl⟩)
          go_ret
          exact ⟨HE.out, hB⟩
        · have HE : Hid (Ending.returned (.bool true) = .returned (.bool (undB p b l s p' b' l' s'))) := by unfold undB; rw [hw, hi, hz]; rfl
          clear hw
          go_wp2_with (go_at_call 28; refine (ref_within _ _ _).mono ?_; rintro e w' ⟨rfl, rfl⟩)
          go_ret
          exact ⟨HE.out, hB⟩
/-- What is both in p and in n, of the bits below k. -/
def acc (p n : Int) : Nat → Int
  | 0 => 0
  | k + 1 => acc p n k + if bt p k && bt n k then 2 ^ k else 0
theorem acc_succ (p n : Int) (k : Nat) : acc p n (k + 1) = acc p n k + if bt p k && bt n k then 2 ^ k else 0 := rfl
theorem acc_bd (p n : Int) (k : Nat) : 0 ≤ acc p n k ∧ acc p n k < 2 ^ k := by
  induction k with
  | zero => exact ⟨Int.le_refl _, by show (0 : Int) < 1; decide⟩
  | succ k ih =>
    rw [acc_succ, Int.pow_succ]
    have : (0 : Int) < 2 ^ k := Int.pow_pos (by decide)
    split <;> omega
theorem acc_bd7 (p n : Int) (k : Nat) (h : k ≤ 7) : 0 ≤ acc p n k ∧ acc p n k ≤ 128 := by
  have h1 := acc_bd p n k
  have h2 : (2 : Int) ^ k ≤ 128 := by
    have : ∀ j : Nat, j < 8 → (2 : Int) ^ j ≤ 128 := by decide
    exact this k (by omega)
  omega
theorem acc_nat (p n : Int) (k : Nat) : acc p n k = (((BitVec.ofInt 64 p &&& BitVec.ofInt 64 n).toNat % 2 ^ k : Nat) : Int) := by
  induction k with
  | zero => simp [acc, Nat.mod_one]
  | succ k ih =>
    rw [acc_succ, ih, Nat.mod_pow_succ, Int.natCast_add]
    congr 1
    have e : (BitVec.ofInt 64 p &&& BitVec.ofInt 64 n).toNat.testBit k = (bt p k && bt n k) := by
      rw [BitVec.testBit_toNat, BitVec.getLsbD_and]; rfl
    rw [Nat.testBit_eq_decide_div_mod_eq] at e
    rw [← e]
    have h2 : (BitVec.ofInt 64 p &&& BitVec.ofInt 64 n).toNat / 2 ^ k % 2 < 2 := Nat.mod_lt _ (by decide)
    by_cases h : (BitVec.ofInt 64 p &&& BitVec.ofInt 64 n).toNat / 2 ^ k % 2 = 1
    · rw [h]; simp
    · have h0 : (BitVec.ofInt 64 p &&& BitVec.ofInt 64 n).toNat / 2 ^ k % 2 = 0 := by omega
      rw [h0]; simp
theorem drop_acc (p n : Int) (h : 0 ≤ p ∧ p ≤ 127) : bits .and .i64 p n = acc p n 7 := by
  have e : bits .and .i64 p n = IntKind.i64.wrap (((BitVec.ofInt 64 p &&& BitVec.ofInt 64 n).toNat : Nat) : Int) := rfl
  rw [e, acc_nat]
  have h1 : (BitVec.ofInt 64 p).toNat ≤ 127 := by
    rw [BitVec.toNat_ofInt]
    have : p % ((2 ^ 64 : Nat) : Int) = p := Int.emod_eq_of_lt h.1 (by have : ((2 ^ 64 : Nat) : Int) = 18446744073709551616 := by decide
                                                                       omega)
    rw [this]; omega
  have h2 : (BitVec.ofInt 64 p &&& BitVec.ofInt 64 n).toNat ≤ 127 := by
    rw [BitVec.toNat_and]
    exact Nat.le_trans Nat.and_le_left h1
  rw [Nat.mod_eq_of_lt (by omega), IntKind.wrap_i64]
  omega
set_option maxHeartbeats 4000000 in
theorem ref_op0 (p b l a s n : Int) (w : World) (hn : -9223372036854775808 ≤ n ∧ n ≤ 9223372036854775807) :
    Calls Try.prog 16 #[.agg #[.int .i64 p, .int .i64 b, .int .i64 l, .int .i64 a, .int .i64 s], .int .i64 n, .int .i64 0] w
      fun e w' => e = .returned (.tuple #[.agg #[.int .i64 (moveK p b l a s n).p, .int .i64 (moveK p b l a s n).b, .int .i64 (moveK p b l a s n).l, .int .i64 (moveK p b l a s n).a, .int .i64 (moveK p b l a s n).s], .int .i64 (moveK p b l a s n).e]) ∧ Below w.heap.size w w' := by
  by_cases ho : ok p b l a s
  · have hk := chk_yes ho
    by_cases hs : s = 0
    · have hu : unsE p b l a s = 0 := by unfold unsE; rw [if_pos ho, if_pos hs]
      have hs' : ¬ 0 < s := by omega
      have h0 := ok_lit ho
      have ha : 0 ≤ a ∧ a ≤ 400 := by omega
      clear h0
      by_cases h1 : -400 ≤ n ∧ n ≤ 400
      · have g1 : outB n (-400) 400 = false := by unfold outB; rw [decide_eq_false_iff_not]; omega
        by_cases h2 : 0 ≤ a + n ∧ a + n ≤ 400
        · have g2 : outB (a + n) 0 400 = false := by unfold outB; rw [decide_eq_false_iff_not]; omega
          have hm : moveK p b l a s n = ⟨p, b, l, a + n, 0, 0⟩ := by unfold moveK; rw [if_pos hu, if_pos h2, hs]
          rw [hm]
          clear hm hu ho hs
          go_enter Try.func16, Try.ntmps16
          go_wp2_with (first | (go_at_call 10; refine (ref_check _ _ _ _ _ _).mono ?_; rintro e w' ⟨rfl, hbb⟩; have q1 := (((Box.new _ _ _).alloc _).below hbb).cell; have q2 := ((Box.new1 _ _ _ _).below hbb).cell; have f1 := (((Box.new _ _ _).alloc _).below hbb).free; have f2 := ((Box.new1 _ _ _ _).below hbb).free; have hB := Below.step0 (two _ _) hbb; clear hbb) | (go_at_call 25; refine (ref_outside _ _ _ _).mono ?_; rintro e w' ⟨rfl, rfl⟩))
          refine bodyPost_ret (v := .tuple #[.agg #[.int .i64 p, .int .i64 b, .int .i64 l, .int .i64 (a + n), .int .i64 0], .int .i64 0]) (by simp [results, Try.results16, go_sem, q2]) rfl ⟨rfl, ?_⟩
          exact ((((hB.setCell (by simp <;> omega) _).setCell (by simp <;> omega) _).setCell (by simp <;> omega) _).setCell (by simp <;> omega) _).setCell (by simp <;> omega) _
        · have g2 : outB (a + n) 0 400 = true := by unfold outB; rw [decide_eq_true_eq]; omega
          have hm : moveK p b l a s n = errK 13 := by unfold moveK; rw [if_pos hu, if_neg h2]
          rw [hm]
          clear hm hu ho hs h2
          go_enter Try.func16, Try.ntmps16
          go_wp2_with (first | (go_at_call 10; refine (ref_check _ _ _ _ _ _).mono ?_; rintro e w' ⟨rfl, hbb⟩; have q1 := (((Box.new _ _ _).alloc _).below hbb).cell; have q2 := ((Box.new1 _ _ _ _).below hbb).cell; have f1 := (((Box.new _ _ _).alloc _).below hbb).free; have f2 := ((Box.new1 _ _ _ _).below hbb).free; have hB := Below.step0 (two _ _) hbb; clear hbb) | (go_at_call 25; refine (ref_outside _ _ _ _).mono ?_; rintro e w' ⟨rfl, rfl⟩))
          refine bodyPost_ret (v := .tuple #[.agg #[.int .i64 0, .int .i64 0, .int .i64 0, .int .i64 0, .int .i64 0], .int .i64 13]) (by simp [results, Try.results16, go_sem, q2]) rfl ⟨rfl, ?_⟩
          exact ((((hB.setCell (by simp <;> omega) _).setCell (by simp <;> omega) _).setCell (by simp <;> omega) _).setCell (by simp <;> omega) _).setCell (by simp <;> omega) _
      · have g1 : outB n (-400) 400 = true := by unfold outB; rw [decide_eq_true_eq]; omega
        have hm : moveK p b l a s n = errK 13 := by unfold moveK; rw [if_pos hu, if_neg (by omega)]
        rw [hm]
        clear hm hu ho hs h1
        go_enter Try.func16, Try.ntmps16
        go_wp2_with (first | (go_at_call 10; refine (ref_check _ _ _ _ _ _).mono ?_; rintro e w' ⟨rfl, hbb⟩; have q1 := (((Box.new _ _ _).alloc _).below hbb).cell; have q2 := ((Box.new1 _ _ _ _).below hbb).cell; have f1 := (((Box.new _ _ _).alloc _).below hbb).free; have f2 := ((Box.new1 _ _ _ _).below hbb).free; have hB := Below.step0 (two _ _) hbb; clear hbb) | (go_at_call 25; refine (ref_outside _ _ _ _).mono ?_; rintro e w' ⟨rfl, rfl⟩))
        refine bodyPost_ret (v := .tuple #[.agg #[.int .i64 0, .int .i64 0, .int .i64 0, .int .i64 0, .int .i64 0], .int .i64 13]) (by simp [results, Try.results16, go_sem, q2]) rfl ⟨rfl, ?_⟩
        exact ((((hB.setCell (by simp <;> omega) _).setCell (by simp <;> omega) _).setCell (by simp <;> omega) _).setCell (by simp <;> omega) _).setCell (by simp <;> omega) _
    · have hu : unsE p b l a s = 11 := by unfold unsE; rw [if_pos ho, if_neg hs]
      have hs' : 0 < s := by have := ok_lit ho; omega
      have hm : moveK p b l a s n = errK 11 := by unfold moveK; rw [hu]; rfl
      rw [hm]
      clear hm hu ho hs
      go_enter Try.func16, Try.ntmps16
      go_wp2_with (first | (go_at_call 10; refine (ref_check _ _ _ _ _ _).mono ?_; rintro e w' ⟨rfl, hbb⟩; have q1 := (((Box.new _ _ _).alloc _).below hbb).cell; have q2 := ((Box.new1 _ _ _ _).below hbb).cell; have f1 := (((Box.new _ _ _).alloc _).below hbb).free; have f2 := ((Box.new1 _ _ _ _).below hbb).free; have hB := Below.step0 (two _ _) hbb; clear hbb) | (go_at_call 25; refine (ref_outside _ _ _ _).mono ?_; rintro e w' ⟨rfl, rfl⟩))
      refine bodyPost_ret (v := .tuple #[.agg #[.int .i64 0, .int .i64 0, .int .i64 0, .int .i64 0, .int .i64 0], .int .i64 11]) (by simp [results, Try.results16, go_sem, q2]) rfl ⟨rfl, ?_⟩
      exact ((((hB.setCell (by simp <;> omega) _).setCell (by simp <;> omega) _).setCell (by simp <;> omega) _).setCell (by simp <;> omega) _).setCell (by simp <;> omega) _
  · have hk := chk_no ho
    have hu : unsE p b l a s = 1 := by unfold unsE; rw [if_neg ho]
    have hm : moveK p b l a s n = errK 1 := by unfold moveK; rw [hu]; rfl
    rw [hm]
    clear hm hu ho
    go_enter Try.func16, Try.ntmps16
    go_wp2_with (first | (go_at_call 10; refine (ref_check _ _ _ _ _ _).mono ?_; rintro e w' ⟨rfl, hbb⟩; have q1 := (((Box.new _ _ _).alloc _).below hbb).cell; have q2 := ((Box.new1 _ _ _ _).below hbb).cell; have f1 := (((Box.new _ _ _).alloc _).below hbb).free; have f2 := ((Box.new1 _ _ _ _).below hbb).free; have hB := Below.step0 (two _ _) hbb; clear hbb) | (go_at_call 25; refine (ref_outside _ _ _ _).mono ?_; rintro e w' ⟨rfl, rfl⟩))
    refine bodyPost_ret (v := .tuple #[.agg #[.int .i64 0, .int .i64 0, .int .i64 0, .int .i64 0, .int .i64 0], .int .i64 1]) (by simp [results, Try.results16, go_sem, q2]) rfl ⟨rfl, ?_⟩
    exact ((((hB.setCell (by simp <;> omega) _).setCell (by simp <;> omega) _).setCell (by simp <;> omega) _).setCell (by simp <;> omega) _).setCell (by simp <;> omega) _
set_option maxHeartbeats 4000000 in
theorem ref_op1 (p b l a s n : Int) (w : World) (hn : -9223372036854775808 ≤ n ∧ n ≤ 9223372036854775807) :
    Calls Try.prog 16 #[.agg #[.int .i64 p, .int .i64 b, .int .i64 l, .int .i64 a, .int .i64 s], .int .i64 n, .int .i64 1] w
      fun e w' => e = .returned (.tuple #[.agg #[.int .i64 (narrowK p b l a s n).p, .int .i64 (narrowK p b l a s n).b, .int .i64 (narrowK p b l a s n).l, .int .i64 (narrowK p b l a s n).a, .int .i64 (narrowK p b l a s n).s], .int .i64 (narrowK p b l a s n).e]) ∧ Below w.heap.size w w' := by
  by_cases ho : ok p b l a s
  · have hk := chk_yes ho
    by_cases hs : s = 0
    · have hu : unsE p b l a s = 0 := by unfold unsE; rw [if_pos ho, if_pos hs]
      have hs' : ¬ 0 < s := by omega
      have h0 := ok_lit ho
      have ha : 0 ≤ a ∧ a ≤ 400 ∧ 0 ≤ b ∧ 0 ≤ l ∧ b + l ≤ 400 := by omega
      clear h0
      have cs : (n < 0 ∧ ¬ (b ≤ a ∧ 0 ≤ n ∧ a + n ≤ b + l)) ∨ (0 ≤ n ∧ 400 < n ∧ ¬ (b ≤ a ∧ 0 ≤ n ∧ a + n ≤ b + l)) ∨ (0 ≤ n ∧ n ≤ 400 ∧ a < b ∧ ¬ (b ≤ a ∧ 0 ≤ n ∧ a + n ≤ b + l)) ∨ (0 ≤ n ∧ n ≤ 400 ∧ b ≤ a ∧ b + l < a + n ∧ ¬ (b ≤ a ∧ 0 ≤ n ∧ a + n ≤ b + l)) ∨ (0 ≤ n ∧ n ≤ 400 ∧ b ≤ a ∧ a + n ≤ b + l) := by omega
      rcases cs with ⟨g1, hf⟩ | ⟨g1, g2, hf⟩ | ⟨g1, g2, g3, hf⟩ | ⟨g1, g2, g3, g4, hf⟩ | ⟨g1, g2, g3, g4⟩
      iterate 4
        · have hm : narrowK p b l a s n = errK 13 := by unfold narrowK; rw [if_pos hu, if_neg hf]
          rw [hm]
          clear hm hu ho hs hf
          go_enter Try.func16, Try.ntmps16
          go_wp2_with (first | (go_at_call 10; refine (ref_check _ _ _ _ _ _).mono ?_; rintro e w' ⟨rfl, hbb⟩; have q1 := (((Box.new _ _ _).alloc _).below hbb).cell; have q2 := ((Box.new1 _ _ _ _).below hbb).cell; have f1 := (((Box.new _ _ _).alloc _).below hbb).free; have f2 := ((Box.new1 _ _ _ _).below hbb).free; have hB := Below.step0 (two _ _) hbb; clear hbb) | (go_at_call 25; refine (ref_outside _ _ _ _).mono ?_; rintro e w' ⟨rfl, rfl⟩))
          refine bodyPost_ret (v := .tuple #[.agg #[.int .i64 0, .int .i64 0, .int .i64 0, .int .i64 0, .int .i64 0], .int .i64 13]) (by simp [results, Try.results16, go_sem, q2]) rfl ⟨rfl, ?_⟩
          exact ((((hB.setCell (by simp <;> omega) _).setCell (by simp <;> omega) _).setCell (by simp <;> omega) _).setCell (by simp <;> omega) _).setCell (by simp <;> omega) _
      · have hm : narrowK p b l a s n = ⟨p, a, n, a, 0, 0⟩ := by unfold narrowK; rw [if_pos hu, if_pos ⟨g3, g1, g4⟩, hs]
        rw [hm]
        clear hm hu ho hs
        go_enter Try.func16, Try.ntmps16
        go_wp2_with (first | (go_at_call 10; refine (ref_check _ _ _ _ _ _).mono ?_; rintro e w' ⟨rfl, hbb⟩; have q1 := (((Box.new _ _ _).alloc _).below hbb).cell; have q2 := ((Box.new1 _ _ _ _).below hbb).cell; have f1 := (((Box.new _ _ _).alloc _).below hbb).free; have f2 := ((Box.new1 _ _ _ _).below hbb).free; have hB := Below.step0 (two _ _) hbb; clear hbb) | (go_at_call 25; refine (ref_outside _ _ _ _).mono ?_; rintro e w' ⟨rfl, rfl⟩))
        refine bodyPost_ret (v := .tuple #[.agg #[.int .i64 p, .int .i64 a, .int .i64 n, .int .i64 a, .int .i64 0], .int .i64 0]) (by simp [results, Try.results16, go_sem, q2]) rfl ⟨rfl, ?_⟩
        exact ((((hB.setCell (by simp <;> omega) _).setCell (by simp <;> omega) _).setCell (by simp <;> omega) _).setCell (by simp <;> omega) _).setCell (by simp <;> omega) _
    · have hu : unsE p b l a s = 11 := by unfold unsE; rw [if_pos ho, if_neg hs]
      have hs' : 0 < s := by have := ok_lit ho; omega
      have hm : narrowK p b l a s n = errK 11 := by unfold narrowK; rw [hu]; rfl
      rw [hm]
      clear hm hu ho hs
      go_enter Try.func16, Try.ntmps16
      go_wp2_with (first | (go_at_call 10; refine (ref_check _ _ _ _ _ _).mono ?_; rintro e w' ⟨rfl, hbb⟩; have q1 := (((Box.new _ _ _).alloc _).below hbb).cell; have q2 := ((Box.new1 _ _ _ _).below hbb).cell; have f1 := (((Box.new _ _ _).alloc _).below hbb).free; have f2 := ((Box.new1 _ _ _ _).below hbb).free; have hB := Below.step0 (two _ _) hbb; clear hbb) | (go_at_call 25; refine (ref_outside _ _ _ _).mono ?_; rintro e w' ⟨rfl, rfl⟩))
      refine bodyPost_ret (v := .tuple #[.agg #[.int .i64 0, .int .i64 0, .int .i64 0, .int .i64 0, .int .i64 0], .int .i64 11]) (by simp [results, Try.results16, go_sem, q2]) rfl ⟨rfl, ?_⟩
      exact ((((hB.setCell (by simp <;> omega) _).setCell (by simp <;> omega) _).setCell (by simp <;> omega) _).setCell (by simp <;> omega) _).setCell (by simp <;> omega) _
  · have hk := chk_no ho
    have hu : unsE p b l a s = 1 := by unfold unsE; rw [if_neg ho]
    have hm : narrowK p b l a s n = errK 1 := by unfold narrowK; rw [hu]; rfl
    rw [hm]
    clear hm hu ho
    go_enter Try.func16, Try.ntmps16
    go_wp2_with (first | (go_at_call 10; refine (ref_check _ _ _ _ _ _).mono ?_; rintro e w' ⟨rfl, hbb⟩; have q1 := (((Box.new _ _ _).alloc _).below hbb).cell; have q2 := ((Box.new1 _ _ _ _).below hbb).cell; have f1 := (((Box.new _ _ _).alloc _).below hbb).free; have f2 := ((Box.new1 _ _ _ _).below hbb).free; have hB := Below.step0 (two _ _) hbb; clear hbb) | (go_at_call 25; refine (ref_outside _ _ _ _).mono ?_; rintro e w' ⟨rfl, rfl⟩))
    refine bodyPost_ret (v := .tuple #[.agg #[.int .i64 0, .int .i64 0, .int .i64 0, .int .i64 0, .int .i64 0], .int .i64 1]) (by simp [results, Try.results16, go_sem, q2]) rfl ⟨rfl, ?_⟩
    exact ((((hB.setCell (by simp <;> omega) _).setCell (by simp <;> omega) _).setCell (by simp <;> omega) _).setCell (by simp <;> omega) _).setCell (by simp <;> omega) _
set_option maxHeartbeats 4000000 in
theorem ref_op2 (p b l a s n : Int) (w : World) (_hn : -9223372036854775808 ≤ n ∧ n ≤ 9223372036854775807) :
    Calls Try.prog 16 #[.agg #[.int .i64 p, .int .i64 b, .int .i64 l, .int .i64 a, .int .i64 s], .int .i64 n, .int .i64 2] w
      fun e w' => e = .returned (.tuple #[.agg #[.int .i64 (dropK p b l a s n).p, .int .i64 (dropK p b l a s n).b, .int .i64 (dropK p b l a s n).l, .int .i64 (dropK p b l a s n).a, .int .i64 (dropK p b l a s n).s], .int .i64 (dropK p b l a s n).e]) ∧ Below w.heap.size w w' := by
  by_cases ho : ok p b l a s
  · have hk := chk_yes ho
    by_cases hs : s = 0
    · have hu : unsE p b l a s = 0 := by unfold unsE; rw [if_pos ho, if_pos hs]
      have hs' : ¬ 0 < s := by omega
      have hd := drop_acc p n ⟨ho.1, ho.2.1⟩
      have hm : dropK p b l a s n = ⟨acc p n 7, b, l, a, s, 0⟩ := by unfold dropK; rw [if_pos hu, hd]
      rw [hm]
      clear hm hu ho hs hd
      go_enter Try.func16, Try.ntmps16
      go_wp2_with (first | (go_at_call 10; refine (ref_check _ _ _ _ _ _).mono ?_; rintro e w' ⟨rfl, hbb⟩; have q1 := (((Box.new _ _ _).alloc _).below hbb).cell; have q2 := ((Box.new1 _ _ _ _).below hbb).cell; have f1 := (((Box.new _ _ _).alloc _).below hbb).free; have f2 := ((Box.new1 _ _ _ _).below hbb).free; have hB := Below.step0 (two _ _) hbb; clear hbb) | (go_at_call 25; refine (ref_outside _ _ _ _).mono ?_; rintro e w' ⟨rfl, rfl⟩))
      go_loop [9, 10, 81] (fun t u i => ∃ j : Nat, j ≤ 7 ∧ i = .int .i64 j ∧ t = .int .i64 (acc p n j)) (fun _ _ i => 7 - (intOf i).toNat)
      case atStart => exact ⟨0, Nat.zero_le _, rfl, rfl⟩
      case round =>
        obtain ⟨j, hj, rfl, rfl⟩ := hrel
        have hab := acc_bd p n j
        by_cases hlt : j < 7
        · have hs2 := acc_succ p n j
          have hpb := acc_bd7 p n j hj
          cases ha : bt p j
          · have na := bit_no p j (by omega) ha
            have he : acc p n (j + 1) = acc p n j := by rw [hs2, ha]; simp
            clear hs2
            have H : Hid (acc p n (j + 1) = acc p n j) := he
            clear he
            go_wp2
            go_round
            case rel => exact ⟨j + 1, by omega, by go_num, by rw [H.out]⟩
            case measure => simp [intOf]; omega
          · have ya := bit_yes p j (by omega) ha
            cases hb2 : bt n j
            · have nb := bit_no n j (by omega) hb2
              have he : acc p n (j + 1) = acc p n j := by rw [hs2, hb2]; simp
              clear hs2
              have H : Hid (acc p n (j + 1) = acc p n j) := he
              clear he
              go_wp2
              go_round
              case rel => exact ⟨j + 1, by omega, by go_num, by rw [H.out]⟩
              case measure => simp [intOf]; omega
            · have yb := bit_yes n j (by omega) hb2
              have hp2 : (0 : Int) < 2 ^ j ∧ (2 : Int) ^ j ≤ 64 := by
                have : ∀ i : Nat, i < 7 → (0 : Int) < 2 ^ i ∧ (2 : Int) ^ i ≤ 64 := by decide
                exact this j hlt
              have he : acc p n (j + 1) = acc p n j + 2 ^ j := by rw [hs2, ha, hb2]; simp
              clear hs2
              have H : Hid (acc p n (j + 1) = acc p n j + 2 ^ j) := he
              clear he
              go_wp2
              go_round
              case rel => exact ⟨j + 1, by omega, by go_num, by rw [H.out]⟩
              case measure => simp [intOf]; omega
        · obtain rfl : j = 7 := by omega
          go_wp2
          refine bodyPost_ret (v := .tuple #[.agg #[.int .i64 (acc p n 7), .int .i64 b, .int .i64 l, .int .i64 a, .int .i64 s], .int .i64 0]) (by simp [results, Try.results16, go_sem, q2]) rfl ⟨rfl, ?_⟩
          exact (((((hB.setCell (by simp <;> omega) _).setCell (by simp <;> omega) _).setCell (by simp <;> omega) _).setCell (by simp <;> omega) _).setCell (by simp <;> omega) _).setCell (by simp <;> omega) _
    · have hu : unsE p b l a s = 11 := by unfold unsE; rw [if_pos ho, if_neg hs]
      have hs' : 0 < s := by have := ok_lit ho; omega
      have hm : dropK p b l a s n = errK 11 := by unfold dropK; rw [hu]; rfl
      rw [hm]
      clear hm hu ho hs
      go_enter Try.func16, Try.ntmps16
      go_wp2_with (first | (go_at_call 10; refine (ref_check _ _ _ _ _ _).mono ?_; rintro e w' ⟨rfl, hbb⟩; have q1 := (((Box.new _ _ _).alloc _).below hbb).cell; have q2 := ((Box.new1 _ _ _ _).below hbb).cell; have f1 := (((Box.new _ _ _).alloc _).below hbb).free; have f2 := ((Box.new1 _ _ _ _).below hbb).free; have hB := Below.step0 (two _ _) hbb; clear hbb) | (go_at_call 25; refine (ref_outside _ _ _ _).mono ?_; rintro e w' ⟨rfl, rfl⟩))
      refine bodyPost_ret (v := .tuple #[.agg #[.int .i64 0, .int .i64 0, .int .i64 0, .int .i64 0, .int .i64 0], .int .i64 11]) (by simp [results, Try.results16, go_sem, q2]) rfl ⟨rfl, ?_⟩
      exact ((((hB.setCell (by simp <;> omega) _).setCell (by simp <;> omega) _).setCell (by simp <;> omega) _).setCell (by simp <;> omega) _).setCell (by simp <;> omega) _
  · have hk := chk_no ho
    have hu : unsE p b l a s = 1 := by unfold unsE; rw [if_neg ho]
    have hm : dropK p b l a s n = errK 1 := by unfold dropK; rw [hu]; rfl
    rw [hm]
    clear hm hu ho
    go_enter Try.func16, Try.ntmps16
    go_wp2_with (first | (go_at_call 10; refine (ref_check _ _ _ _ _ _).mono ?_; rintro e w' ⟨rfl, hbb⟩; have q1 := (((Box.new _ _ _).alloc _).below hbb).cell; have q2 := ((Box.new1 _ _ _ _).below hbb).cell; have f1 := (((Box.new _ _ _).alloc _).below hbb).free; have f2 := ((Box.new1 _ _ _ _).below hbb).free; have hB := Below.step0 (two _ _) hbb; clear hbb) | (go_at_call 25; refine (ref_outside _ _ _ _).mono ?_; rintro e w' ⟨rfl, rfl⟩))
    refine bodyPost_ret (v := .tuple #[.agg #[.int .i64 0, .int .i64 0, .int .i64 0, .int .i64 0, .int .i64 0], .int .i64 1]) (by simp [results, Try.results16, go_sem, q2]) rfl ⟨rfl, ?_⟩
    exact ((((hB.setCell (by simp <;> omega) _).setCell (by simp <;> omega) _).setCell (by simp <;> omega) _).setCell (by simp <;> omega) _).setCell (by simp <;> omega) _
def opK (p b l a s n k : Int) : KK := if k = 0 then moveK p b l a s n else if k = 1 then narrowK p b l a s n else dropK p b l a s n
theorem ref_op (p b l a s n k : Int) (w : World) (hn : -9223372036854775808 ≤ n ∧ n ≤ 9223372036854775807) (hk : 0 ≤ k ∧ k ≤ 2) :
    Calls Try.prog 16 #[.agg #[.int .i64 p, .int .i64 b, .int .i64 l, .int .i64 a, .int .i64 s], .int .i64 n, .int .i64 k] w
      fun e w' => e = .returned (.tuple #[.agg #[.int .i64 (opK p b l a s n k).p, .int .i64 (opK p b l a s n k).b, .int .i64 (opK p b l a s n k).l, .int .i64 (opK p b l a s n k).a, .int .i64 (opK p b l a s n k).s], .int .i64 (opK p b l a s n k).e]) ∧ Below w.heap.size w w' := by
  unfold opK
  by_cases h0 : k = 0
  · subst h0; exact ref_op0 p b l a s n w hn
  · by_cases h1 : k = 1
    · subst h1; exact ref_op1 p b l a s n w hn
    · obtain rfl : k = 2 := by omega
      exact ref_op2 p b l a s n w hn
set_option maxHeartbeats 4000000 in
theorem ref_seal (p b l a s p' b' l' a' s' : Int) (w : World) (hb' : kb p' b' l' a' s') :
    Calls Try.prog 20 #[.agg #[.int .i64 p, .int .i64 b, .int .i64 l, .int .i64 a, .int .i64 s], .agg #[.int .i64 p', .int .i64 b', .int .i64 l', .int .i64 a', .int .i64 s'], .bool true] w
      fun e w' => e = .returned (.tuple #[.agg #[.int .i64 (sealK p b l a s p' b' l' a' s').p, .int .i64 (sealK p b l a s p' b' l' a' s').b, .int .i64 (sealK p b l a s p' b' l' a' s').l, .int .i64 (sealK p b l a s p' b' l' a' s').a, .int .i64 (sealK p b l a s p' b' l' a' s').s], .int .i64 (sealK p b l a s p' b' l' a' s').e]) ∧ Below w.heap.size w w' := by
  have ha' := hb'.2.2.2.1
  by_cases ho : ok p b l a s
  · have hk := chk_yes ho
    by_cases ho' : ok p' b' l' a' s'
    · have hk' := chk_yes ho'
      have sb : 0 ≤ s ∧ 0 ≤ s' := by have := ok_lit ho; have := ok_lit ho'; omega
      by_cases hs : s = 0
      · have s1 : decide (0 < s) = false := by rw [decide_eq_false_iff_not]; omega
        by_cases hs' : s' = 0
        · have s2 : ¬ 0 < s' := by omega
          cases hi : inB 32 p'
          · have hy : mayE p' b' l' a' s' 32 = 12 := by unfold mayE; rw [if_pos hs', hi]; rfl
            have hm : sealK p b l a s p' b' l' a' s' = errK 12 := by unfold sealK; rw [if_pos ⟨ho, ho'⟩, if_pos hs, hy]; rfl
            rw [hm]
            clear hm hy ho ho' hs hs' sb
            go_enter Try.func20, Try.ntmps20
            go_wp2_with (first | (go_at_call 10; refine (ref_check _ _ _ _ _ _).mono ?_; rintro e w' ⟨rfl, hbb⟩; first | (replace B1 := B1.below hbb; replace B2 := B2.below hbb; replace B3 := B3.below hbb; clear q1 q2 q3 f1 f3; have q1 := B1.cell; have q2 := B2.cell; have q3 := B3.cell; have f1 := B1.free; have f3 := B3.free; replace hB := Below.step0 hB hbb; clear hbb) | (have B1 := (((Box.new _ _ _).alloc _).alloc _).below hbb; have B2 := ((Box.new1 _ _ _ _).alloc _).below hbb; have B3 := (Box.new2 _ _ _ _ _).below hbb; have q1 := B1.cell; have q2 := B2.cell; have q3 := B3.cell; have f1 := B1.free; have f3 := B3.free; have hB := Below.step0 (three _ _ _) hbb; clear hbb)) | (go_at_call 12; refine (ref_covers _ _ _ _ _ _ _ hb' ha').mono ?_; rintro e w' ⟨rfl, hbb⟩; first | (replace B1 := B1.below hbb; replace B2 := B2.below hbb; replace B3 := B3.below hbb; clear q1 q2 q3 f1 f3; have q1 := B1.cell; have q2 := B2.cell; have q3 := B3.cell; have f1 := B1.free; have f3 := B3.free; replace hB := Below.step0 hB hbb; clear hbb) | (have B1 := (((Box.new _ _ _).alloc _).alloc _).below hbb; have B2 := ((Box.new1 _ _ _ _).alloc _).below hbb; have B3 := (Box.new2 _ _ _ _ _).below hbb; have q1 := B1.cell; have q2 := B2.cell; have q3 := B3.cell; have f1 := B1.free; have f3 := B3.free; have hB := Below.step0 (three _ _ _) hbb; clear hbb)) | (go_at_call 28; refine (ref_within _ _ _).mono ?_; rintro e w' ⟨rfl, rfl⟩) | (go_at_call 25; refine (ref_outside _ _ _ _).mono ?_; rintro e w' ⟨rfl, rfl⟩))
            refine bodyPost_ret (v := .tuple #[.agg #[.int .i64 0, .int .i64 0, .int .i64 0, .int .i64 0, .int .i64 0], .int .i64 12]) (by simp [results, Try.results20, go_sem, q3]) rfl ⟨rfl, ?_⟩
            exact ((((hB.setCell (by simp <;> omega) _).setCell (by simp <;> omega) _).setCell (by simp <;> omega) _).setCell (by simp <;> omega) _).setCell (by simp <;> omega) _
          · cases hc : covB b' l' a'
            · have hy : mayE p' b' l' a' s' 32 = 13 := by unfold mayE; rw [if_pos hs', hi, hc]; rfl
              have hm : sealK p b l a s p' b' l' a' s' = errK 13 := by unfold sealK; rw [if_pos ⟨ho, ho'⟩, if_pos hs, hy]; rfl
              rw [hm]
              clear hm hy ho ho' hs hs' sb
              go_enter Try.func20, Try.ntmps20
              go_wp2_with (first | (go_at_call 10; refine (ref_check _ _ _ _ _ _).mono ?_; rintro e w' ⟨rfl, hbb⟩; first | (replace B1 := B1.below hbb; replace B2 := B2.below hbb; replace B3 := B3.below hbb; clear q1 q2 q3 f1 f3; have q1 := B1.cell; have q2 := B2.cell; have q3 := B3.cell; have f1 := B1.free; have f3 := B3.free; replace hB := Below.step0 hB hbb; clear hbb) | (have B1 := (((Box.new _ _ _).alloc _).alloc _).below hbb; have B2 := ((Box.new1 _ _ _ _).alloc _).below hbb; have B3 := (Box.new2 _ _ _ _ _).below hbb; have q1 := B1.cell; have q2 := B2.cell; have q3 := B3.cell; have f1 := B1.free; have f3 := B3.free; have hB := Below.step0 (three _ _ _) hbb; clear hbb)) | (go_at_call 12; refine (ref_covers _ _ _ _ _ _ _ hb' ha').mono ?_; rintro e w' ⟨rfl, hbb⟩; first | (replace B1 := B1.below hbb; replace B2 := B2.below hbb; replace B3 := B3.below hbb; clear q1 q2 q3 f1 f3; have q1 := B1.cell; have q2 := B2.cell; have q3 := B3.cell; have f1 := B1.free; have f3 := B3.free; replace hB := Below.step0 hB hbb; clear hbb) | (have B1 := (((Box.new _ _ _).alloc _).alloc _).below hbb; have B2 := ((Box.new1 _ _ _ _).alloc _).below hbb; have B3 := (Box.new2 _ _ _ _ _).below hbb; have q1 := B1.cell; have q2 := B2.cell; have q3 := B3.cell; have f1 := B1.free; have f3 := B3.free; have hB := Below.step0 (three _ _ _) hbb; clear hbb)) | (go_at_call 28; refine (ref_within _ _ _).mono ?_; rintro e w' ⟨rfl, rfl⟩) | (go_at_call 25; refine (ref_outside _ _ _ _).mono ?_; rintro e w' ⟨rfl, rfl⟩))
              refine bodyPost_ret (v := .tuple #[.agg #[.int .i64 0, .int .i64 0, .int .i64 0, .int .i64 0, .int .i64 0], .int .i64 13]) (by simp [results, Try.results20, go_sem, q3]) rfl ⟨rfl, ?_⟩
              exact ((((hB.setCell (by simp <;> omega) _).setCell (by simp <;> omega) _).setCell (by simp <;> omega) _).setCell (by simp <;> omega) _).setCell (by simp <;> omega) _
            · have hy : mayE p' b' l' a' s' 32 = 0 := by unfold mayE; rw [if_pos hs', hi, hc]; rfl
              by_cases hn : 1 ≤ a' ∧ a' ≤ 63
              · have g : outB a' 1 63 = false := by unfold outB; rw [decide_eq_false_iff_not]; omega
                have hm : sealK p b l a s p' b' l' a' s' = ⟨p, b, l, a, a', 0⟩ := by unfold sealK; rw [if_pos ⟨ho, ho'⟩, if_pos hs, if_pos hy, if_pos hn]
                rw [hm]
                clear hm hy ho ho' hs hs' sb
                go_enter Try.func20, Try.ntmps20
                go_wp2_with (first | (go_at_call 10; refine (ref_check _ _ _ _ _ _).mono ?_; rintro e w' ⟨rfl, hbb⟩; first | (replace B1 := B1.below hbb; replace B2 := B2.below hbb; replace B3 := B3.below hbb; clear q1 q2 q3 f1 f3; have q1 := B1.cell; have q2 := B2.cell; have q3 := B3.cell; have f1 := B1.free; have f3 := B3.free; replace hB := Below.step0 hB hbb; clear hbb) | (have B1 := (((Box.new _ _ _).alloc _).alloc _).below hbb; have B2 := ((Box.new1 _ _ _ _).alloc _).below hbb; have B3 := (Box.new2 _ _ _ _ _).below hbb; have q1 := B1.cell; have q2 := B2.cell; have q3 := B3.cell; have f1 := B1.free; have f3 := B3.free; have hB := Below.step0 (three _ _ _) hbb; clear hbb)) | (go_at_call 12; refine (ref_covers _ _ _ _ _ _ _ hb' ha').mono ?_; rintro e w' ⟨rfl, hbb⟩; first | (replace B1 := B1.below hbb; replace B2 := B2.below hbb; replace B3 := B3.below hbb; clear q1 q2 q3 f1 f3; have q1 := B1.cell; have q2 := B2.cell; have q3 := B3.cell; have f1 := B1.free; have f3 := B3.free; replace hB := Below.step0 hB hbb; clear hbb) | (have B1 := (((Box.new _ _ _).alloc _).alloc _).below hbb; have B2 := ((Box.new1 _ _ _ _).alloc _).below hbb; have B3 := (Box.new2 _ _ _ _ _).below hbb; have q1 := B1.cell; have q2 := B2.cell; have q3 := B3.cell; have f1 := B1.free; have f3 := B3.free; have hB := Below.step0 (three _ _ _) hbb; clear hbb)) | (go_at_call 28; refine (ref_within _ _ _).mono ?_; rintro e w' ⟨rfl, rfl⟩) | (go_at_call 25; refine (ref_outside _ _ _ _).mono ?_; rintro e w' ⟨rfl, rfl⟩))
                refine bodyPost_ret (v := .tuple #[.agg #[.int .i64 p, .int .i64 b, .int .i64 l, .int .i64 a, .int .i64 a'], .int .i64 0]) (by simp [results, Try.results20, go_sem, q3]) rfl ⟨rfl, ?_⟩
                exact ((((((hB.setCell (by simp <;> omega) _).setCell (by simp <;> omega) _).setCell (by simp <;> omega) _).setCell (by simp <;> omega) _).setCell (by simp <;> omega) _).setCell (by simp <;> omega) _).setCell (by simp <;> omega) _
              · have g : outB a' 1 63 = true := by unfold outB; rw [decide_eq_true_eq]; omega
                have hm : sealK p b l a s p' b' l' a' s' = errK 13 := by unfold sealK; rw [if_pos ⟨ho, ho'⟩, if_pos hs, if_pos hy, if_neg hn]
                rw [hm]
                clear hm hy ho ho' hs hs' sb hn
                go_enter Try.func20, Try.ntmps20
                go_wp2_with (first | (go_at_call 10; refine (ref_check _ _ _ _ _ _).mono ?_; rintro e w' ⟨rfl, hbb⟩; first | (replace B1 := B1.below hbb; replace B2 := B2.below hbb; replace B3 := B3.below hbb; clear q1 q2 q3 f1 f3; have q1 := B1.cell; have q2 := B2.cell; have q3 := B3.cell; have f1 := B1.free; have f3 := B3.free; replace hB := Below.step0 hB hbb; clear hbb) | (have B1 := (((Box.new _ _ _).alloc _).alloc _).below hbb; have B2 := ((Box.new1 _ _ _ _).alloc _).below hbb; have B3 := (Box.new2 _ _ _ _ _).below hbb; have q1 := B1.cell; have q2 := B2.cell; have q3 := B3.cell; have f1 := B1.free; have f3 := B3.free; have hB := Below.step0 (three _ _ _) hbb; clear hbb)) | (go_at_call 12; refine (ref_covers _ _ _ _ _ _ _ hb' ha').mono ?_; rintro e w' ⟨rfl, hbb⟩; first | (replace B1 := B1.below hbb; replace B2 := B2.below hbb; replace B3 := B3.below hbb; clear q1 q2 q3 f1 f3; have q1 := B1.cell; have q2 := B2.cell; have q3 := B3.cell; have f1 := B1.free; have f3 := B3.free; replace hB := Below.step0 hB hbb; clear hbb) | (have B1 := (((Box.new _ _ _).alloc _).alloc _).below hbb; have B2 := ((Box.new1 _ _ _ _).alloc _).below hbb; have B3 := (Box.new2 _ _ _ _ _).below hbb; have q1 := B1.cell; have q2 := B2.cell; have q3 := B3.cell; have f1 := B1.free; have f3 := B3.free; have hB := Below.step0 (three _ _ _) hbb; clear hbb)) | (go_at_call 28; refine (ref_within _ _ _).mono ?_; rintro e w' ⟨rfl, rfl⟩) | (go_at_call 25; refine (ref_outside _ _ _ _).mono ?_; rintro e w' ⟨rfl, rfl⟩))
                refine bodyPost_ret (v := .tuple #[.agg #[.int .i64 0, .int .i64 0, .int .i64 0, .int .i64 0, .int .i64 0], .int .i64 13]) (by simp [results, Try.results20, go_sem, q3]) rfl ⟨rfl, ?_⟩
                exact ((((hB.setCell (by simp <;> omega) _).setCell (by simp <;> omega) _).setCell (by simp <;> omega) _).setCell (by simp <;> omega) _).setCell (by simp <;> omega) _
        · have s2 : 0 < s' := by omega
          have hy : mayE p' b' l' a' s' 32 = 11 := by unfold mayE; rw [if_neg hs']
          have hm : sealK p b l a s p' b' l' a' s' = errK 11 := by unfold sealK; rw [if_pos ⟨ho, ho'⟩, if_pos hs, hy]; rfl
          rw [hm]
          clear hm hy ho ho' hs hs' sb
          go_enter Try.func20, Try.ntmps20
          go_wp2_with (first | (go_at_call 10; refine (ref_check _ _ _ _ _ _).mono ?_; rintro e w' ⟨rfl, hbb⟩; first | (replace B1 := B1.below hbb; replace B2 := B2.below hbb; replace B3 := B3.below hbb; clear q1 q2 q3 f1 f3; have q1 := B1.cell; have q2 := B2.cell; have q3 := B3.cell; have f1 := B1.free; have f3 := B3.free; replace hB := Below.step0 hB hbb; clear hbb) | (have B1 := (((Box.new _ _ _).alloc _).alloc _).below hbb; have B2 := ((Box.new1 _ _ _ _).alloc _).below hbb; have B3 := (Box.new2 _ _ _ _ _).below hbb; have q1 := B1.cell; have q2 := B2.cell; have q3 := B3.cell; have f1 := B1.free; have f3 := B3.free; have hB := Below.step0 (three _ _ _) hbb; clear hbb)) | (go_at_call 12; refine (ref_covers _ _ _ _ _ _ _ hb' ha').mono ?_; rintro e w' ⟨rfl, hbb⟩; first | (replace B1 := B1.below hbb; replace B2 := B2.below hbb; replace B3 := B3.below hbb; clear q1 q2 q3 f1 f3; have q1 := B1.cell; have q2 := B2.cell; have q3 := B3.cell; have f1 := B1.free; have f3 := B3.free; replace hB := Below.step0 hB hbb; clear hbb) | (have B1 := (((Box.new _ _ _).alloc _).alloc _).below hbb; have B2 := ((Box.new1 _ _ _ _).alloc _).below hbb; have B3 := (Box.new2 _ _ _ _ _).below hbb; have q1 := B1.cell; have q2 := B2.cell; have q3 := B3.cell; have f1 := B1.free; have f3 := B3.free; have hB := Below.step0 (three _ _ _) hbb; clear hbb)) | (go_at_call 28; refine (ref_within _ _ _).mono ?_; rintro e w' ⟨rfl, rfl⟩) | (go_at_call 25; refine (ref_outside _ _ _ _).mono ?_; rintro e w' ⟨rfl, rfl⟩))
          refine bodyPost_ret (v := .tuple #[.agg #[.int .i64 0, .int .i64 0, .int .i64 0, .int .i64 0, .int .i64 0], .int .i64 11]) (by simp [results, Try.results20, go_sem, q3]) rfl ⟨rfl, ?_⟩
          exact ((((hB.setCell (by simp <;> omega) _).setCell (by simp <;> omega) _).setCell (by simp <;> omega) _).setCell (by simp <;> omega) _).setCell (by simp <;> omega) _
      · have s1 : decide (0 < s) = true := by rw [decide_eq_true_eq]; omega
        have hm : sealK p b l a s p' b' l' a' s' = errK 11 := by unfold sealK; rw [if_pos ⟨ho, ho'⟩, if_neg hs]
        rw [hm]
        clear hm ho ho' hs sb
        go_enter Try.func20, Try.ntmps20
        go_wp2_with (first | (go_at_call 10; refine (ref_check _ _ _ _ _ _).mono ?_; rintro e w' ⟨rfl, hbb⟩; first | (replace B1 := B1.below hbb; replace B2 := B2.below hbb; replace B3 := B3.below hbb; clear q1 q2 q3 f1 f3; have q1 := B1.cell; have q2 := B2.cell; have q3 := B3.cell; have f1 := B1.free; have f3 := B3.free; replace hB := Below.step0 hB hbb; clear hbb) | (have B1 := (((Box.new _ _ _).alloc _).alloc _).below hbb; have B2 := ((Box.new1 _ _ _ _).alloc _).below hbb; have B3 := (Box.new2 _ _ _ _ _).below hbb; have q1 := B1.cell; have q2 := B2.cell; have q3 := B3.cell; have f1 := B1.free; have f3 := B3.free; have hB := Below.step0 (three _ _ _) hbb; clear hbb)) | (go_at_call 12; refine (ref_covers _ _ _ _ _ _ _ hb' ha').mono ?_; rintro e w' ⟨rfl, hbb⟩; first | (replace B1 := B1.below hbb; replace B2 := B2.below hbb; replace B3 := B3.below hbb; clear q1 q2 q3 f1 f3; have q1 := B1.cell; have q2 := B2.cell; have q3 := B3.cell; have f1 := B1.free; have f3 := B3.free; replace hB := Below.step0 hB hbb; clear hbb) | (have B1 := (((Box.new _ _ _).alloc _).alloc _).below hbb; have B2 := ((Box.new1 _ _ _ _).alloc _).below hbb; have B3 := (Box.new2 _ _ _ _ _).below hbb; have q1 := B1.cell; have q2 := B2.cell; have q3 := B3.cell; have f1 := B1.free; have f3 := B3.free; have hB := Below.step0 (three _ _ _) hbb; clear hbb)) | (go_at_call 28; refine (ref_within _ _ _).mono ?_; rintro e w' ⟨rfl, rfl⟩) | (go_at_call 25; refine (ref_outside _ _ _ _).mono ?_; rintro e w' ⟨rfl, rfl⟩))
        refine bodyPost_ret (v := .tuple #[.agg #[.int .i64 0, .int .i64 0, .int .i64 0, .int .i64 0, .int .i64 0], .int .i64 11]) (by simp [results, Try.results20, go_sem, q3]) rfl ⟨rfl, ?_⟩
        exact ((((hB.setCell (by simp <;> omega) _).setCell (by simp <;> omega) _).setCell (by simp <;> omega) _).setCell (by simp <;> omega) _).setCell (by simp <;> omega) _
    · have hk' := chk_no ho'
      have hm : sealK p b l a s p' b' l' a' s' = errK 1 := by unfold sealK; rw [if_neg (fun h => ho' h.2)]
      rw [hm]
      clear hm ho ho'
      go_enter Try.func20, Try.ntmps20
      go_wp2_with (first | (go_at_call 10; refine (ref_check _ _ _ _ _ _).mono ?_; rintro e w' ⟨rfl, hbb⟩; first | (replace B1 := B1.below hbb; replace B2 := B2.below hbb; replace B3 := B3.below hbb; clear q1 q2 q3 f1 f3; have q1 := B1.cell; have q2 := B2.cell; have q3 := B3.cell; have f1 := B1.free; have f3 := B3.free; replace hB := Below.step0 hB hbb; clear hbb) | (have B1 := (((Box.new _ _ _).alloc _).alloc _).below hbb; have B2 := ((Box.new1 _ _ _ _).alloc _).below hbb; have B3 := (Box.new2 _ _ _ _ _).below hbb; have q1 := B1.cell; have q2 := B2.cell; have q3 := B3.cell; have f1 := B1.free; have f3 := B3.free; have hB := Below.step0 (three _ _ _) hbb; clear hbb)) | (go_at_call 12; refine (ref_covers _ _ _ _ _ _ _ hb' ha').mono ?_; rintro e w' ⟨rfl, hbb⟩; first | (replace B1 := B1.below hbb; replace B2 := B2.below hbb; replace B3 := B3.below hbb; clear q1 q2 q3 f1 f3; have q1 := B1.cell; have q2 := B2.cell; have q3 := B3.cell; have f1 := B1.free; have f3 := B3.free; replace hB := Below.step0 hB hbb; clear hbb) | (have B1 := (((Box.new _ _ _).alloc _).alloc _).below hbb; have B2 := ((Box.new1 _ _ _ _).alloc _).below hbb; have B3 := (Box.new2 _ _ _ _ _).below hbb; have q1 := B1.cell; have q2 := B2.cell; have q3 := B3.cell; have f1 := B1.free; have f3 := B3.free; have hB := Below.step0 (three _ _ _) hbb; clear hbb)) | (go_at_call 28; refine (ref_within _ _ _).mono ?_; rintro e w' ⟨rfl, rfl⟩) | (go_at_call 25; refine (ref_outside _ _ _ _).mono ?_; rintro e w' ⟨rfl, rfl⟩))
      refine bodyPost_ret (v := .tuple #[.agg #[.int .i64 0, .int .i64 0, .int .i64 0, .int .i64 0, .int .i64 0], .int .i64 1]) (by simp [results, Try.results20, go_sem, q3]) rfl ⟨rfl, ?_⟩
      exact ((((hB.setCell (by simp <;> omega) _).setCell (by simp <;> omega) _).setCell (by simp <;> omega) _).setCell (by simp <;> omega) _).setCell (by simp <;> omega) _
  · have hk := chk_no ho
    have hm : sealK p b l a s p' b' l' a' s' = errK 1 := by unfold sealK; rw [if_neg (fun h => ho h.1)]
    rw [hm]
    clear hm ho
    go_enter Try.func20, Try.ntmps20
    go_wp2_with (first | (go_at_call 10; refine (ref_check _ _ _ _ _ _).mono ?_; rintro e w' ⟨rfl, hbb⟩; first | (replace B1 := B1.below hbb; replace B2 := B2.below hbb; replace B3 := B3.below hbb; clear q1 q2 q3 f1 f3; have q1 := B1.cell; have q2 := B2.cell; have q3 := B3.cell; have f1 := B1.free; have f3 := B3.free; replace hB := Below.step0 hB hbb; clear hbb) | (have B1 := (((Box.new _ _ _).alloc _).alloc _).below hbb; have B2 := ((Box.new1 _ _ _ _).alloc _).below hbb; have B3 := (Box.new2 _ _ _ _ _).below hbb; have q1 := B1.cell; have q2 := B2.cell; have q3 := B3.cell; have f1 := B1.free; have f3 := B3.free; have hB := Below.step0 (three _ _ _) hbb; clear hbb)) | (go_at_call 12; refine (ref_covers _ _ _ _ _ _ _ hb' ha').mono ?_; rintro e w' ⟨rfl, hbb⟩; first | (replace B1 := B1.below hbb; replace B2 := B2.below hbb; replace B3 := B3.below hbb; clear q1 q2 q3 f1 f3; have q1 := B1.cell; have q2 := B2.cell; have q3 := B3.cell; have f1 := B1.free; have f3 := B3.free; replace hB := Below.step0 hB hbb; clear hbb) | (have B1 := (((Box.new _ _ _).alloc _).alloc _).below hbb; have B2 := ((Box.new1 _ _ _ _).alloc _).below hbb; have B3 := (Box.new2 _ _ _ _ _).below hbb; have q1 := B1.cell; have q2 := B2.cell; have q3 := B3.cell; have f1 := B1.free; have f3 := B3.free; have hB := Below.step0 (three _ _ _) hbb; clear hbb)) | (go_at_call 28; refine (ref_within _ _ _).mono ?_; rintro e w' ⟨rfl, rfl⟩) | (go_at_call 25; refine (ref_outside _ _ _ _).mono ?_; rintro e w' ⟨rfl, rfl⟩))
    refine bodyPost_ret (v := .tuple #[.agg #[.int .i64 0, .int .i64 0, .int .i64 0, .int .i64 0, .int .i64 0], .int .i64 1]) (by simp [results, Try.results20, go_sem, q3]) rfl ⟨rfl, ?_⟩
    exact ((((hB.setCell (by simp <;> omega) _).setCell (by simp <;> omega) _).setCell (by simp <;> omega) _).setCell (by simp <;> omega) _).setCell (by simp <;> omega) _
set_option maxHeartbeats 4000000 in
theorem ref_open (p b l a s p' b' l' a' s' : Int) (w : World) (hb' : kb p' b' l' a' s') :
    Calls Try.prog 20 #[.agg #[.int .i64 p, .int .i64 b, .int .i64 l, .int .i64 a, .int .i64 s], .agg #[.int .i64 p', .int .i64 b', .int .i64 l', .int .i64 a', .int .i64 s'], .bool false] w
      fun e w' => e = .returned (.tuple #[.agg #[.int .i64 (openK p b l a s p' b' l' a' s').p, .int .i64 (openK p b l a s p' b' l' a' s').b, .int .i64 (openK p b l a s p' b' l' a' s').l, .int .i64 (openK p b l a s p' b' l' a' s').a, .int .i64 (openK p b l a s p' b' l' a' s').s], .int .i64 (openK p b l a s p' b' l' a' s').e]) ∧ Below w.heap.size w w' := by
  have ha' := hb'.2.2.2.1
  by_cases ho : ok p b l a s
  · have hk := chk_yes ho
    by_cases ho' : ok p' b' l' a' s'
    · have hk' := chk_yes ho'
      have sb : 0 ≤ s ∧ 0 ≤ s' := by have := ok_lit ho; have := ok_lit ho'; omega
      by_cases hs : s = 0
      · have s1 : decide (0 < s) = false := by rw [decide_eq_false_iff_not]; omega
        have hm : openK p b l a s p' b' l' a' s' = errK 11 := by unfold openK; rw [if_pos ⟨ho, ho'⟩, if_pos hs]
        rw [hm]
        clear hm ho ho' hs sb
        go_enter Try.func20, Try.ntmps20
        go_wp2_with (first | (go_at_call 10; refine (ref_check _ _ _ _ _ _).mono ?_; rintro e w' ⟨rfl, hbb⟩; first | (replace B1 := B1.below hbb; replace B2 := B2.below hbb; replace B3 := B3.below hbb; clear q1 q2 q3 f1 f3; have q1 := B1.cell; have q2 := B2.cell; have q3 := B3.cell; have f1 := B1.free; have f3 := B3.free; replace hB := Below.step0 hB hbb; clear hbb) | (have B1 := (((Box.new _ _ _).alloc _).alloc _).below hbb; have B2 := ((Box.new1 _ _ _ _).alloc _).below hbb; have B3 := (Box.new2 _ _ _ _ _).below hbb; have q1 := B1.cell; have q2 := B2.cell; have q3 := B3.cell; have f1 := B1.free; have f3 := B3.free; have hB := Below.step0 (three _ _ _) hbb; clear hbb)) | (go_at_call 12; refine (ref_covers _ _ _ _ _ _ _ hb' ha').mono ?_; rintro e w' ⟨rfl, hbb⟩; first | (replace B1 := B1.below hbb; replace B2 := B2.below hbb; replace B3 := B3.below hbb; clear q1 q2 q3 f1 f3; have q1 := B1.cell; have q2 := B2.cell; have q3 := B3.cell; have f1 := B1.free; have f3 := B3.free; replace hB := Below.step0 hB hbb; clear hbb) | (have B1 := (((Box.new _ _ _).alloc _).alloc _).below hbb; have B2 := ((Box.new1 _ _ _ _).alloc _).below hbb; have B3 := (Box.new2 _ _ _ _ _).below hbb; have q1 := B1.cell; have q2 := B2.cell; have q3 := B3.cell; have f1 := B1.free; have f3 := B3.free; have hB := Below.step0 (three _ _ _) hbb; clear hbb)) | (go_at_call 28; refine (ref_within _ _ _).mono ?_; rintro e w' ⟨rfl, rfl⟩) | (go_at_call 25; refine (ref_outside _ _ _ _).mono ?_; rintro e w' ⟨rfl, rfl⟩))
        refine bodyPost_ret (v := .tuple #[.agg #[.int .i64 0, .int .i64 0, .int .i64 0, .int .i64 0, .int .i64 0], .int .i64 11]) (by simp [results, Try.results20, go_sem, q3]) rfl ⟨rfl, ?_⟩
        exact ((((hB.setCell (by simp <;> omega) _).setCell (by simp <;> omega) _).setCell (by simp <;> omega) _).setCell (by simp <;> omega) _).setCell (by simp <;> omega) _
      · have s1 : decide (0 < s) = true := by rw [decide_eq_true_eq]; omega
        by_cases hs' : s' = 0
        · have s2 : ¬ 0 < s' := by omega
          cases hi : inB 64 p'
          · have hy : mayE p' b' l' a' s' 64 = 12 := by unfold mayE; rw [if_pos hs', hi]; rfl
            have hm : openK p b l a s p' b' l' a' s' = errK 12 := by unfold openK; rw [if_pos ⟨ho, ho'⟩, if_neg hs, hy]; rfl
            rw [hm]
            clear hm hy ho ho' hs hs' sb
            go_enter Try.func20, Try.ntmps20
            go_wp2_with (first | (go_at_call 10; refine (ref_check _ _ _ _ _ _).mono ?_; rintro e w' ⟨rfl, hbb⟩; first | (replace B1 := B1.below hbb; replace B2 := B2.below hbb; replace B3 := B3.below hbb; clear q1 q2 q3 f1 f3; have q1 := B1.cell; have q2 := B2.cell; have q3 := B3.cell; have f1 := B1.free; have f3 := B3.free; replace hB := Below.step0 hB hbb; clear hbb) | (have B1 := (((Box.new _ _ _).alloc _).alloc _).below hbb; have B2 := ((Box.new1 _ _ _ _).alloc _).below hbb; have B3 := (Box.new2 _ _ _ _ _).below hbb; have q1 := B1.cell; have q2 := B2.cell; have q3 := B3.cell; have f1 := B1.free; have f3 := B3.free; have hB := Below.step0 (three _ _ _) hbb; clear hbb)) | (go_at_call 12; refine (ref_covers _ _ _ _ _ _ _ hb' ha').mono ?_; rintro e w' ⟨rfl, hbb⟩; first | (replace B1 := B1.below hbb; replace B2 := B2.below hbb; replace B3 := B3.below hbb; clear q1 q2 q3 f1 f3; have q1 := B1.cell; have q2 := B2.cell; have q3 := B3.cell; have f1 := B1.free; have f3 := B3.free; replace hB := Below.step0 hB hbb; clear hbb) | (have B1 := (((Box.new _ _ _).alloc _).alloc _).below hbb; have B2 := ((Box.new1 _ _ _ _).alloc _).below hbb; have B3 := (Box.new2 _ _ _ _ _).below hbb; have q1 := B1.cell; have q2 := B2.cell; have q3 := B3.cell; have f1 := B1.free; have f3 := B3.free; have hB := Below.step0 (three _ _ _) hbb; clear hbb)) | (go_at_call 28; refine (ref_within _ _ _).mono ?_; rintro e w' ⟨rfl, rfl⟩) | (go_at_call 25; refine (ref_outside _ _ _ _).mono ?_; rintro e w' ⟨rfl, rfl⟩))
            refine bodyPost_ret (v := .tuple #[.agg #[.int .i64 0, .int .i64 0, .int .i64 0, .int .i64 0, .int .i64 0], .int .i64 12]) (by simp [results, Try.results20, go_sem, q3]) rfl ⟨rfl, ?_⟩
            exact ((((hB.setCell (by simp <;> omega) _).setCell (by simp <;> omega) _).setCell (by simp <;> omega) _).setCell (by simp <;> omega) _).setCell (by simp <;> omega) _
          · cases hc : covB b' l' a'
            · have hy : mayE p' b' l' a' s' 64 = 13 := by unfold mayE; rw [if_pos hs', hi, hc]; rfl
              have hm : openK p b l a s p' b' l' a' s' = errK 13 := by unfold openK; rw [if_pos ⟨ho, ho'⟩, if_neg hs, hy]; rfl
              rw [hm]
              clear hm hy ho ho' hs hs' sb
              go_enter Try.func20, Try.ntmps20
              go_wp2_with (first | (go_at_call 10; refine (ref_check _ _ _ _ _ _).mono ?_; rintro e w' ⟨rfl, hbb⟩; first | (replace B1 := B1.below hbb; replace B2 := B2.below hbb; replace B3 := B3.below hbb; clear q1 q2 q3 f1 f3; have q1 := B1.cell; have q2 := B2.cell; have q3 := B3.cell; have f1 := B1.free; have f3 := B3.free; replace hB := Below.step0 hB hbb; clear hbb) | (have B1 := (((Box.new _ _ _).alloc _).alloc _).below hbb; have B2 := ((Box.new1 _ _ _ _).alloc _).below hbb; have B3 := (Box.new2 _ _ _ _ _).below hbb; have q1 := B1.cell; have q2 := B2.cell; have q3 := B3.cell; have f1 := B1.free; have f3 := B3.free; have hB := Below.step0 (three _ _ _) hbb; clear hbb)) | (go_at_call 12; refine (ref_covers _ _ _ _ _ _ _ hb' ha').mono ?_; rintro e w' ⟨rfl, hbb⟩; first | (replace B1 := B1.below hbb; replace B2 := B2.below hbb; replace B3 := B3.below hbb; clear q1 q2 q3 f1 f3; have q1 := B1.cell; have q2 := B2.cell; have q3 := B3.cell; have f1 := B1.free; have f3 := B3.free; replace hB := Below.step0 hB hbb; clear hbb) | (have B1 := (((Box.new _ _ _).alloc _).alloc _).below hbb; have B2 := ((Box.new1 _ _ _ _).alloc _).below hbb; have B3 := (Box.new2 _ _ _ _ _).below hbb; have q1 := B1.cell; have q2 := B2.cell; have q3 := B3.cell; have f1 := B1.free; have f3 := B3.free; have hB := Below.step0 (three _ _ _) hbb; clear hbb)) | (go_at_call 28; refine (ref_within _ _ _).mono ?_; rintro e w' ⟨rfl, rfl⟩) | (go_at_call 25; refine (ref_outside _ _ _ _).mono ?_; rintro e w' ⟨rfl, rfl⟩))
              refine bodyPost_ret (v := .tuple #[.agg #[.int .i64 0, .int .i64 0, .int .i64 0, .int .i64 0, .int .i64 0], .int .i64 13]) (by simp [results, Try.results20, go_sem, q3]) rfl ⟨rfl, ?_⟩
              exact ((((hB.setCell (by simp <;> omega) _).setCell (by simp <;> omega) _).setCell (by simp <;> omega) _).setCell (by simp <;> omega) _).setCell (by simp <;> omega) _
            · have hy : mayE p' b' l' a' s' 64 = 0 := by unfold mayE; rw [if_pos hs', hi, hc]; rfl
              by_cases hn : s = a'
              · have g : (a' != s) = false := by simp [hn]
                have hm : openK p b l a s p' b' l' a' s' = ⟨p, b, l, a, 0, 0⟩ := by unfold openK; rw [if_pos ⟨ho, ho'⟩, if_neg hs, if_pos hy, if_pos hn]
                rw [hm]
                clear hm hy ho ho' hs hs' sb hn
                go_enter Try.func20, Try.ntmps20
                go_wp2_with (first | (go_at_call 10; refine (ref_check _ _ _ _ _ _).mono ?_; rintro e w' ⟨rfl, hbb⟩; first | (replace B1 := B1.below hbb; replace B2 := B2.below hbb; replace B3 := B3.below hbb; clear q1 q2 q3 f1 f3; have q1 := B1.cell; have q2 := B2.cell; have q3 := B3.cell; have f1 := B1.free; have f3 := B3.free; replace hB := Below.step0 hB hbb; clear hbb) | (have B1 := (((Box.new _ _ _).alloc _).alloc _).below hbb; have B2 := ((Box.new1 _ _ _ _).alloc _).below hbb; have B3 := (Box.new2 _ _ _ _ _).below hbb; have q1 := B1.cell; have q2 := B2.cell; have q3 := B3.cell; have f1 := B1.free; have f3 := B3.free; have hB := Below.step0 (three _ _ _) hbb; clear hbb)) | (go_at_call 12; refine (ref_covers _ _ _ _ _ _ _ hb' ha').mono ?_; rintro e w' ⟨rfl, hbb⟩; first | (replace B1 := B1.below hbb; replace B2 := B2.below hbb; replace B3 := B3.below hbb; clear q1 q2 q3 f1 f3; have q1 := B1.cell; have q2 := B2.cell; have q3 := B3.cell; have f1 := B1.free; have f3 := B3.free; replace hB := Below.step0 hB hbb; clear hbb) | (have B1 := (((Box.new _ _ _).alloc _).alloc _).below hbb; have B2 := ((Box.new1 _ _ _ _).alloc _).below hbb; have B3 := (Box.new2 _ _ _ _ _).below hbb; have q1 := B1.cell; have q2 := B2.cell; have q3 := B3.cell; have f1 := B1.free; have f3 := B3.free; have hB := Below.step0 (three _ _ _) hbb; clear hbb)) | (go_at_call 28; refine (ref_within _ _ _).mono ?_; rintro e w' ⟨rfl, rfl⟩) | (go_at_call 25; refine (ref_outside _ _ _ _).mono ?_; rintro e w' ⟨rfl, rfl⟩))
                refine bodyPost_ret (v := .tuple #[.agg #[.int .i64 p, .int .i64 b, .int .i64 l, .int .i64 a, .int .i64 0], .int .i64 0]) (by simp [results, Try.results20, go_sem, q3]) rfl ⟨rfl, ?_⟩
                exact (((((hB.setCell (by simp <;> omega) _).setCell (by simp <;> omega) _).setCell (by simp <;> omega) _).setCell (by simp <;> omega) _).setCell (by simp <;> omega) _).setCell (by simp <;> omega) _
              · have g : (a' != s) = true := by simpa using fun h => hn h.symm
                have hm : openK p b l a s p' b' l' a' s' = errK 11 := by unfold openK; rw [if_pos ⟨ho, ho'⟩, if_neg hs, if_pos hy, if_neg hn]
                rw [hm]
                clear hm hy ho ho' hs hs' sb hn
                go_enter Try.func20, Try.ntmps20
                go_wp2_with (first | (go_at_call 10; refine (ref_check _ _ _ _ _ _).mono ?_; rintro e w' ⟨rfl, hbb⟩; first | (replace B1 := B1.below hbb; replace B2 := B2.below hbb; replace B3 := B3.below hbb; clear q1 q2 q3 f1 f3; have q1 := B1.cell; have q2 := B2.cell; have q3 := B3.cell; have f1 := B1.free; have f3 := B3.free; replace hB := Below.step0 hB hbb; clear hbb) | (have B1 := (((Box.new _ _ _).alloc _).alloc _).below hbb; have B2 := ((Box.new1 _ _ _ _).alloc _).below hbb; have B3 := (Box.new2 _ _ _ _ _).below hbb; have q1 := B1.cell; have q2 := B2.cell; have q3 := B3.cell; have f1 := B1.free; have f3 := B3.free; have hB := Below.step0 (three _ _ _) hbb; clear hbb)) | (go_at_call 12; refine (ref_covers _ _ _ _ _ _ _ hb' ha').mono ?_; rintro e w' ⟨rfl, hbb⟩; first | (replace B1 := B1.below hbb; replace B2 := B2.below hbb; replace B3 := B3.below hbb; clear q1 q2 q3 f1 f3; have q1 := B1.cell; have q2 := B2.cell; have q3 := B3.cell; have f1 := B1.free; have f3 := B3.free; replace hB := Below.step0 hB hbb; clear hbb) | (have B1 := (((Box.new _ _ _).alloc _).alloc _).below hbb; have B2 := ((Box.new1 _ _ _ _).alloc _).below hbb; have B3 := (Box.new2 _ _ _ _ _).below hbb; have q1 := B1.cell; have q2 := B2.cell; have q3 := B3.cell; have f1 := B1.free; have f3 := B3.free; have hB := Below.step0 (three _ _ _) hbb; clear hbb)) | (go_at_call 28; refine (ref_within _ _ _).mono ?_; rintro e w' ⟨rfl, rfl⟩) | (go_at_call 25; refine (ref_outside _ _ _ _).mono ?_; rintro e w' ⟨rfl, rfl⟩))
                refine bodyPost_ret (v := .tuple #[.agg #[.int .i64 0, .int .i64 0, .int .i64 0, .int .i64 0, .int .i64 0], .int .i64 11]) (by simp [results, Try.results20, go_sem, q3]) rfl ⟨rfl, ?_⟩
                exact ((((hB.setCell (by simp <;> omega) _).setCell (by simp <;> omega) _).setCell (by simp <;> omega) _).setCell (by simp <;> omega) _).setCell (by simp <;> omega) _
        · have s2 : 0 < s' := by omega
          have hy : mayE p' b' l' a' s' 64 = 11 := by unfold mayE; rw [if_neg hs']
          have hm : openK p b l a s p' b' l' a' s' = errK 11 := by unfold openK; rw [if_pos ⟨ho, ho'⟩, if_neg hs, hy]; rfl
          rw [hm]
          clear hm hy ho ho' hs hs' sb
          go_enter Try.func20, Try.ntmps20
          go_wp2_with (first | (go_at_call 10; refine (ref_check _ _ _ _ _ _).mono ?_; rintro e w' ⟨rfl, hbb⟩; first | (replace B1 := B1.below hbb; replace B2 := B2.below hbb; replace B3 := B3.below hbb; clear q1 q2 q3 f1 f3; have q1 := B1.cell; have q2 := B2.cell; have q3 := B3.cell; have f1 := B1.free; have f3 := B3.free; replace hB := Below.step0 hB hbb; clear hbb) | (have B1 := (((Box.new _ _ _).alloc _).alloc _).below hbb; have B2 := ((Box.new1 _ _ _ _).alloc _).below hbb; have B3 := (Box.new2 _ _ _ _ _).below hbb; have q1 := B1.cell; have q2 := B2.cell; have q3 := B3.cell; have f1 := B1.free; have f3 := B3.free; have hB := Below.step0 (three _ _ _) hbb; clear hbb)) | (go_at_call 12; refine (ref_covers _ _ _ _ _ _ _ hb' ha').mono ?_; rintro e w' ⟨rfl, hbb⟩; first | (replace B1 := B1.below hbb; replace B2 := B2.below hbb; replace B3 := B3.below hbb; clear q1 q2 q3 f1 f3; have q1 := B1.cell; have q2 := B2.cell; have q3 := B3.cell; have f1 := B1.free; have f3 := B3.free; replace hB := Below.step0 hB hbb; clear hbb) | (have B1 := (((Box.new _ _ _).alloc _).alloc _).below hbb; have B2 := ((Box.new1 _ _ _ _).alloc _).below hbb; have B3 := (Box.new2 _ _ _ _ _).below hbb; have q1 := B1.cell; have q2 := B2.cell; have q3 := B3.cell; have f1 := B1.free; have f3 := B3.free; have hB := Below.step0 (three _ _ _) hbb; clear hbb)) | (go_at_call 28; refine (ref_within _ _ _).mono ?_; rintro e w' ⟨rfl, rfl⟩) | (go_at_call 25; refine (ref_outside _ _ _ _).mono ?_; rintro e w' ⟨rfl, rfl⟩))
          refine bodyPost_ret (v := .tuple #[.agg #[.int .i64 0, .int .i64 0, .int .i64 0, .int .i64 0, .int .i64 0], .int .i64 11]) (by simp [results, Try.results20, go_sem, q3]) rfl ⟨rfl, ?_⟩
          exact ((((hB.setCell (by simp <;> omega) _).setCell (by simp <;> omega) _).setCell (by simp <;> omega) _).setCell (by simp <;> omega) _).setCell (by simp <;> omega) _
    · have hk' := chk_no ho'
      have hm : openK p b l a s p' b' l' a' s' = errK 1 := by unfold openK; rw [if_neg (fun h => ho' h.2)]
      rw [hm]
      clear hm ho ho'
      go_enter Try.func20, Try.ntmps20
      go_wp2_with (first | (go_at_call 10; refine (ref_check _ _ _ _ _ _).mono ?_; rintro e w' ⟨rfl, hbb⟩; first | (replace B1 := B1.below hbb; replace B2 := B2.below hbb; replace B3 := B3.below hbb; clear q1 q2 q3 f1 f3; have q1 := B1.cell; have q2 := B2.cell; have q3 := B3.cell; have f1 := B1.free; have f3 := B3.free; replace hB := Below.step0 hB hbb; clear hbb) | (have B1 := (((Box.new _ _ _).alloc _).alloc _).below hbb; have B2 := ((Box.new1 _ _ _ _).alloc _).below hbb; have B3 := (Box.new2 _ _ _ _ _).below hbb; have q1 := B1.cell; have q2 := B2.cell; have q3 := B3.cell; have f1 := B1.free; have f3 := B3.free; have hB := Below.step0 (three _ _ _) hbb; clear hbb)) | (go_at_call 12; refine (ref_covers _ _ _ _ _ _ _ hb' ha').mono ?_; rintro e w' ⟨rfl, hbb⟩; first | (replace B1 := B1.below hbb; replace B2 := B2.below hbb; replace B3 := B3.below hbb; clear q1 q2 q3 f1 f3; have q1 := B1.cell; have q2 := B2.cell; have q3 := B3.cell; have f1 := B1.free; have f3 := B3.free; replace hB := Below.step0 hB hbb; clear hbb) | (have B1 := (((Box.new _ _ _).alloc _).alloc _).below hbb; have B2 := ((Box.new1 _ _ _ _).alloc _).below hbb; have B3 := (Box.new2 _ _ _ _ _).below hbb; have q1 := B1.cell; have q2 := B2.cell; have q3 := B3.cell; have f1 := B1.free; have f3 := B3.free; have hB := Below.step0 (three _ _ _) hbb; clear hbb)) | (go_at_call 28; refine (ref_within _ _ _).mono ?_; rintro e w' ⟨rfl, rfl⟩) | (go_at_call 25; refine (ref_outside _ _ _ _).mono ?_; rintro e w' ⟨rfl, rfl⟩))
      refine bodyPost_ret (v := .tuple #[.agg #[.int .i64 0, .int .i64 0, .int .i64 0, .int .i64 0, .int .i64 0], .int .i64 1]) (by simp [results, Try.results20, go_sem, q3]) rfl ⟨rfl, ?_⟩
      exact ((((hB.setCell (by simp <;> omega) _).setCell (by simp <;> omega) _).setCell (by simp <;> omega) _).setCell (by simp <;> omega) _).setCell (by simp <;> omega) _
  · have hk := chk_no ho
    have hm : openK p b l a s p' b' l' a' s' = errK 1 := by unfold openK; rw [if_neg (fun h => ho h.1)]
    rw [hm]
    clear hm ho
    go_enter Try.func20, Try.ntmps20
    go_wp2_with (first | (go_at_call 10; refine (ref_check _ _ _ _ _ _).mono ?_; rintro e w' ⟨rfl, hbb⟩; first | (replace B1 := B1.below hbb; replace B2 := B2.below hbb; replace B3 := B3.below hbb; clear q1 q2 q3 f1 f3; have q1 := B1.cell; have q2 := B2.cell; have q3 := B3.cell; have f1 := B1.free; have f3 := B3.free; replace hB := Below.step0 hB hbb; clear hbb) | (have B1 := (((Box.new _ _ _).alloc _).alloc _).below hbb; have B2 := ((Box.new1 _ _ _ _).alloc _).below hbb; have B3 := (Box.new2 _ _ _ _ _).below hbb; have q1 := B1.cell; have q2 := B2.cell; have q3 := B3.cell; have f1 := B1.free; have f3 := B3.free; have hB := Below.step0 (three _ _ _) hbb; clear hbb)) | (go_at_call 12; refine (ref_covers _ _ _ _ _ _ _ hb' ha').mono ?_; rintro e w' ⟨rfl, hbb⟩; first | (replace B1 := B1.below hbb; replace B2 := B2.below hbb; replace B3 := B3.below hbb; clear q1 q2 q3 f1 f3; have q1 := B1.cell; have q2 := B2.cell; have q3 := B3.cell; have f1 := B1.free; have f3 := B3.free; replace hB := Below.step0 hB hbb; clear hbb) | (have B1 := (((Box.new _ _ _).alloc _).alloc _).below hbb; have B2 := ((Box.new1 _ _ _ _).alloc _).below hbb; have B3 := (Box.new2 _ _ _ _ _).below hbb; have q1 := B1.cell; have q2 := B2.cell; have q3 := B3.cell; have f1 := B1.free; have f3 := B3.free; have hB := Below.step0 (three _ _ _) hbb; clear hbb)) | (go_at_call 28; refine (ref_within _ _ _).mono ?_; rintro e w' ⟨rfl, rfl⟩) | (go_at_call 25; refine (ref_outside _ _ _ _).mono ?_; rintro e w' ⟨rfl, rfl⟩))
    refine bodyPost_ret (v := .tuple #[.agg #[.int .i64 0, .int .i64 0, .int .i64 0, .int .i64 0, .int .i64 0], .int .i64 1]) (by simp [results, Try.results20, go_sem, q3]) rfl ⟨rfl, ?_⟩
    exact ((((hB.setCell (by simp <;> omega) _).setCell (by simp <;> omega) _).setCell (by simp <;> omega) _).setCell (by simp <;> omega) _).setCell (by simp <;> omega) _
end Go.Proofs.Ytpmmgpiamginaaa
