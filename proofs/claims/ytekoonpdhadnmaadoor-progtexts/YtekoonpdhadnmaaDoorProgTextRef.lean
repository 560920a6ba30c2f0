/- The document's own ProgText: what chapter 7 (P15) says; it turns nothing that was in memory. -/
import Derived.Test.YtekoonpdhadnmaaDoorRows
import Derived.Test.YtekoonpdhadnmaaDoorKeyPure
import Derived.Test.YtekoonpdhadnmaaDoorCardBase
import Derived.Test.YtekoonpdhadnmaaDoorInstShape
import Derived.Test.YtekoonpdhadnmaaDoorInstRef
import Derived.Test.YtekoonpdhadnmaaDoorInstRef2
import Derived.Test.YtekoonpdhadnmaaDoorInstDev
import Derived.Test.YtekoonpdhadnmaaDoorInstEq
import Derived.Test.YtekoonpdhadnmaaDoorTextPure
import Derived.Test.YtekoonpdhadnmaaDoorDig2
import Derived.Test.YtekoonpdhadnmaaDoorInstTextRef
import Derived.Test.YtekoonpdhadnmaaDoorIntsArg
import Derived.Test.YtekoonpdhadnmaaDoorProgPure
import Derived.Test.YtekoonpdhadnmaaDoorProgText
import Derived.WalkKit
import Derived.ProofKit
namespace Go.Proofs.YtekoonpdhadnmaaDoor
open Go.ChangeShapes Go.WideShapes Go.ChangeAt Go.RowKit
set_option linter.unusedSimpArgs false

theorem ref_readD (n : Int) (w : World) (m : Int) (hM : w.cell? ⟨1, 0, none⟩ = some (.int .i64 m)) (zM : 1 < w.heap.size) :
    Calls Tryd.prog 19 #[.int .i64 n] w fun e w' => e = .returned (.tuple #[.agg #[.int .i64 (readD n).o, .int .i64 (readD n).a, .int .i64 (readD n).b, .int .i64 (readD n).c], .int .i64 (readD n).e]) ∧ Below w.heap.size w w' := by
  obtain ⟨h1, h2, h3, h4, h5⟩ := read_eq n
  rw [h1, h2, h3, h4, h5]
  exact ref_instread n w m hM zM _ rfl
theorem ref_isnum (n : Int) (w : World) :
    Calls Tryd.prog 17 #[.int .i64 n] w fun e w' => e = .returned (.bool (decide (-2147483648 ≤ n ∧ n ≤ 2147483647))) ∧ w' = w := by
  have c := ref_outside n (-2147483648) 2147483647 w
  have e : outB n (-2147483648) 2147483647 = !decide (-2147483648 ≤ n ∧ n ≤ 2147483647) := by
    unfold outB
    by_cases h : -2147483648 ≤ n ∧ n ≤ 2147483647
    · rw [decide_eq_true h, decide_eq_false (by omega)]; rfl
    · rw [decide_eq_false h, decide_eq_true (by omega)]; rfl
  rw [e] at c
  generalize decide (-2147483648 ≤ n ∧ n ≤ 2147483647) = D at *
  clear e
  go_enter Tryd.func17, Tryd.ntmps17
  go_wp2_with (go_at_call 33; refine c.mono ?_; rintro e w' ⟨rfl, hw⟩; replace hw := hw.symm; subst hw)
  go_ret
  exact ⟨by simp, rfl⟩
/-- The text of the first k numbers. -/
def tx (xs : List Int) (k : Nat) : List UInt8 := jn 10 ((xs.take k).map lineN)
theorem tx_zero (xs : List Int) : tx xs 0 = [] := rfl
theorem tx_one (xs : List Int) (h : 0 < xs.length) : tx xs 1 = lineN (xs.getD 0 0) := by
  cases xs with
  | nil => simp at h
  | cons x xs => rfl
theorem tx_step (xs : List Int) (k : Nat) (h : k < xs.length) (h0 : k ≠ 0) : tx xs (k + 1) = tx xs k ++ 10 :: lineN (xs.getD k 0) := by
  unfold tx
  have : xs[k]? = some (xs.getD k 0) := by rw [List.getD_eq_getElem?_getD, List.getElem?_eq_getElem h]; rfl
  rw [List.take_add_one, this, List.map_append]
  show jn 10 ((xs.take k).map lineN ++ [lineN (xs.getD k 0)]) = _
  refine jn_snoc 10 _ ?_
  intro e
  have e1 := congrArg List.length e
  rw [List.length_map, List.length_take, List.length_nil] at e1
  omega
theorem tx_len (xs : List Int) (k : Nat) (hb : inB64 xs) (hk : k ≤ 150) : (tx xs k).length ≤ 12150 := by
  unfold tx
  have := jn_len 10 80 ((xs.take k).map lineN) (fun l hl => by
    obtain ⟨n, hn, rfl⟩ := List.mem_map.1 hl
    exact line_len n (hb n (List.mem_of_mem_take hn)))
  rw [List.length_map, List.length_take] at this
  have h2 : min k xs.length * 81 ≤ 150 * 81 := Nat.mul_le_mul_right 81 (by omega)
  omega
set_option maxRecDepth 100000 in
set_option maxHeartbeats 4000000 in
theorem ref_progtext (a : Option Addr) (cap : Nat) (xs : List Int) (w : World) (m : Int) (hM : w.cell? ⟨1, 0, none⟩ = some (.int .i64 m)) (zM : 1 < w.heap.size) (hb : inB64 xs) (hA : IntsAt w a xs) (hm : xs.length ≤ maxLen) :
    Calls Tryd.prog 7 #[.slice a xs.length cap] w fun e w' => e = .returned (.tuple #[.string (bL (textS xs).s), .int .i64 (textS xs).e]) ∧ Below w.heap.size w w' := by
  have hm' : (xs.length : Int) ≤ 9223372036854775807 := by unfold maxLen at hm; omega
  have HM : Hid (∀ w', Below w.heap.size w w' → w'.cell? ⟨1, 0, none⟩ = some (.int .i64 m) ∧ 1 < w'.heap.size) := fun w' hb => ⟨by rw [hb.cell (p := ⟨1, 0, none⟩) zM]; exact hM, Nat.lt_of_lt_of_le zM hb.size⟩
  clear hM zM
  obtain ⟨R, hR⟩ : ∃ R, textS xs = R := ⟨_, rfl⟩
  rw [hR]
  by_cases h150 : 150 < xs.length
  · obtain rfl : R = ⟨[], 2⟩ := by rw [← hR]; unfold textS; rw [if_pos h150]
    clear hR
    have g : (150 : Int) < (xs.length : Int) := by omega
    go_enter Tryd.func7, Tryd.ntmps7
    go_wp2
    go_ret2
    exact ⟨rfl, Below.refl _ _⟩
  · have g : ¬ (150 : Int) < (xs.length : Int) := by omega
    go_enter Tryd.func7, Tryd.ntmps7
    go_wp2
    go_loopw [4, 15] (fun r i wr => ∃ k : Nat, k ≤ xs.length ∧ i = .int .i64 (k : Int) ∧ r = .string (bL (tx xs k)) ∧ Below w.heap.size w wr ∧ (xs.take k).all isNum = true) (fun _ i _ => xs.length - (intOf i).toNat)
    case atStart => exact ⟨0, Nat.zero_le _, rfl, rfl, Below.refl _ _, rfl⟩
    case round =>
      obtain ⟨k, hk, rfl, rfl, hB, hall⟩ := hrel
      by_cases hlt : k < xs.length
      · have gk : (k : Int) < (xs.length : Int) := by omega
        rcases hA with h0 | ⟨B, off, rfl, hBs, hc⟩
        · omega
        have hcell : wr.cell? ⟨B, off + k, none⟩ = some (.int .i64 (xs.getD k 0)) := by rw [hB.cell (p := ⟨B, off + k, none⟩) hBs]; exact hc k hlt
        have hxb := hb (xs.getD k 0) (by rw [List.getD_eq_getElem?_getD, List.getElem?_eq_getElem hlt]; exact List.getElem_mem hlt)
        have cN := ref_isnum (xs.getD k 0) wr
        by_cases hn : -2147483648 ≤ xs.getD k 0 ∧ xs.getD k 0 ≤ 2147483647
        · have hall' := all_step (p := isNum) hlt hall (decide_eq_true hn)
          rw [decide_eq_true hn] at cN
          have cD := ref_dig (xs.getD k 0) wr (by omega)
          have cR := fun w m hM zM => ref_readD (xs.getD k 0) w m hM zM
          have zi : (bL (Lib.itoa (xs.getD k 0))).size ≤ 21 := by rw [bL_size]; exact itoa_len _ (by omega)
          have eW : (⟨#[119, 111, 114, 100, 32]⟩ : ByteArray) ++ bL (Lib.itoa (xs.getD k 0)) = bL (wd ++ Lib.itoa (xs.getD k 0)) := bL_add wd _
          have zs : (bL (tx xs k)).size ≤ 12150 := by rw [bL_size]; exact tx_len xs k hb (by omega)
          have zL : (bL (lineN (xs.getD k 0))).size ≤ 80 := by rw [bL_size]; exact line_len _ (by omega)
          have HA : Hid ((xs.take (k + 1)).all isNum = true) := hall'
          obtain ⟨T1, e1, z1⟩ : ∃ T1, bL (tx xs k) ++ ⟨#[10]⟩ = T1 ∧ T1.size ≤ 12151 := ⟨_, rfl, by rw [show (⟨#[10]⟩ : ByteArray) = bL [10] from rfl, bL_add, bL_size]; rw [bL_size] at zs; simp; omega⟩
          have hst : (k = 0 ∧ bL (tx xs k) ++ bL (lineN (xs.getD k 0)) = bL (tx xs (k + 1))) ∨ (¬ k = 0 ∧ T1 ++ bL (lineN (xs.getD k 0)) = bL (tx xs (k + 1))) := by
            by_cases h0 : k = 0
            · subst h0
              exact .inl ⟨rfl, by rw [tx_one xs hlt]; exact bL_add [] _⟩
            · refine .inr ⟨h0, ?_⟩
              rw [← e1, tx_step xs k hlt h0, show (⟨#[10]⟩ : ByteArray) = bL [10] from rfl, bL_add, bL_add]
              simp
          clear hall' hall
          obtain ⟨TN, hTN⟩ : ∃ TN, bL (tx xs (k + 1)) = TN := ⟨_, rfl⟩
          rw [hTN] at hst
          have HT : Hid (bL (tx xs (k + 1)) = TN) := hTN
          clear hTN
          rcases readD_cases (xs.getD k 0) with h | ⟨h1, h2⟩
          · have eL : lineN (xs.getD k 0) = wd ++ Lib.itoa (xs.getD k 0) := by unfold lineN; rw [h, if_neg (by decide)]
            rw [eL] at hst zL
            rw [h] at cR
            generalize bL (wd ++ Lib.itoa (xs.getD k 0)) = LN at *
            generalize bL (Lib.itoa (xs.getD k 0)) = D at *
            clear h eL hn
            generalize bL (tx xs k) = T at *
            generalize xs.getD k 0 = x at *
            rcases hst with ⟨hk0, hst⟩ | ⟨hk0, hst⟩
            · have g0 : ¬ (0 : Int) < (k : Int) := by omega
              clear hk0
              go_wp2_with (first | (go_at_call 17; refine cN.mono ?_; rintro e w' ⟨rfl, hw⟩; replace hw := hw.symm; subst hw; clear cN) | (go_at_call 18; refine cD.mono ?_; rintro e w1 ⟨rfl, hbb⟩; have hB1 := Below.step0 hB hbb; clear hbb cD) | (go_at_call 19; refine (cR _ m (HM.out _ hB1).1 (HM.out _ hB1).2).mono ?_; rintro e w2 ⟨rfl, hbb⟩; have hB2 := (Below.step0 hB1 hbb).alloc (Below.step0 hB1 hbb).size (.cells #[.int .i64 0, .int .i64 0, .int .i64 0, .int .i64 0] 40); clear hbb cR) | (go_at_call 20; refine (cT _ m (HM.out _ hB2).1 (HM.out _ hB2).2).mono ?_; rintro e w3 ⟨rfl, hbb⟩; have hB3 := Below.step0 hB2 hbb; clear hbb cT))
              go_roundw
              case rel => exact ⟨k + 1, by omega, rfl, by rw [HT.out], hB2, HA.out⟩
              case measure => simp [intOf]; omega
            · have g0 : (0 : Int) < (k : Int) := by omega
              clear hk0
              go_wp2_with (first | (go_at_call 17; refine cN.mono ?_; rintro e w' ⟨rfl, hw⟩; replace hw := hw.symm; subst hw; clear cN) | (go_at_call 18; refine cD.mono ?_; rintro e w1 ⟨rfl, hbb⟩; have hB1 := Below.step0 hB hbb; clear hbb cD) | (go_at_call 19; refine (cR _ m (HM.out _ hB1).1 (HM.out _ hB1).2).mono ?_; rintro e w2 ⟨rfl, hbb⟩; have hB2 := (Below.step0 hB1 hbb).alloc (Below.step0 hB1 hbb).size (.cells #[.int .i64 0, .int .i64 0, .int .i64 0, .int .i64 0] 40); clear hbb cR) | (go_at_call 20; refine (cT _ m (HM.out _ hB2).1 (HM.out _ hB2).2).mono ?_; rintro e w3 ⟨rfl, hbb⟩; have hB3 := Below.step0 hB2 hbb; clear hbb cT))
              go_roundw
              case rel => exact ⟨k + 1, by omega, rfl, by rw [HT.out], hB2, HA.out⟩
              case measure => simp [intOf]; omega
          · have eL : lineN (xs.getD k 0) = textL (readD (xs.getD k 0)).o.toNat (readD (xs.getD k 0)).a (readD (xs.getD k 0)).b (readD (xs.getD k 0)).c := by unfold lineN; rw [if_pos h1]
            rw [eL] at hst zL
            rw [h1] at cR
            have cT := fun w m hM zM => ref_insttext (readD (xs.getD k 0)).o (readD (xs.getD k 0)).a (readD (xs.getD k 0)).b (readD (xs.getD k 0)).c w m hM zM
            unfold textD at cT
            rw [if_pos h2, h2] at cT
            generalize bL (textL (readD (xs.getD k 0)).o.toNat (readD (xs.getD k 0)).a (readD (xs.getD k 0)).b (readD (xs.getD k 0)).c) = LN at *
            generalize bL (wd ++ Lib.itoa (xs.getD k 0)) = LW at *
            generalize bL (Lib.itoa (xs.getD k 0)) = D at *
            clear h1 h2 eL hn
            generalize (readD (xs.getD k 0)).o = O at *
            generalize (readD (xs.getD k 0)).a = A at *
            generalize (readD (xs.getD k 0)).b = Bb at *
            generalize (readD (xs.getD k 0)).c = C at *
            generalize bL (tx xs k) = T at *
            generalize xs.getD k 0 = x at *
            rcases hst with ⟨hk0, hst⟩ | ⟨hk0, hst⟩
            · have g0 : ¬ (0 : Int) < (k : Int) := by omega
              clear hk0
              go_wp2_with (first | (go_at_call 17; refine cN.mono ?_; rintro e w' ⟨rfl, hw⟩; replace hw := hw.symm; subst hw; clear cN) | (go_at_call 18; refine cD.mono ?_; rintro e w1 ⟨rfl, hbb⟩; have hB1 := Below.step0 hB hbb; clear hbb cD) | (go_at_call 19; refine (cR _ m (HM.out _ hB1).1 (HM.out _ hB1).2).mono ?_; rintro e w2 ⟨rfl, hbb⟩; have hB2 := (Below.step0 hB1 hbb).alloc (Below.step0 hB1 hbb).size (.cells #[.int .i64 O, .int .i64 A, .int .i64 Bb, .int .i64 C] 40); clear hbb cR) | (go_at_call 20; refine (cT _ m (HM.out _ hB2).1 (HM.out _ hB2).2).mono ?_; rintro e w3 ⟨rfl, hbb⟩; have hB3 := Below.step0 hB2 hbb; clear hbb cT))
              go_roundw
              case rel => exact ⟨k + 1, by omega, rfl, by rw [HT.out], hB3, HA.out⟩
              case measure => simp [intOf]; omega
            · have g0 : (0 : Int) < (k : Int) := by omega
              clear hk0
              go_wp2_with (first | (go_at_call 17; refine cN.mono ?_; rintro e w' ⟨rfl, hw⟩; replace hw := hw.symm; subst hw; clear cN) | (go_at_call 18; refine cD.mono ?_; rintro e w1 ⟨rfl, hbb⟩; have hB1 := Below.step0 hB hbb; clear hbb cD) | (go_at_call 19; refine (cR _ m (HM.out _ hB1).1 (HM.out _ hB1).2).mono ?_; rintro e w2 ⟨rfl, hbb⟩; have hB2 := (Below.step0 hB1 hbb).alloc (Below.step0 hB1 hbb).size (.cells #[.int .i64 O, .int .i64 A, .int .i64 Bb, .int .i64 C] 40); clear hbb cR) | (go_at_call 20; refine (cT _ m (HM.out _ hB2).1 (HM.out _ hB2).2).mono ?_; rintro e w3 ⟨rfl, hbb⟩; have hB3 := Below.step0 hB2 hbb; clear hbb cT))
              go_roundw
              case rel => exact ⟨k + 1, by omega, rfl, by rw [HT.out], hB3, HA.out⟩
              case measure => simp [intOf]; omega
        · have hno := all_not (p := isNum) hlt (decide_eq_false hn)
          rw [decide_eq_false hn] at cN
          obtain rfl : R = ⟨[], 1⟩ := by rw [← hR]; unfold textS; rw [if_neg h150, if_neg (by rw [show (xs.all fun n => decide (-2147483648 ≤ n ∧ n ≤ 2147483647)) = false from hno]; simp)]
          clear hR hno hn hall
          generalize xs.getD k 0 = x at *
          go_wp2_with (go_at_call 17; refine cN.mono ?_; rintro e w' ⟨rfl, hw⟩; replace hw := hw.symm; subst hw)
          go_ret2
          exact ⟨rfl, hB⟩
      · obtain rfl : k = xs.length := by omega
        have gk : ¬ (xs.length : Int) < (xs.length : Int) := by omega
        have e1 : (xs.all fun n => decide (-2147483648 ≤ n ∧ n ≤ 2147483647)) = true := all_take (Nat.le_refl _) hall
        obtain rfl : R = ⟨tx xs xs.length, 0⟩ := by rw [← hR]; unfold textS tx; rw [if_neg h150, if_pos e1, List.take_length]
        clear hR hA hall e1
        go_wp2
        go_ret2
        exact ⟨rfl, hB⟩
end Go.Proofs.YtekoonpdhadnmaaDoor
