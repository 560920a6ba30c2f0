/- package prog: tell and Text, in one def each: what chapter 7 (P15) says. -/
import Derived.Test.YtekoonpdhadnmaaGreatDoorRows
import Derived.Test.YtekoonpdhadnmaaGreatDoorKeyPure
import Derived.Test.YtekoonpdhadnmaaGreatDoorShelf
import Derived.Test.YtekoonpdhadnmaaGreatDoorInstShape
import Derived.Test.YtekoonpdhadnmaaGreatDoorInstLaid
import Derived.Test.YtekoonpdhadnmaaGreatDoorInstDev
import Derived.Test.YtekoonpdhadnmaaGreatDoorTextPure
import Derived.Test.YtekoonpdhadnmaaGreatDoorParsePure
import Derived.Test.YtekoonpdhadnmaaGreatDoorInstText
import Derived.Test.YtekoonpdhadnmaaGreatDoorInstParse2
import Derived.Test.YtekoonpdhadnmaaGreatDoorIntsArg
import Derived.Test.YtekoonpdhadnmaaGreatDoorProgPure
import Derived.Test.YtekoonpdhadnmaaGreatDoorProgSmall
import Derived.WalkKit
import Derived.ProofKit
import Derived.Deep.AppendLies
namespace Go.Proofs.YtekoonpdhadnmaaGreatDoor
open Go.ChangeShapes Go.WideShapes Go.ChangeAt Go.RowKit
set_option linter.unusedSimpArgs false

theorem readD_cases (n : Int) : (readD n = ⟨0, 0, 0, 0, 5⟩) ∨ ((readD n).e = 0 ∧ chkD (readD n).o (readD n).a (readD n).b (readD n).c = 0) := by
  unfold readD
  split
  · rename_i h; exact .inr ⟨rfl, h⟩
  · exact .inl rfl
set_option maxRecDepth 100000 in
theorem prog_tell (n : Int) (w : World) (hS : Shp w) (hP : Pw w) (hn : -9223372036854775808 ≤ n ∧ n ≤ 9223372036854775807) :
    Calls Tryz.prog 24 #[.int .i64 n] w fun e w' => e = .returned (.string (bL (lineN n))) ∧ Below w.heap.size w w' := by
  have cR := inst_read n w hS hn _ rfl
  have cI := fun w hP => inst_itoa n w hP hn
  have zi := itoa_len n hn
  unfold lineN
  rcases readD_cases n with h | ⟨h1, h2⟩
  · rw [h] at cR
    rw [h, if_neg (by decide)]
    have zT : (bL (Lib.itoa n)).size ≤ 21 := by rw [bL_size]; exact zi
    have e1 : (⟨#[119, 111, 114, 100, 32]⟩ : ByteArray) ++ bL (Lib.itoa n) = bL (wd ++ Lib.itoa n) := bL_add wd (Lib.itoa n)
    rw [← e1]
    generalize bL (Lib.itoa n) = T at *
    clear e1 h
    go_enter Tryz.func24, Tryz.ntmps24
    go_wp2_with (first | (go_at_call 44; refine cR.mono ?_; rintro e w1 ⟨rfl, hbb⟩; have b1 := hbb.alloc hbb.size (.cells #[.int .i64 0, .int .i64 0, .int .i64 0, .int .i64 0] 46); clear hbb) | (go_at_call 45; refine (cI _ (hP.below b1)).mono ?_; rintro e w2 ⟨rfl, hbb⟩; have b2 := Below.step0 b1 hbb; clear hbb))
    go_ret
    exact ⟨rfl, b2⟩
  · rw [h1] at cR
    rw [if_pos h1]
    have cT := fun w hS hP => inst_text (readD n).o (readD n).a (readD n).b (readD n).c w hS hP
    unfold textD at cT
    rw [if_pos h2, h2] at cT
    generalize bL (textL (readD n).o.toNat (readD n).a (readD n).b (readD n).c) = T at *
    clear h1 h2
    generalize (readD n).o = O at *
    generalize (readD n).a = A at *
    generalize (readD n).b = B at *
    generalize (readD n).c = C at *
    go_enter Tryz.func24, Tryz.ntmps24
    go_wp2_with (first | (go_at_call 44; refine cR.mono ?_; rintro e w1 ⟨rfl, hbb⟩; have b1 := hbb.alloc hbb.size (.cells #[.int .i64 O, .int .i64 A, .int .i64 B, .int .i64 C] 46); clear hbb) | (go_at_call 46; refine (cT _ (hS.below b1) (hP.below b1)).mono ?_; rintro e w2 ⟨rfl, hbb⟩; have b2 := Below.step0 b1 hbb; clear hbb))
    go_ret
    exact ⟨rfl, b2⟩
theorem line_len (n : Int) (hn : -9223372036854775808 ≤ n ∧ n ≤ 9223372036854775807) : (lineN n).length ≤ 80 := by
  unfold lineN
  rcases readD_cases n with h | ⟨h1, h2⟩
  · rw [h, if_neg (by decide)]
    have := itoa_len n hn
    simp [wd]; omega
  · rw [if_pos h1]
    have r := chkD_ok h2
    unfold textL
    have z0 := word_len (readD n).o.toNat (by omega)
    have z1 := tell_len (shA (readD n).o.toNat) (readD n).a (by omega)
    have z2 := tell_len (shB (readD n).o.toNat) (readD n).b (by omega)
    have z3 := tell_len (shC (readD n).o.toNat) (readD n).c (by omega)
    simp only [List.length_append]; omega
theorem jn_len (c : UInt8) (M : Nat) : ∀ xs : List (List UInt8), (∀ x ∈ xs, x.length ≤ M) → (jn c xs).length ≤ xs.length * (M + 1)
  | [], _ => by simp [jn]
  | [x], h => by have := h x (by simp); simp [jn]; omega
  | x :: y :: ys, h => by
    have ih := jn_len c M (y :: ys) (fun z hz => h z (List.mem_cons_of_mem _ hz))
    have h1 := h x (by simp)
    rw [jn, List.length_append, List.length_cons]
    have e : (x :: y :: ys).length * (M + 1) = (y :: ys).length * (M + 1) + (M + 1) := by rw [List.length_cons, Nat.add_mul, Nat.one_mul]
    omega
theorem info_str : ∃ i, Tryz.prog.info? 9 = some i ∧ i.zero = some (.string ByteArray.empty) ∧ i.size = 1 ∧ i.bytes = 16 := by
  have := show (Tryz.prog.info? 9).map (fun i => (i.zero, i.size, i.bytes)) = some (some (.string ByteArray.empty), 1, 16) by kernel_rfl
  cases h : Tryz.prog.info? 9 with
  | none => rw [h] at this; cases this
  | some i => rw [h] at this; exact ⟨i, rfl, by simpa using this⟩
/-- The lines of the first k numbers. -/
def lns (xs : List Int) (k : Nat) : List Value := (xs.take k).map fun n => .string (bL (lineN n))
theorem lns_step (xs : List Int) (k : Nat) (h : k < xs.length) : lns xs (k + 1) = lns xs k ++ [.string (bL (lineN (xs.getD k 0)))] := by
  unfold lns
  rw [List.take_add_one, List.map_append]
  have : xs[k]? = some (xs.getD k 0) := by rw [List.getD_eq_getElem?_getD, List.getElem?_eq_getElem h]; rfl
  rw [this]; rfl
theorem own_below {w w' : World} {base : Nat} {e : TypeId} {size : Nat} {v : Value} {n : Nat} {xs : List Value} (h : w.ownsRow base e size v n xs) (hb : Below w.heap.size w w') : w'.ownsRow base e size v n xs := by
  obtain ⟨h1, h2⟩ := h
  refine ⟨h1, ?_⟩
  rcases h2 with h2 | ⟨g, cap, cur, e1, e2, e3, e4⟩
  · exact .inl h2
  · exact .inr ⟨g, cap, cur, e1, e2, by rw [hb.block g (Array.getElem?_eq_some_iff.1 e3).1]; exact e3, e4⟩
theorem map_bL : ∀ ls : List (List UInt8), (ls.map bL).map (·.data.toList) = ls
  | [] => rfl
  | l :: ls => by rw [List.map_cons, List.map_cons, bL_list, map_bL ls]
theorem prog_join (r : Value) (ls : List (List UInt8)) (base : Nat) (w : World) (h : w.ownsRow base 9 1 r ls.length (ls.map fun l => .string (bL l))) (hn : ls.length ≤ 150) (hl : ∀ l ∈ ls, l.length ≤ 80) :
    Calls Tryz.prog 25 #[r, .string ⟨#[10]⟩] w fun e w' => e = .returned (.string (bL (jn 10 ls))) ∧ Below w.heap.size w w' := by
  obtain ⟨hx, h⟩ := h
  rcases h with ⟨rfl, h0⟩ | ⟨g, cap, cur, rfl, hg, hb, hc, _, hcur, htake⟩
  · have : ls = [] := by cases ls with
      | nil => rfl
      | cons a t => simp at h0
    subst this
    exact (Tryz.strings_Join_none none 0 ⟨#[10]⟩ w).mono fun e w' ⟨he, hw⟩ => ⟨he, by rw [hw]; exact Below.refl _ _⟩
  · have hlt : g < w.heap.size := (Array.getElem?_eq_some_iff.1 hb).1
    have e1 : (ls.map bL).map (·.data.toList) = ls := map_bL ls
    have hj := jn_len 10 80 ls hl
    have hJ := Tryz.strings_Join g 0 cap (ls.map bL) ⟨#[10]⟩ w (fun j x hjx => by
      rw [List.getElem?_map] at hjx
      cases hlj : ls[j]? with
      | none => rw [hlj] at hjx; cases hjx
      | some l =>
        rw [hlj] at hjx
        injection hjx with hjx
        subst hjx
        have hjl : j < ls.length := (List.getElem?_eq_some_iff.1 hlj).1
        have h2 : cur.toList[j]? = some (.string (bL l)) := by
          have h3 : (cur.toList.take (ls.length * 1))[j]? = some (.string (bL l)) := by rw [htake, List.getElem?_map, hlj]; rfl
          rwa [List.getElem?_take_of_lt (by omega)] at h3
        rw [World.cell?, hb]
        simpa using h2) hlt (by simp; omega) (by simp; omega) (by
      rw [e1]; show (Lib.join ls [10]).length ≤ _; rw [join_jn]
      have : ls.length * 81 ≤ 150 * 81 := Nat.mul_le_mul_right 81 hn
      omega)
    rw [e1] at hJ
    rw [List.length_map] at hJ
    have e2 : Lib.join ls (⟨#[10]⟩ : ByteArray).data.toList = jn 10 ls := join_jn 10 ls
    rw [e2] at hJ
    exact hJ
theorem all_take {xs : List Int} {p : Int → Bool} {k : Nat} (h : xs.length ≤ k) (h1 : (xs.take k).all p = true) : xs.all p = true := by
  rwa [List.take_of_length_le h] at h1
theorem all_step {xs : List Int} {p : Int → Bool} {k : Nat} (h : k < xs.length) (h1 : (xs.take k).all p = true) (h2 : p (xs.getD k 0) = true) : (xs.take (k + 1)).all p = true := by
  have : xs[k]? = some (xs.getD k 0) := by rw [List.getD_eq_getElem?_getD, List.getElem?_eq_getElem h]; rfl
  rw [List.take_add_one, this, List.all_append, h1, Bool.true_and]
  simpa using h2
theorem all_not {xs : List Int} {p : Int → Bool} {k : Nat} (h : k < xs.length) (h2 : p (xs.getD k 0) = false) : xs.all p = false := by
  rw [Bool.eq_false_iff]
  intro h3
  have := List.all_eq_true.1 h3 (xs.getD k 0) (by rw [List.getD_eq_getElem?_getD, List.getElem?_eq_getElem h]; exact List.getElem_mem h)
  rw [h2] at this
  cases this
def isNum (n : Int) : Bool := decide (-2147483648 ≤ n ∧ n ≤ 2147483647)
set_option maxRecDepth 100000 in
set_option maxHeartbeats 2000000 in
theorem prog_text (a : Option Addr) (cap : Nat) (xs : List Int) (w : World) (hS : Shp w) (hP : Pw w) (hb : inB64 xs) (hA : IntsAt w a xs) (hm : xs.length ≤ maxLen) :
    Calls Tryz.prog 10 #[.slice a xs.length cap] w fun e w' => e = .returned (.tuple #[.string (bL (textS xs).s), .int .i64 (textS xs).e]) ∧ Below w.heap.size w w' := by
  have hm' : (xs.length : Int) ≤ 9223372036854775807 := by unfold maxLen at hm; omega
  obtain ⟨R, hR⟩ : ∃ R, textS xs = R := ⟨_, rfl⟩
  rw [hR]
  by_cases h150 : 150 < xs.length
  · obtain rfl : R = ⟨[], 2⟩ := by rw [← hR]; unfold textS; rw [if_pos h150]
    clear hR
    have g : (150 : Int) < (xs.length : Int) := by omega
    go_enter Tryz.func10, Tryz.ntmps10
    go_wp2
    go_ret2
    exact ⟨rfl, Below.refl _ _⟩
  · have g : ¬ (150 : Int) < (xs.length : Int) := by omega
    have cN := fun n w => prog_isNumber n w
    obtain ⟨i0, hi, hz0, hz1, hz2⟩ := info_str
    go_enter Tryz.func10, Tryz.ntmps10
    go_wp2
    go_loopw [4, 12] (fun r i wr => ∃ k : Nat, k ≤ xs.length ∧ i = .int .i64 (k : Int) ∧ wr.ownsRow w.heap.size 9 1 r k (lns xs k) ∧ Below w.heap.size w wr ∧ (xs.take k).all isNum = true) (fun _ i _ => xs.length - (intOf i).toNat)
    case atStart => exact ⟨0, Nat.zero_le _, rfl, World.ownsRow_nil w w.heap.size 9 1, Below.refl _ _, rfl⟩
    case round =>
      obtain ⟨k, hk, rfl, ho, hB, hall⟩ := hrel
      by_cases hlt : k < xs.length
      · have gk : (k : Int) < (xs.length : Int) := by omega
        rcases hA with h0 | ⟨B, off, rfl, hBs, hc⟩
        · omega
        have hcell : wr.cell? ⟨B, off + k, none⟩ = some (.int .i64 (xs.getD k 0)) := by rw [hB.cell (p := ⟨B, off + k, none⟩) hBs]; exact hc k hlt
        have hxb := hb (xs.getD k 0) (by rw [List.getD_eq_getElem?_getD, List.getElem?_eq_getElem hlt]; exact List.getElem_mem hlt)
        have cN := prog_isNumber (xs.getD k 0) wr
        by_cases hn : -2147483648 ≤ xs.getD k 0 ∧ xs.getD k 0 ≤ 2147483647
        · have hall' := all_step (p := isNum) hlt hall (decide_eq_true hn)
          have cT := prog_tell (xs.getD k 0) wr (hS.below hB) (hP.below hB) hxb
          have hst := lns_step xs k hlt
          rw [decide_eq_true hn] at cN
          have HS : Hid (lns xs (k + 1) = lns xs k ++ [.string (bL (lineN (xs.getD k 0)))]) := hst
          have HA : Hid ((xs.take (k + 1)).all isNum = true) := hall'
          clear hst hall' hall hb
          generalize bL (lineN (xs.getD k 0)) = T at *
          generalize xs.getD k 0 = x at *
          go_wp2_with (first | (go_at_call 23; refine cN.mono ?_; rintro e w' ⟨rfl, rfl⟩) | (go_at_call 24; refine cT.mono ?_; rintro e w1 ⟨rfl, hbb⟩; have ho1 := own_below ho hbb; have hB1 := Below.step0 hB hbb; clear hbb cT cN) | (at_builtin; refine wpList_append_lies _ rfl _ _ _ rfl w.heap.size 9 i0 _ 1 16 Tryz.underlying39 hi hz0 hz1 hz2 rfl (by omega) _ k _ rfl (ho1.alloc _) ⟨w1.heap.size, 0, none⟩ 1 1 [.string T] rfl rfl ?c1 ?c2 (by omega) ?c3 ?c4 ?c5 _ rfl ?_))
          case c1 => exact World.news_of_block (cs := #[.string T]) (t := 9) (fr := (0, 0)) (heap_alloc_new w1 (.cells #[.string T] 9))
          case c2 =>
            intro u hu
            simp only [List.mem_cons, List.not_mem_nil, or_false] at hu
            subst hu
            rfl
          case c3 => unfold maxLen; omega
          case c4 => omega
          case c5 => have := hB1.size; simp; omega
          intro g cap w2 hown2 hgrow hat hlt2
          have hB2 : Below w.heap.size w w2 := Below.grown (hB1.alloc hB1.size _) hgrow (by have := hB1.size; simp; omega) (fun j hj => (ho1.lt j hj).1)
          have HO : Hid (w2.ownsRow w.heap.size 9 1 (.slice (some ⟨g, 0, none⟩) (k + 1) cap) (k + 1) (lns xs (k + 1))) := by rw [HS.out]; exact hown2
          have HB : Hid (Below w.heap.size w w2) := hB2
          clear hown2 hgrow hat hB2 ho1 hB1 ho hB
          go_wp2
          go_roundw
          case rel => exact ⟨k + 1, by omega, rfl, HO.out, HB.out, HA.out⟩
          case measure => simp [intOf]; omega
        · have hno := all_not (p := isNum) hlt (decide_eq_false hn)
          rw [decide_eq_false hn] at cN
          obtain rfl : R = ⟨[], 1⟩ := by rw [← hR]; unfold textS; rw [if_neg h150, if_neg (by rw [show (xs.all fun n => decide (-2147483648 ≤ n ∧ n ≤ 2147483647)) = false from hno]; simp)]
          clear hR hno hn hall ho
          generalize xs.getD k 0 = x at *
          go_wp2_with (go_at_call 23; refine cN.mono ?_; rintro e w' ⟨rfl, rfl⟩)
          go_ret2
          exact ⟨rfl, hB⟩
      · obtain rfl : k = xs.length := by omega
        have gk : ¬ (xs.length : Int) < (xs.length : Int) := by omega
        have cJ := prog_join _ (xs.map lineN) w.heap.size wr (by rw [List.length_map, List.map_map]; have := ho; unfold lns at this; rw [List.take_length] at this; exact this) (by rw [List.length_map]; omega) (fun l hl => by
          obtain ⟨n, hn, rfl⟩ := List.mem_map.1 hl
          exact line_len n (hb n hn))
        have e1 : (xs.all fun n => decide (-2147483648 ≤ n ∧ n ≤ 2147483647)) = true := all_take (Nat.le_refl _) hall
        obtain rfl : R = ⟨jn 10 (xs.map lineN), 0⟩ := by rw [← hR]; unfold textS; rw [if_neg h150, if_pos e1]
        clear hR
        obtain ⟨J, hJ⟩ : ∃ J, bL (jn 10 (xs.map lineN)) = J := ⟨_, rfl⟩
        rw [hJ] at cJ
        have HJ : Hid (bL (jn 10 (xs.map lineN)) = J) := hJ
        clear hA ho hall e1 hJ
        go_wp2_with (go_at_call 25; refine cJ.mono ?_; rintro e w2 ⟨rfl, hbb⟩; have hB2 := Below.step0 hB hbb)
        go_ret2
        exact ⟨by show _ = Ending.returned (.tuple #[.string (bL (jn 10 (xs.map lineN))), .int .i64 0]); rw [HJ.out]; rfl, hB2⟩
end Go.Proofs.YtekoonpdhadnmaaGreatDoor
