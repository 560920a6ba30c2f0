/- The document's own IsName and word answer what chapter 7 says of them, for whatever text, and turn nothing that was in memory. The document's own word answers what chapter 7 says of it; strings.Join over a row that is known; for whatever text; nothing that was in memory is turned. What is needed for the document's own jumpTo: the words of a line, the last one turned, put together again. The document's own jumpTo answers what chapter 7 says of it, for whatever line, and turns nothing that was in memory. -/
import Derived.Test.YtfafkijcejbcpaaGreatDoorRows
import Derived.Test.YtfafkijcejbcpaaGreatDoorKeyPure
import Derived.Test.YtfafkijcejbcpaaGreatDoorShelf
import Derived.Test.YtfafkijcejbcpaaGreatDoorTextPure
import Derived.Test.YtfafkijcejbcpaaGreatDoorParsePure
import Derived.Test.YtfafkijcejbcpaaGreatDoorNamePure
import Derived.Test.YtfafkijcejbcpaaGreatDoorProgPure
import Derived.Test.YtfafkijcejbcpaaGreatDoorInstRef
import Derived.Test.YtfafkijcejbcpaaGreatDoorNumeralRef
import Derived.WalkKit
import Derived.ProofKit
import Derived.Test.YtfafkijcejbcpaaGreatDoorInstCut
import Derived.Test.YtfafkijcejbcpaaGreatDoorSplitPure
import Derived.Test.YtfafkijcejbcpaaGreatDoorProgText
import Derived.Test.YtfafkijcejbcpaaGreatDoorBoxSet
import Derived.Test.YtfafkijcejbcpaaGreatDoorGoSplit
import Derived.Test.YtfafkijcejbcpaaGreatDoorInstParse2
import Derived.Test.YtfafkijcejbcpaaGreatDoorInstParseRef
import Derived.Deep.CutBlock
import Derived.Deep.RegionHeld3
namespace Go.Proofs.YtfafkijcejbcpaaGreatDoor
section
open Go.ChangeShapes Go.WideShapes Go.ChangeAt Go.RowKit
set_option linter.unusedSimpArgs false

def abc : List UInt8 := [97, 98, 99, 100, 101, 102, 103, 104, 105, 106, 107, 108, 109, 110, 111, 112, 113, 114, 115, 116, 117, 118, 119, 120, 121, 122]
def abc9 : List UInt8 := abc ++ [48, 49, 50, 51, 52, 53, 54, 55, 56, 57]
theorem let_all : ∀ n : Fin 256, decide (0 ≤ Lib.indexByte abc (UInt8.ofNat n.val)) = isLet (UInt8.ofNat n.val) ∧ decide (0 ≤ Lib.indexByte abc9 (UInt8.ofNat n.val)) = okC (UInt8.ofNat n.val) := by decide +kernel
theorem let_is (c : UInt8) : decide (0 ≤ Lib.indexByte abc c) = isLet c ∧ decide (0 ≤ Lib.indexByte abc9 c) = okC c := by
  have h := let_all ⟨c.toNat, c.toNat_lt⟩
  have e : UInt8.ofNat c.toNat = c := UInt8.ofNat_toNat
  rw [e] at h
  exact h
theorem one_byte (l : List UInt8) (k : Nat) (c : UInt8) (h : l[k]? = some c) : (bL l).extract k (k + 1) = ⟨#[c]⟩ := by
  obtain ⟨hk, e⟩ := List.getElem?_eq_some_iff.1 h
  apply ByteArray.ext
  apply Array.ext'
  rw [ByteArray.data_extract, Array.toList_extract]
  show (bL l).data.toList.extract k (k + 1) = [c]
  rw [bL_list, List.extract_eq_take_drop, List.drop_eq_getElem_cons hk, e, Nat.add_sub_cancel_left]
  rfl
set_option maxRecDepth 100000 in
set_option maxHeartbeats 2000000 in
theorem ref_isname (l : List UInt8) (w : World) (hl : l.length ≤ 4294967296) :
    Calls Tryz.prog 16 #[.string (bL l)] w fun e w' => e = .returned (.bool (nameL l)) ∧ w' = w := by
  have cO' := fun w => ref_outside (l.length : Int) 1 12 w
  have cA := fun c w => Tryz.strings_Contains_one ⟨#[97, 98, 99, 100, 101, 102, 103, 104, 105, 106, 107, 108, 109, 110, 111, 112, 113, 114, 115, 116, 117, 118, 119, 120, 121, 122]⟩ c w
  have cB := fun c w => Tryz.strings_Contains_one ⟨#[97, 98, 99, 100, 101, 102, 103, 104, 105, 106, 107, 108, 109, 110, 111, 112, 113, 114, 115, 116, 117, 118, 119, 120, 121, 122, 48, 49, 50, 51, 52, 53, 54, 55, 56, 57]⟩ c w
  have zT : (bL l).size = l.length := bL_size l
  by_cases h12 : 1 ≤ l.length ∧ l.length ≤ 12
  · have ho : outB (l.length : Int) 1 12 = false := by unfold outB; rw [decide_eq_false_iff_not]; omega
    obtain ⟨c0, h0⟩ : ∃ c, l[0]? = some c := ⟨_, List.getElem?_eq_getElem (by omega)⟩
    have e0 := one_byte l 0 c0 h0
    have cA0 := fun w => cA c0 w
    change ∀ w, Calls _ _ _ _ fun e w' => e = .returned (.bool (decide (0 ≤ Lib.indexByte abc c0))) ∧ w' = w at cA0
    rw [(let_is c0).1] at cA0
    have hd : l.headD 0 = c0 := by
      cases l with
      | nil => simp at h12
      | cons a r => simpa using h0
    clear cA
    rw [ho] at cO'
    cases hL : isLet c0
    · have hn : nameL l = false := by unfold nameL; rw [hd, hL]; simp
      rw [hn]
      rw [hL] at cA0
      generalize bL l = T at *
      clear hn h0 hd cB
      go_enter Tryz.func16, Tryz.ntmps16
      go_wp2_with (first | (go_at_call 18; refine (cO' _).mono ?_; rintro e w1 ⟨rfl, rfl⟩) | (go_at_call 33; refine (cA0 _).mono ?_; rintro e w2 ⟨rfl, rfl⟩))
      go_ret
      exact ⟨rfl, rfl⟩
    · rw [hL] at cA0
      obtain ⟨R, hR⟩ : ∃ R, nameL l = R := ⟨_, rfl⟩
      have hR' : l.all okC = R := by rw [← hR]; unfold nameL; rw [hd, hL, decide_eq_true h12]; simp
      rw [hR]
      have HR : Hid (l.all okC = R) := hR'
      have HO : Hid (∀ (k : Nat) (c : UInt8), l[k]? = some c → (bL l).extract k (k + 1) = ⟨#[c]⟩) := fun k c h => one_byte l k c h
      clear hR hR' h0 hd
      generalize bL l = T at *
      go_enter Tryz.func16, Tryz.ntmps16
      go_wp2_with (first | (go_at_call 18; refine (cO' _).mono ?_; rintro e w1 ⟨rfl, rfl⟩) | (go_at_call 33; refine (cA0 _).mono ?_; rintro e w2 ⟨rfl, rfl⟩))
      go_loop [15] (fun i => ∃ k : Nat, k ≤ l.length ∧ i = .int .i64 (k : Int) ∧ (l.drop k).all okC = R) (fun i => l.length - (intOf i).toNat)
      case atStart => exact ⟨0, Nat.zero_le _, rfl, HR.out⟩
      case round =>
        obtain ⟨k, hk, rfl, hs⟩ := hrel
        by_cases hlt : k < l.length
        · have gk : (k : Int) < (l.length : Int) := by omega
          obtain ⟨c, hc⟩ : ∃ c, l[k]? = some c := ⟨_, List.getElem?_eq_getElem hlt⟩
          have ek := HO.out k c hc
          have gk1 : (k : Int) + 1 ≤ (l.length : Int) := by omega
          have gk2 : (k : Int) ≤ (k : Int) + 1 := by omega
          have gk3 : (0 : Int) ≤ (k : Int) + 1 := by omega
          have gk4 : ((k : Int) + 1).toNat = k + 1 := by omega
          have cBk := fun w => cB c w
          change ∀ w, Calls _ _ _ _ fun e w' => e = .returned (.bool (decide (0 ≤ Lib.indexByte abc9 c))) ∧ w' = w at cBk
          have hdr : l.drop k = c :: l.drop (k + 1) := by
            rw [List.drop_eq_getElem_cons hlt]
            rw [List.getElem?_eq_getElem hlt] at hc
            injection hc with hc
            rw [hc]
          rw [(let_is c).2] at cBk
          rw [hdr, List.all_cons] at hs
          cases hok : okC c
          · rw [hok, Bool.false_and] at hs
            subst hs
            rw [hok] at cBk
            clear hdr hc hok HR HO cB cA0 cO'
            go_wp2_with (go_at_call 33; refine (cBk _).mono ?_; rintro e w2 ⟨rfl, rfl⟩)
            go_ret
            exact ⟨rfl, rfl⟩
          · rw [hok, Bool.true_and] at hs
            rw [hok] at cBk
            have HS : Hid ((l.drop (k + 1)).all okC = R) := hs
            clear hdr hc hok HR HO cB cA0 cO' hs
            go_wp2_with (go_at_call 33; refine (cBk _).mono ?_; rintro e w2 ⟨rfl, rfl⟩)
            go_round
            case rel => exact ⟨k + 1, by omega, rfl, HS.out⟩
            case measure => simp [intOf]; omega
        · obtain rfl : k = l.length := by omega
          have gk : ¬ (l.length : Int) < (l.length : Int) := by omega
          rw [List.drop_length] at hs
          have hs' : R = true := hs.symm
          subst hs'
          clear HR HO cB cA0 cO'
          go_wp2
          go_ret
          exact ⟨rfl, rfl⟩
  · have ho : outB (l.length : Int) 1 12 = true := by unfold outB; rw [decide_eq_true_eq]; omega
    have hn : nameL l = false := by unfold nameL; rw [decide_eq_false h12]; simp
    rw [hn]
    rw [ho] at cO'
    generalize bL l = T at *
    clear cA cB hn ho h12
    go_enter Tryz.func16, Tryz.ntmps16
    go_wp2_with (go_at_call 18; refine (cO' _).mono ?_; rintro e w1 ⟨rfl, rfl⟩)
    go_ret
    exact ⟨rfl, rfl⟩
end
section
open Go.ChangeShapes Go.WideShapes Go.ChangeAt Go.RowKit
set_option linter.unusedSimpArgs false

def wordV (l : List UInt8) : Int × Bool := if wd.isPrefixOf l = true then numV (l.drop 5) (-2147483648) 2147483647 else (0, false)
theorem wordV_some {l : List UInt8} {v : Int} (h : wd.isPrefixOf l = true) (hn : numR (l.drop 5) = some v) : wordV l = (v, true) := by
  obtain ⟨h1, h2⟩ := numR_some hn
  unfold wordV
  rw [if_pos h, ← h2]
  exact numV_itoa h1 (by omega)
theorem wordV_none {l : List UInt8} (h : wd.isPrefixOf l = true → numR (l.drop 5) = none) : (wordV l).2 = false := by
  unfold wordV
  split
  · rename_i hw
    cases hb : (numV (l.drop 5) (-2147483648) 2147483647).2
    · rfl
    · obtain ⟨h1, h2⟩ := numV_some hb
      have := numR_itoa h2
      rw [h1, h hw] at this
      cases this
  · rfl
set_option maxHeartbeats 2000000 in
theorem ref_word (l : List UInt8) (w : World) (hl : l.length ≤ 1048576) :
    Calls Tryz.prog 13 #[.string (bL l)] w fun e w' => e = .returned (.tuple #[.int .i64 (wordV l).1, .bool (wordV l).2]) ∧ Below w.heap.size w w' := by
  have cP := Tryz.strings_HasPrefix (bL l) ⟨#[119, 111, 114, 100, 32]⟩ w
  rw [bL_list] at cP
  change Calls _ _ _ _ fun e w' => e = .returned (.bool (wd.isPrefixOf l)) ∧ w' = w at cP
  unfold wordV
  cases hw : wd.isPrefixOf l
  · rw [hw] at cP
    rw [if_neg (by simp)]
    generalize bL l = T at *
    go_enter Tryz.func13, Tryz.ntmps13
    go_wp2_with (go_at_call 30; refine cP.mono ?_; rintro e w1 ⟨rfl, rfl⟩)
    exact bodyPost_ret (v := .tuple #[.int .i64 0, .bool false]) (by simp [results, Tryz.results13, go_sem]) rfl ⟨rfl, Below.refl _ _⟩
  · rw [hw] at cP
    rw [if_pos rfl]
    have h5 : 5 ≤ l.length := by
      have := (List.isPrefixOf_iff_prefix.1 hw).length_le
      exact this
    have cN := ref_numeral (l.drop 5) (-2147483648) 2147483647 w (by rw [List.length_drop]; omega)
    have ex := bL_drop l 5
    have zT : (bL l).size = l.length := bL_size l
    rw [zT] at ex
    have g5 : (5 : Int) ≤ (l.length : Int) := by omega
    generalize numV (l.drop 5) (-2147483648) 2147483647 = N at *
    generalize bL (l.drop 5) = D at *
    generalize bL l = T at *
    go_enter Tryz.func13, Tryz.ntmps13
    go_wp2_with (first | (go_at_call 30; refine cP.mono ?_; rintro e w1 ⟨rfl, hw1⟩; rw [hw1]; clear hw1 w1) | (go_at_call 31; refine cN.mono ?_; rintro e w2 ⟨rfl, hbb⟩))
    exact bodyPost_ret (v := .tuple #[.int .i64 N.1, .bool N.2]) (by simp [results, Tryz.results13, go_sem]) rfl ⟨rfl, hbb⟩
/-- strings.Join at one byte, over a row that is known. -/
theorem row_join (g cap : Nat) (c : UInt8) (ls : List (List UInt8)) (w : World) (hg : g < w.heap.size) (hc : ∀ (j : Nat) x, ls[j]? = some x → w.cell? ⟨g, j, none⟩ = some (.string (bL x))) (hcap : ls.length ≤ cap) (hn : ls.length ≤ 2000000) (hl : (jn c ls).length ≤ 2000000) :
    Calls Tryz.prog 29 #[.slice (some ⟨g, 0, none⟩) ls.length cap, .string ⟨#[c]⟩] w fun e w' => e = .returned (.string (bL (jn c ls))) ∧ Below w.heap.size w w' := by
  have e1 : (ls.map bL).map (·.data.toList) = ls := map_bL ls
  have hJ := Tryz.strings_Join g 0 cap (ls.map bL) ⟨#[c]⟩ w (fun j x hjx => by
    rw [List.getElem?_map] at hjx
    cases hlj : ls[j]? with
    | none => rw [hlj] at hjx; cases hjx
    | some l =>
      rw [hlj] at hjx
      injection hjx with hjx
      subst hjx
      have := hc j l hlj
      simpa using this) hg (by simp; omega) (by simpa using hcap) (by
    rw [e1]; show (Lib.join ls [c]).length ≤ _; rw [join_jn]
    omega)
  rw [e1] at hJ
  rw [List.length_map] at hJ
  have e2 : Lib.join ls (⟨#[c]⟩ : ByteArray).data.toList = jn c ls := join_jn c ls
  rw [e2] at hJ
  exact hJ
end
section
open Go.ChangeShapes Go.WideShapes Go.ChangeAt Go.RowKit

def rowS (ls : List (List UInt8)) : Array Value := (ls.map fun x => Value.string (bL x)).toArray
/-- strings.Split at a blank: the words lie in a block of their own. -/
theorem split_box (l : List UInt8) (ws : List (List UInt8)) (n : Nat) (hs : sp 32 l = ws) (hn : ws.length = n + 1) (w : World) (m : Int) (hM : w.cell? ⟨0, 0, none⟩ = some (.int .i64 m)) (hl : l.length < 4294967281) :
    Calls Tryz.prog 9 #[.string (bL l), .string ⟨#[32]⟩] w fun e w' => e = .returned (.slice (some ⟨w.heap.size, 0, none⟩) (n + 1) (n + 1)) ∧ Below w.heap.size w w' ∧ Box w' w.heap.size (rowS ws) := by
  have h1 := sp_len 32 l
  rw [hs, hn] at h1
  refine (go_split l 32 w m hM hl).mono ?_
  rintro e w' ⟨rfl, rfl⟩
  rw [← h1, hs]
  exact ⟨rfl, (Below.refl _ _).alloc (Nat.le_refl _) _, Box.new _ _ _⟩
theorem row_set (ls : List (List UInt8)) (n : Nat) (x : List UInt8) : (rowS ls).setIfInBounds n (.string (bL x)) = rowS (ls.set n x) := by
  unfold rowS
  rw [List.setIfInBounds_toArray, List.map_set]
theorem row_at {ls : List (List UInt8)} {j : Nat} {x : List UInt8} (h : ls[j]? = some x) : (rowS ls)[j]? = some (.string (bL x)) := by
  unfold rowS
  rw [List.getElem?_toArray, List.getElem?_map, h]
  rfl
/-- strings.Join over such a block. -/
theorem join_box (g n : Nat) (ls : List (List UInt8)) (w : World) (B : Box w g (rowS ls)) (hn : ls.length = n + 1) (hs : n ≤ 1100000) (hl : (jn 32 ls).length ≤ 2000000) :
    Calls Tryz.prog 29 #[.slice (some ⟨g, 0, none⟩) (n + 1) (n + 1), .string ⟨#[32]⟩] w fun e w' => e = .returned (.string (bL (jn 32 ls))) ∧ Below w.heap.size w w' := by
  have h := row_join g (n + 1) 32 ls w B.lt (fun j x hx => by rw [B.cell]; exact row_at hx) (by omega) (by omega) hl
  rw [hn] at h
  exact h
end
section
open Go.ChangeShapes Go.WideShapes Go.ChangeAt Go.RowKit
set_option linter.unusedSimpArgs false

def holeB (n : Nat) (q : List UInt8) (U : ID) : Bool := decide (0 < n) && (nameL q && (U.e == 0 && (U.o == 8 || U.o == 9)))
theorem sp_le (c : UInt8) : ∀ (l : List UInt8), ∀ x ∈ sp c l, x.length ≤ l.length
  | [] => fun x hx => by simp [sp] at hx; subst hx; exact Nat.le_refl _
  | a :: l => by
    have ih := sp_le c l
    by_cases h : a = c
    · subst h
      rw [sp_sep]
      intro x hx
      rcases List.mem_cons.1 hx with rfl | hx
      · exact Nat.zero_le _
      · have := ih x hx
        rw [List.length_cons]; omega
    · obtain ⟨y, ys, e⟩ := List.exists_cons_of_ne_nil (sp_ne c l)
      rw [sp_other h e]
      intro x hx
      rcases List.mem_cons.1 hx with rfl | hx
      · have := ih y (by rw [e]; exact List.mem_cons_self)
        rw [List.length_cons, List.length_cons]; omega
      · have := ih x (by rw [e]; exact List.mem_cons_of_mem _ hx)
        rw [List.length_cons]; omega
set_option maxRecDepth 100000 in
set_option maxHeartbeats 8000000 in
theorem ref_jumpto (l q J : List UInt8) (ws : List (List UInt8)) (n : Nat) (w : World) (m : Int) (hM : w.cell? ⟨0, 0, none⟩ = some (.int .i64 m)) (zM : 0 < w.heap.size)
    (hs : sp 32 l = ws) (hn : ws.length = n + 1) (hq : ws[n]? = some q) (hj : jn 32 (ws.set n [48]) = J) (hl : l.length ≤ 1048576) (hJ : J.length ≤ 1048600) (U : ID) (hU : parseD J = U) :
    Calls Tryz.prog 12 #[.string (bL l)] w fun e w' => e = .returned (.tuple #[.agg #[.int .i64 U.o, .int .i64 U.a, .int .i64 U.b, .int .i64 U.c], .string (bL q), .bool (holeB n q U)]) ∧ Below w.heap.size w w' := by
  have HM : Hid (∀ w', Below w.heap.size w w' → w'.cell? ⟨0, 0, none⟩ = some (.int .i64 m) ∧ 0 < w'.heap.size) := fun w' hb => ⟨by rw [hb.cell (p := ⟨0, 0, none⟩) zM]; exact hM, Nat.lt_of_lt_of_le zM hb.size⟩
  have n8 : n ≤ 1048576 := by
    have h1 := sp_len 32 l
    rw [hs, hn] at h1
    have h2 : l.count 32 ≤ l.length := List.count_le_length
    omega
  have q80 : q.length ≤ 4294967296 := by
    have h3 := sp_le 32 l q (by rw [hs]; exact List.mem_of_getElem? hq)
    omega
  have cS := fun w m hM => split_box l ws n hs hn w m hM (by omega)
  have cJ := fun w' B => join_box (w.heap.size + 1) n (ws.set n [48]) w' B (by rw [List.length_set]; exact hn) (by omega) (by rw [hj]; omega)
  have cI := fun w m hM zM => ref_instparse J w m hM zM (by omega)
  have cN := fun w => ref_isname q w q80
  rw [hU] at cI
  rw [hj] at cJ
  have hqn := row_at hq
  have HSZ : Hid (n < (rowS ws).size) := by show _ < _; unfold rowS; simp [hn]
  clear hM hs hq hj hU hn
  generalize bL l = T at *
  generalize bL J = JJ at *
  generalize bL q = Q at *
  by_cases h0 : n = 0
  · have hh : holeB n q U = false := by unfold holeB; rw [decide_eq_false (by omega)]; rfl
    rw [hh]
    have g1 : ¬ (1 : Int) < (n : Int) + 1 := by omega
    have g2 : ¬ 0 < n := by omega
    clear hh h0
    go_enter Tryz.func12, Tryz.ntmps12
    go_upto_region 5 with (first | (go_at_call 9; refine (cS _ m (HM.out _ ((Below.refl _ _).alloc (Nat.le_refl _) _)).1).mono ?_; rintro e w1 ⟨rfl, hbb, Bg⟩; rw [World.size_alloc] at Bg; have B0 := (Box.new _ _ _).below hbb; have hB1 := Below.step0 ((Below.refl _ _).alloc (Nat.le_refl _) _) hbb; have q1 := Bg.cell; have f1 := Bg.free; clear hbb cS) | (go_at_call 29; have Bs := Bg.set n (.string (bL [48])) HSZ.out; rw [row_set] at Bs; have Z0 := B0.setOther (k' := w.heap.size + 1) (i := n) (v := .string (bL [48])) (by omega); have hS1 := hB1.setCell (p := ⟨w.heap.size + 1, n, none⟩) (by show w.heap.size ≤ w.heap.size + 1; omega) (.string (bL [48])); refine (cJ _ Bs).mono ?_; rintro e w2 ⟨rfl, hbb⟩; replace B0 := Z0.below hbb; have hB2 := Below.step0 hS1 hbb; clear hbb cJ q1 f1 Bs Z0 Bg hS1) | (go_at_call 14; refine (cI _ m (HM.out _ hB2).1 (HM.out _ hB2).2).mono ?_; rintro e w3 ⟨rfl, hbb⟩; replace B0 := B0.below hbb; have hB3 := Below.step0 hB2 hbb; have t0 := B0.lt; clear hbb cI))
    obtain ⟨w7, hw7⟩ : ∃ w7, w7 = w3.alloc (.cells #[.int .i64 U.o, .int .i64 U.a, .int .i64 U.b, .int .i64 U.c] 43) := ⟨_, rfl⟩
    rw [← hw7]
    have B7 := Box.new w3 #[.int .i64 U.o, .int .i64 U.a, .int .i64 U.b, .int .i64 U.c] 43
    rw [← hw7] at B7
    have C0 := B0.alloc (.cells #[.int .i64 U.o, .int .i64 U.a, .int .i64 U.b, .int .i64 U.c] 43)
    rw [← hw7] at C0
    have hB7 : Below w.heap.size w w7 := by rw [hw7]; exact hB3.alloc hB3.size _
    have hb0 : w3.heap.size ≠ w.heap.size := by omega
    clear hw7 B0 t0
    generalize w3.heap.size = b7 at *
    obtain ⟨g, hg⟩ : ∃ g, w.heap.size + 1 = g := ⟨_, rfl⟩
    rw [hg]
    have Bz := ((((C0.set 0 (.int .i64 U.o) (by simp)).set 1 (.int .i64 U.a) (by simp)).set 2 (.int .i64 U.b) (by simp)).set 3 (.int .i64 U.c) (by simp)).below (Below.refl _ _).drew
    have qz := Bz.cell
    simp only [List.setIfInBounds_toArray, List.set_cons_zero, List.set_cons_succ] at qz
    have hBz := ((((hB7.setCell (p := ⟨w.heap.size, 0, none⟩) (Nat.le_refl _) (.int .i64 U.o)).setCell (p := ⟨w.heap.size, 1, none⟩) (Nat.le_refl _) (.int .i64 U.a)).setCell (p := ⟨w.heap.size, 2, none⟩) (Nat.le_refl _) (.int .i64 U.b)).setCell (p := ⟨w.heap.size, 3, none⟩) (Nat.le_refl _) (.int .i64 U.c)).drew
    have qd := C0.cell
    have fd := C0.free
    refine wp_region_held_drew (S := fun w' => Box w' b7 #[.int .i64 U.o, .int .i64 U.a, .int .i64 U.b, .int .i64 U.c]) (by kernel_rfl) (B7.below (Below.refl _ _).drew) (fun hHeld => ?_)
    refine wpAnyH_take (i := 0) (v := .agg #[.int .i64 U.o, .int .i64 U.a, .int .i64 U.b, .int .i64 U.c]) rfl (by kernel_rfl) (by kernel_rfl) (by kernel_rfl) (fun _ _ _ h => h) (Or.inl ⟨by rfl, fun w hSw => by have q := hSw.cell; go_simp⟩) (by assumption) ?_
    try simp only [Act.put, List.getElem_toArray, List.getElem_cons_zero, List.getElem_cons_succ, List.setIfInBounds_toArray, List.set_cons_zero, List.set_cons_succ]
    refine wpAnyH_take (i := 1) (v := .string Q) rfl (by kernel_rfl) (by kernel_rfl) (by kernel_rfl) (fun _ _ _ h => h) (Or.inl ⟨by rfl, fun w hSw => by go_simp⟩) (by assumption) ?_
    try simp only [Act.put, List.getElem_toArray, List.getElem_cons_zero, List.getElem_cons_succ, List.setIfInBounds_toArray, List.set_cons_zero, List.set_cons_succ]
    refine wpAnyH_take (i := 2) (v := .slice (some ⟨g, 0, none⟩) (n + 1) (n + 1)) rfl (by kernel_rfl) (by kernel_rfl) (by kernel_rfl) (fun _ _ _ h => h) (Or.inl ⟨by rfl, fun w hSw => by go_simp⟩) (by assumption) ?_
    try simp only [Act.put, List.getElem_toArray, List.getElem_cons_zero, List.getElem_cons_succ, List.setIfInBounds_toArray, List.set_cons_zero, List.set_cons_succ]
    refine wpAnyH_take (i := 3) (v := .int .i64 ((n : Int) + 1)) rfl (by kernel_rfl) (by kernel_rfl) (by kernel_rfl) (fun _ _ _ h => h) (Or.inl ⟨by rfl, fun w hSw => by go_simp⟩) (by assumption) ?_
    try simp only [Act.put, List.getElem_toArray, List.getElem_cons_zero, List.getElem_cons_succ, List.setIfInBounds_toArray, List.set_cons_zero, List.set_cons_succ]
    refine wpAnyH_take (i := 4) (v := .bool false) rfl (by kernel_rfl) (by kernel_rfl) (by kernel_rfl) (fun _ _ _ h => h) (Or.inl ⟨by rfl, fun w hSw => by go_simp⟩) (by assumption) ?_
    try simp only [Act.put, List.getElem_toArray, List.getElem_cons_zero, List.getElem_cons_succ, List.setIfInBounds_toArray, List.set_cons_zero, List.set_cons_succ]
    refine wpAnyH_take (i := 5) (v := .bool false) rfl (by kernel_rfl) (by kernel_rfl) (by kernel_rfl) (fun _ _ _ h => h) (Or.inl ⟨by rfl, fun w hSw => by go_simp⟩) (by assumption) ?_
    try simp only [Act.put, List.getElem_toArray, List.getElem_cons_zero, List.getElem_cons_succ, List.setIfInBounds_toArray, List.set_cons_zero, List.set_cons_succ]
    refine wpAnyH_take (i := 6) (v := undef) rfl (by kernel_rfl) (by kernel_rfl) (by kernel_rfl) (fun _ _ _ h => h) (Or.inr ⟨by rfl, rfl⟩) (by assumption) ?_
    try simp only [Act.put, List.getElem_toArray, List.getElem_cons_zero, List.getElem_cons_succ, List.setIfInBounds_toArray, List.set_cons_zero, List.set_cons_succ]
    refine wpAnyH_take (i := 7) (v := undef) rfl (by kernel_rfl) (by kernel_rfl) (by kernel_rfl) (fun _ _ _ h => h) (Or.inr ⟨by rfl, rfl⟩) (by assumption) ?_
    try simp only [Act.put, List.getElem_toArray, List.getElem_cons_zero, List.getElem_cons_succ, List.setIfInBounds_toArray, List.set_cons_zero, List.set_cons_succ]
    refine wpAnyH_take (i := 8) (v := .bool false) rfl (by kernel_rfl) (by kernel_rfl) (by kernel_rfl) (fun _ _ _ h => h) (Or.inl ⟨by rfl, fun w hSw => by go_simp⟩) (by assumption) ?_
    try simp only [Act.put, List.getElem_toArray, List.getElem_cons_zero, List.getElem_cons_succ, List.setIfInBounds_toArray, List.set_cons_zero, List.set_cons_succ]
    refine wpAnyH_take (i := 9) (v := .bool false) rfl (by kernel_rfl) (by kernel_rfl) (by kernel_rfl) (fun _ _ _ h => h) (Or.inl ⟨by rfl, fun w hSw => by go_simp⟩) (by assumption) ?_
    try simp only [Act.put, List.getElem_toArray, List.getElem_cons_zero, List.getElem_cons_succ, List.setIfInBounds_toArray, List.set_cons_zero, List.set_cons_succ]
    refine wpAnyH_take (i := 10) (v := undef) rfl (by kernel_rfl) (by kernel_rfl) (by kernel_rfl) (fun _ _ _ h => h) (Or.inr ⟨by rfl, rfl⟩) (by assumption) ?_
    try simp only [Act.put, List.getElem_toArray, List.getElem_cons_zero, List.getElem_cons_succ, List.setIfInBounds_toArray, List.set_cons_zero, List.set_cons_succ]
    refine wpAnyH_take (i := 11) (v := undef) rfl (by kernel_rfl) (by kernel_rfl) (by kernel_rfl) (fun _ _ _ h => h) (Or.inr ⟨by rfl, rfl⟩) (by assumption) ?_
    try simp only [Act.put, List.getElem_toArray, List.getElem_cons_zero, List.getElem_cons_succ, List.setIfInBounds_toArray, List.set_cons_zero, List.set_cons_succ]
    refine wpAnyH_take (i := 12) (v := .bool false) rfl (by kernel_rfl) (by kernel_rfl) (by kernel_rfl) (fun _ _ _ h => h) (Or.inl ⟨by rfl, fun w hSw => by go_simp⟩) (by assumption) ?_
    try simp only [Act.put, List.getElem_toArray, List.getElem_cons_zero, List.getElem_cons_succ, List.setIfInBounds_toArray, List.set_cons_zero, List.set_cons_succ]
    refine wpAnyH_take (i := 13) (v := .bool false) rfl (by kernel_rfl) (by kernel_rfl) (by kernel_rfl) (fun _ _ _ h => h) (Or.inl ⟨by rfl, fun w hSw => by go_simp⟩) (by assumption) ?_
    try simp only [Act.put, List.getElem_toArray, List.getElem_cons_zero, List.getElem_cons_succ, List.setIfInBounds_toArray, List.set_cons_zero, List.set_cons_succ]
    refine wpAnyH_take (i := 14) (v := undef) rfl (by kernel_rfl) (by kernel_rfl) (by kernel_rfl) (fun _ _ _ h => h) (Or.inr ⟨by rfl, rfl⟩) (by assumption) ?_
    try simp only [Act.put, List.getElem_toArray, List.getElem_cons_zero, List.getElem_cons_succ, List.setIfInBounds_toArray, List.set_cons_zero, List.set_cons_succ]
    refine wpAnyH_take (i := 15) (v := undef) rfl (by kernel_rfl) (by kernel_rfl) (by kernel_rfl) (fun _ _ _ h => h) (Or.inr ⟨by rfl, rfl⟩) (by assumption) ?_
    try simp only [Act.put, List.getElem_toArray, List.getElem_cons_zero, List.getElem_cons_succ, List.setIfInBounds_toArray, List.set_cons_zero, List.set_cons_succ]
    refine wpAnyH_take (i := 16) (v := undef) rfl (by kernel_rfl) (by kernel_rfl) (by kernel_rfl) (fun _ _ _ h => h) (Or.inr ⟨by rfl, rfl⟩) (by assumption) ?_
    try simp only [Act.put, List.getElem_toArray, List.getElem_cons_zero, List.getElem_cons_succ, List.setIfInBounds_toArray, List.set_cons_zero, List.set_cons_succ]
    refine wpAnyH_take (i := 17) (v := undef) rfl (by kernel_rfl) (by kernel_rfl) (by kernel_rfl) (fun _ _ _ h => h) (Or.inr ⟨by rfl, rfl⟩) (by assumption) ?_
    try simp only [Act.put, List.getElem_toArray, List.getElem_cons_zero, List.getElem_cons_succ, List.setIfInBounds_toArray, List.set_cons_zero, List.set_cons_succ]
    refine wpAnyH_take (i := 18) (v := undef) rfl (by kernel_rfl) (by kernel_rfl) (by kernel_rfl) (fun _ _ _ h => h) (Or.inr ⟨by rfl, rfl⟩) (by assumption) ?_
    try simp only [Act.put, List.getElem_toArray, List.getElem_cons_zero, List.getElem_cons_succ, List.setIfInBounds_toArray, List.set_cons_zero, List.set_cons_succ]
    refine wpAnyH_take (i := 19) (v := undef) rfl (by kernel_rfl) (by kernel_rfl) (by kernel_rfl) (fun _ _ _ h => h) (Or.inr ⟨by rfl, rfl⟩) (by assumption) ?_
    try simp only [Act.put, List.getElem_toArray, List.getElem_cons_zero, List.getElem_cons_succ, List.setIfInBounds_toArray, List.set_cons_zero, List.set_cons_succ]
    refine wpAnyH_take (i := 20) (v := undef) rfl (by kernel_rfl) (by kernel_rfl) (by kernel_rfl) (fun _ _ _ h => h) (Or.inr ⟨by rfl, rfl⟩) (by assumption) ?_
    try simp only [Act.put, List.getElem_toArray, List.getElem_cons_zero, List.getElem_cons_succ, List.setIfInBounds_toArray, List.set_cons_zero, List.set_cons_succ]
    refine wpAnyH_take (i := 21) (v := undef) rfl (by kernel_rfl) (by kernel_rfl) (by kernel_rfl) (fun _ _ _ h => h) (Or.inr ⟨by rfl, rfl⟩) (by assumption) ?_
    try simp only [Act.put, List.getElem_toArray, List.getElem_cons_zero, List.getElem_cons_succ, List.setIfInBounds_toArray, List.set_cons_zero, List.set_cons_succ]
    refine wpAnyH_take (i := 22) (v := .bool false) rfl (by kernel_rfl) (by kernel_rfl) (by kernel_rfl) (fun _ _ _ h => h) (Or.inl ⟨by rfl, fun w hSw => by go_simp⟩) (by assumption) ?_
    try simp only [Act.put, List.getElem_toArray, List.getElem_cons_zero, List.getElem_cons_succ, List.setIfInBounds_toArray, List.set_cons_zero, List.set_cons_succ]
    refine wpAnyH_ready (rs := [23]) (by kernel_rfl) (by simp) (AllReadyH.cons rfl (fun K hK => ?_) AllReadyH.nil)
    go_simp
    refine hK.out _ _ (((((B7.setOther hb0).setOther hb0).setOther hb0).setOther hb0).below (Below.refl _ _).drew) (fun hHeld => ?_)
    clear hK K
    try simp only [Act.put, List.getElem_toArray, List.getElem_cons_zero, List.getElem_cons_succ, List.setIfInBounds_toArray, List.set_cons_zero, List.set_cons_succ]
    refine wpAnyH_take (i := 24) (v := .string Q) rfl (by kernel_rfl) (by kernel_rfl) (by kernel_rfl) (fun _ _ _ h => h) (Or.inl ⟨by rfl, fun w hSw => by go_simp⟩) (by assumption) ?_
    try simp only [Act.put, List.getElem_toArray, List.getElem_cons_zero, List.getElem_cons_succ, List.setIfInBounds_toArray, List.set_cons_zero, List.set_cons_succ]
    refine wpAnyH_take (i := 25) (v := .bool false) rfl (by kernel_rfl) (by kernel_rfl) (by kernel_rfl) (fun _ _ _ h => h) (Or.inl ⟨by rfl, fun w hSw => by go_simp⟩) (by assumption) ?_
    try simp only [Act.put, List.getElem_toArray, List.getElem_cons_zero, List.getElem_cons_succ, List.setIfInBounds_toArray, List.set_cons_zero, List.set_cons_succ]
    refine wpAnyH_done (by kernel_rfl) ?_ _
    go_wp2
    exact bodyPost_ret (v := .tuple #[.agg #[.int .i64 U.o, .int .i64 U.a, .int .i64 U.b, .int .i64 U.c], .string Q, .bool false]) (by simp [results, Tryz.results12, go_sem, qz]) rfl ⟨rfl, hBz⟩
  · have g1 : (1 : Int) < (n : Int) + 1 := by omega
    have g2 : 0 < n := by omega
    cases hnm : nameL q
    · have hh : holeB n q U = false := by unfold holeB; rw [hnm]; simp
      rw [hh]
      rw [hnm] at cN
      clear hh h0 hnm
      go_enter Tryz.func12, Tryz.ntmps12
      go_upto_region 5 with (first | (go_at_call 9; refine (cS _ m (HM.out _ ((Below.refl _ _).alloc (Nat.le_refl _) _)).1).mono ?_; rintro e w1 ⟨rfl, hbb, Bg⟩; rw [World.size_alloc] at Bg; have B0 := (Box.new _ _ _).below hbb; have hB1 := Below.step0 ((Below.refl _ _).alloc (Nat.le_refl _) _) hbb; have q1 := Bg.cell; have f1 := Bg.free; clear hbb cS) | (go_at_call 29; have Bs := Bg.set n (.string (bL [48])) HSZ.out; rw [row_set] at Bs; have Z0 := B0.setOther (k' := w.heap.size + 1) (i := n) (v := .string (bL [48])) (by omega); have hS1 := hB1.setCell (p := ⟨w.heap.size + 1, n, none⟩) (by show w.heap.size ≤ w.heap.size + 1; omega) (.string (bL [48])); refine (cJ _ Bs).mono ?_; rintro e w2 ⟨rfl, hbb⟩; replace B0 := Z0.below hbb; have hB2 := Below.step0 hS1 hbb; clear hbb cJ q1 f1 Bs Z0 Bg hS1) | (go_at_call 14; refine (cI _ m (HM.out _ hB2).1 (HM.out _ hB2).2).mono ?_; rintro e w3 ⟨rfl, hbb⟩; replace B0 := B0.below hbb; have hB3 := Below.step0 hB2 hbb; have t0 := B0.lt; clear hbb cI))
      obtain ⟨w7, hw7⟩ : ∃ w7, w7 = w3.alloc (.cells #[.int .i64 U.o, .int .i64 U.a, .int .i64 U.b, .int .i64 U.c] 43) := ⟨_, rfl⟩
      rw [← hw7]
      have B7 := Box.new w3 #[.int .i64 U.o, .int .i64 U.a, .int .i64 U.b, .int .i64 U.c] 43
      rw [← hw7] at B7
      have C0 := B0.alloc (.cells #[.int .i64 U.o, .int .i64 U.a, .int .i64 U.b, .int .i64 U.c] 43)
      rw [← hw7] at C0
      have hB7 : Below w.heap.size w w7 := by rw [hw7]; exact hB3.alloc hB3.size _
      have hb0 : w3.heap.size ≠ w.heap.size := by omega
      clear hw7 B0 t0
      generalize w3.heap.size = b7 at *
      obtain ⟨g, hg⟩ : ∃ g, w.heap.size + 1 = g := ⟨_, rfl⟩
      rw [hg]
      have Bz := ((((C0.set 0 (.int .i64 U.o) (by simp)).set 1 (.int .i64 U.a) (by simp)).set 2 (.int .i64 U.b) (by simp)).set 3 (.int .i64 U.c) (by simp)).below (Below.refl _ _).drew
      have qz := Bz.cell
      simp only [List.setIfInBounds_toArray, List.set_cons_zero, List.set_cons_succ] at qz
      have hBz := ((((hB7.setCell (p := ⟨w.heap.size, 0, none⟩) (Nat.le_refl _) (.int .i64 U.o)).setCell (p := ⟨w.heap.size, 1, none⟩) (Nat.le_refl _) (.int .i64 U.a)).setCell (p := ⟨w.heap.size, 2, none⟩) (Nat.le_refl _) (.int .i64 U.b)).setCell (p := ⟨w.heap.size, 3, none⟩) (Nat.le_refl _) (.int .i64 U.c)).drew
      have qd := C0.cell
      have fd := C0.free
      refine wp_region_held_drew (S := fun w' => Box w' b7 #[.int .i64 U.o, .int .i64 U.a, .int .i64 U.b, .int .i64 U.c]) (by kernel_rfl) (B7.below (Below.refl _ _).drew) (fun hHeld => ?_)
      refine wpAnyH_take (i := 0) (v := .agg #[.int .i64 U.o, .int .i64 U.a, .int .i64 U.b, .int .i64 U.c]) rfl (by kernel_rfl) (by kernel_rfl) (by kernel_rfl) (fun _ _ _ h => h) (Or.inl ⟨by rfl, fun w hSw => by have q := hSw.cell; go_simp⟩) (by assumption) ?_
      try simp only [Act.put, List.getElem_toArray, List.getElem_cons_zero, List.getElem_cons_succ, List.setIfInBounds_toArray, List.set_cons_zero, List.set_cons_succ]
      refine wpAnyH_take (i := 1) (v := .string Q) rfl (by kernel_rfl) (by kernel_rfl) (by kernel_rfl) (fun _ _ _ h => h) (Or.inl ⟨by rfl, fun w hSw => by go_simp⟩) (by assumption) ?_
      try simp only [Act.put, List.getElem_toArray, List.getElem_cons_zero, List.getElem_cons_succ, List.setIfInBounds_toArray, List.set_cons_zero, List.set_cons_succ]
      refine wpAnyH_take (i := 2) (v := .slice (some ⟨g, 0, none⟩) (n + 1) (n + 1)) rfl (by kernel_rfl) (by kernel_rfl) (by kernel_rfl) (fun _ _ _ h => h) (Or.inl ⟨by rfl, fun w hSw => by go_simp⟩) (by assumption) ?_
      try simp only [Act.put, List.getElem_toArray, List.getElem_cons_zero, List.getElem_cons_succ, List.setIfInBounds_toArray, List.set_cons_zero, List.set_cons_succ]
      refine wpAnyH_take (i := 3) (v := .int .i64 ((n : Int) + 1)) rfl (by kernel_rfl) (by kernel_rfl) (by kernel_rfl) (fun _ _ _ h => h) (Or.inl ⟨by rfl, fun w hSw => by go_simp⟩) (by assumption) ?_
      try simp only [Act.put, List.getElem_toArray, List.getElem_cons_zero, List.getElem_cons_succ, List.setIfInBounds_toArray, List.set_cons_zero, List.set_cons_succ]
      refine wpAnyH_take (i := 4) (v := .bool true) rfl (by kernel_rfl) (by kernel_rfl) (by kernel_rfl) (fun _ _ _ h => h) (Or.inl ⟨by rfl, fun w hSw => by go_simp⟩) (by assumption) ?_
      try simp only [Act.put, List.getElem_toArray, List.getElem_cons_zero, List.getElem_cons_succ, List.setIfInBounds_toArray, List.set_cons_zero, List.set_cons_succ]
      refine wpAnyH_take (i := 5) (v := .bool true) rfl (by kernel_rfl) (by kernel_rfl) (by kernel_rfl) (fun _ _ _ h => h) (Or.inl ⟨by rfl, fun w hSw => by go_simp⟩) (by assumption) ?_
      try simp only [Act.put, List.getElem_toArray, List.getElem_cons_zero, List.getElem_cons_succ, List.setIfInBounds_toArray, List.set_cons_zero, List.set_cons_succ]
      refine wpAnyH_take (i := 6) (v := .string Q) rfl (by kernel_rfl) (by kernel_rfl) (by kernel_rfl) (fun _ _ _ h => h) (Or.inl ⟨by rfl, fun w hSw => by go_simp⟩) (by assumption) ?_
      try simp only [Act.put, List.getElem_toArray, List.getElem_cons_zero, List.getElem_cons_succ, List.setIfInBounds_toArray, List.set_cons_zero, List.set_cons_succ]
      refine wpAnyH_ready (rs := [7]) (by kernel_rfl) (by simp) (AllReadyH.cons rfl (fun K hK => ?_) AllReadyH.nil)
      go_simp
      refine (cN _).mono ?_
      rintro e wn ⟨rfl, hwn⟩
      subst hwn
      refine hK.out _ _ hHeld (fun hHeld => ?_)
      clear hK K
      try simp only [Act.put, List.getElem_toArray, List.getElem_cons_zero, List.getElem_cons_succ, List.setIfInBounds_toArray, List.set_cons_zero, List.set_cons_succ]
      refine wpAnyH_take (i := 8) (v := .bool false) rfl (by kernel_rfl) (by kernel_rfl) (by kernel_rfl) (fun _ _ _ h => h) (Or.inl ⟨by rfl, fun w hSw => by go_simp⟩) (by assumption) ?_
      try simp only [Act.put, List.getElem_toArray, List.getElem_cons_zero, List.getElem_cons_succ, List.setIfInBounds_toArray, List.set_cons_zero, List.set_cons_succ]
      refine wpAnyH_take (i := 9) (v := .bool false) rfl (by kernel_rfl) (by kernel_rfl) (by kernel_rfl) (fun _ _ _ h => h) (Or.inl ⟨by rfl, fun w hSw => by go_simp⟩) (by assumption) ?_
      try simp only [Act.put, List.getElem_toArray, List.getElem_cons_zero, List.getElem_cons_succ, List.setIfInBounds_toArray, List.set_cons_zero, List.set_cons_succ]
      refine wpAnyH_take (i := 10) (v := undef) rfl (by kernel_rfl) (by kernel_rfl) (by kernel_rfl) (fun _ _ _ h => h) (Or.inr ⟨by rfl, rfl⟩) (by assumption) ?_
      try simp only [Act.put, List.getElem_toArray, List.getElem_cons_zero, List.getElem_cons_succ, List.setIfInBounds_toArray, List.set_cons_zero, List.set_cons_succ]
      refine wpAnyH_take (i := 11) (v := undef) rfl (by kernel_rfl) (by kernel_rfl) (by kernel_rfl) (fun _ _ _ h => h) (Or.inr ⟨by rfl, rfl⟩) (by assumption) ?_
      try simp only [Act.put, List.getElem_toArray, List.getElem_cons_zero, List.getElem_cons_succ, List.setIfInBounds_toArray, List.set_cons_zero, List.set_cons_succ]
      refine wpAnyH_take (i := 12) (v := .bool false) rfl (by kernel_rfl) (by kernel_rfl) (by kernel_rfl) (fun _ _ _ h => h) (Or.inl ⟨by rfl, fun w hSw => by go_simp⟩) (by assumption) ?_
      try simp only [Act.put, List.getElem_toArray, List.getElem_cons_zero, List.getElem_cons_succ, List.setIfInBounds_toArray, List.set_cons_zero, List.set_cons_succ]
      refine wpAnyH_take (i := 13) (v := .bool false) rfl (by kernel_rfl) (by kernel_rfl) (by kernel_rfl) (fun _ _ _ h => h) (Or.inl ⟨by rfl, fun w hSw => by go_simp⟩) (by assumption) ?_
      try simp only [Act.put, List.getElem_toArray, List.getElem_cons_zero, List.getElem_cons_succ, List.setIfInBounds_toArray, List.set_cons_zero, List.set_cons_succ]
      refine wpAnyH_take (i := 14) (v := undef) rfl (by kernel_rfl) (by kernel_rfl) (by kernel_rfl) (fun _ _ _ h => h) (Or.inr ⟨by rfl, rfl⟩) (by assumption) ?_
      try simp only [Act.put, List.getElem_toArray, List.getElem_cons_zero, List.getElem_cons_succ, List.setIfInBounds_toArray, List.set_cons_zero, List.set_cons_succ]
      refine wpAnyH_take (i := 15) (v := undef) rfl (by kernel_rfl) (by kernel_rfl) (by kernel_rfl) (fun _ _ _ h => h) (Or.inr ⟨by rfl, rfl⟩) (by assumption) ?_
      try simp only [Act.put, List.getElem_toArray, List.getElem_cons_zero, List.getElem_cons_succ, List.setIfInBounds_toArray, List.set_cons_zero, List.set_cons_succ]
      refine wpAnyH_take (i := 16) (v := undef) rfl (by kernel_rfl) (by kernel_rfl) (by kernel_rfl) (fun _ _ _ h => h) (Or.inr ⟨by rfl, rfl⟩) (by assumption) ?_
      try simp only [Act.put, List.getElem_toArray, List.getElem_cons_zero, List.getElem_cons_succ, List.setIfInBounds_toArray, List.set_cons_zero, List.set_cons_succ]
      refine wpAnyH_take (i := 17) (v := undef) rfl (by kernel_rfl) (by kernel_rfl) (by kernel_rfl) (fun _ _ _ h => h) (Or.inr ⟨by rfl, rfl⟩) (by assumption) ?_
      try simp only [Act.put, List.getElem_toArray, List.getElem_cons_zero, List.getElem_cons_succ, List.setIfInBounds_toArray, List.set_cons_zero, List.set_cons_succ]
      refine wpAnyH_take (i := 18) (v := undef) rfl (by kernel_rfl) (by kernel_rfl) (by kernel_rfl) (fun _ _ _ h => h) (Or.inr ⟨by rfl, rfl⟩) (by assumption) ?_
      try simp only [Act.put, List.getElem_toArray, List.getElem_cons_zero, List.getElem_cons_succ, List.setIfInBounds_toArray, List.set_cons_zero, List.set_cons_succ]
      refine wpAnyH_take (i := 19) (v := undef) rfl (by kernel_rfl) (by kernel_rfl) (by kernel_rfl) (fun _ _ _ h => h) (Or.inr ⟨by rfl, rfl⟩) (by assumption) ?_
      try simp only [Act.put, List.getElem_toArray, List.getElem_cons_zero, List.getElem_cons_succ, List.setIfInBounds_toArray, List.set_cons_zero, List.set_cons_succ]
      refine wpAnyH_take (i := 20) (v := undef) rfl (by kernel_rfl) (by kernel_rfl) (by kernel_rfl) (fun _ _ _ h => h) (Or.inr ⟨by rfl, rfl⟩) (by assumption) ?_
      try simp only [Act.put, List.getElem_toArray, List.getElem_cons_zero, List.getElem_cons_succ, List.setIfInBounds_toArray, List.set_cons_zero, List.set_cons_succ]
      refine wpAnyH_take (i := 21) (v := undef) rfl (by kernel_rfl) (by kernel_rfl) (by kernel_rfl) (fun _ _ _ h => h) (Or.inr ⟨by rfl, rfl⟩) (by assumption) ?_
      try simp only [Act.put, List.getElem_toArray, List.getElem_cons_zero, List.getElem_cons_succ, List.setIfInBounds_toArray, List.set_cons_zero, List.set_cons_succ]
      refine wpAnyH_take (i := 22) (v := .bool false) rfl (by kernel_rfl) (by kernel_rfl) (by kernel_rfl) (fun _ _ _ h => h) (Or.inl ⟨by rfl, fun w hSw => by go_simp⟩) (by assumption) ?_
      try simp only [Act.put, List.getElem_toArray, List.getElem_cons_zero, List.getElem_cons_succ, List.setIfInBounds_toArray, List.set_cons_zero, List.set_cons_succ]
      refine wpAnyH_ready (rs := [23]) (by kernel_rfl) (by simp) (AllReadyH.cons rfl (fun K hK => ?_) AllReadyH.nil)
      go_simp
      refine hK.out _ _ (((((B7.setOther hb0).setOther hb0).setOther hb0).setOther hb0).below (Below.refl _ _).drew) (fun hHeld => ?_)
      clear hK K
      try simp only [Act.put, List.getElem_toArray, List.getElem_cons_zero, List.getElem_cons_succ, List.setIfInBounds_toArray, List.set_cons_zero, List.set_cons_succ]
      refine wpAnyH_take (i := 24) (v := .string Q) rfl (by kernel_rfl) (by kernel_rfl) (by kernel_rfl) (fun _ _ _ h => h) (Or.inl ⟨by rfl, fun w hSw => by go_simp⟩) (by assumption) ?_
      try simp only [Act.put, List.getElem_toArray, List.getElem_cons_zero, List.getElem_cons_succ, List.setIfInBounds_toArray, List.set_cons_zero, List.set_cons_succ]
      refine wpAnyH_take (i := 25) (v := .bool false) rfl (by kernel_rfl) (by kernel_rfl) (by kernel_rfl) (fun _ _ _ h => h) (Or.inl ⟨by rfl, fun w hSw => by go_simp⟩) (by assumption) ?_
      try simp only [Act.put, List.getElem_toArray, List.getElem_cons_zero, List.getElem_cons_succ, List.setIfInBounds_toArray, List.set_cons_zero, List.set_cons_succ]
      refine wpAnyH_done (by kernel_rfl) ?_ _
      go_wp2
      exact bodyPost_ret (v := .tuple #[.agg #[.int .i64 U.o, .int .i64 U.a, .int .i64 U.b, .int .i64 U.c], .string Q, .bool false]) (by simp [results, Tryz.results12, go_sem, qz]) rfl ⟨rfl, hBz⟩
    · rw [hnm] at cN
      by_cases he : U.e = 0
      · have ge : (U.e == 0) = true := by simpa using he
        by_cases h8 : U.o = 8
        · have g8 : (U.o == 8) = true := by simpa using h8
          have hh : holeB n q U = true := by unfold holeB; rw [hnm, ge, g8, decide_eq_true g2]; rfl
          rw [hh]
          clear hh h0 hnm he h8
          go_enter Tryz.func12, Tryz.ntmps12
          go_upto_region 5 with (first | (go_at_call 9; refine (cS _ m (HM.out _ ((Below.refl _ _).alloc (Nat.le_refl _) _)).1).mono ?_; rintro e w1 ⟨rfl, hbb, Bg⟩; rw [World.size_alloc] at Bg; have B0 := (Box.new _ _ _).below hbb; have hB1 := Below.step0 ((Below.refl _ _).alloc (Nat.le_refl _) _) hbb; have q1 := Bg.cell; have f1 := Bg.free; clear hbb cS) | (go_at_call 29; have Bs := Bg.set n (.string (bL [48])) HSZ.out; rw [row_set] at Bs; have Z0 := B0.setOther (k' := w.heap.size + 1) (i := n) (v := .string (bL [48])) (by omega); have hS1 := hB1.setCell (p := ⟨w.heap.size + 1, n, none⟩) (by show w.heap.size ≤ w.heap.size + 1; omega) (.string (bL [48])); refine (cJ _ Bs).mono ?_; rintro e w2 ⟨rfl, hbb⟩; replace B0 := Z0.below hbb; have hB2 := Below.step0 hS1 hbb; clear hbb cJ q1 f1 Bs Z0 Bg hS1) | (go_at_call 14; refine (cI _ m (HM.out _ hB2).1 (HM.out _ hB2).2).mono ?_; rintro e w3 ⟨rfl, hbb⟩; replace B0 := B0.below hbb; have hB3 := Below.step0 hB2 hbb; have t0 := B0.lt; clear hbb cI))
          obtain ⟨w7, hw7⟩ : ∃ w7, w7 = w3.alloc (.cells #[.int .i64 U.o, .int .i64 U.a, .int .i64 U.b, .int .i64 U.c] 43) := ⟨_, rfl⟩
          rw [← hw7]
          have B7 := Box.new w3 #[.int .i64 U.o, .int .i64 U.a, .int .i64 U.b, .int .i64 U.c] 43
          rw [← hw7] at B7
          have C0 := B0.alloc (.cells #[.int .i64 U.o, .int .i64 U.a, .int .i64 U.b, .int .i64 U.c] 43)
          rw [← hw7] at C0
          have hB7 : Below w.heap.size w w7 := by rw [hw7]; exact hB3.alloc hB3.size _
          have hb0 : w3.heap.size ≠ w.heap.size := by omega
          clear hw7 B0 t0
          generalize w3.heap.size = b7 at *
          obtain ⟨g, hg⟩ : ∃ g, w.heap.size + 1 = g := ⟨_, rfl⟩
          rw [hg]
          have Bz := ((((C0.set 0 (.int .i64 U.o) (by simp)).set 1 (.int .i64 U.a) (by simp)).set 2 (.int .i64 U.b) (by simp)).set 3 (.int .i64 U.c) (by simp)).below (Below.refl _ _).drew
          have qz := Bz.cell
          simp only [List.setIfInBounds_toArray, List.set_cons_zero, List.set_cons_succ] at qz
          have hBz := ((((hB7.setCell (p := ⟨w.heap.size, 0, none⟩) (Nat.le_refl _) (.int .i64 U.o)).setCell (p := ⟨w.heap.size, 1, none⟩) (Nat.le_refl _) (.int .i64 U.a)).setCell (p := ⟨w.heap.size, 2, none⟩) (Nat.le_refl _) (.int .i64 U.b)).setCell (p := ⟨w.heap.size, 3, none⟩) (Nat.le_refl _) (.int .i64 U.c)).drew
          have qd := C0.cell
          have fd := C0.free
          refine wp_region_held_drew (S := fun w' => Box w' b7 #[.int .i64 U.o, .int .i64 U.a, .int .i64 U.b, .int .i64 U.c]) (by kernel_rfl) (B7.below (Below.refl _ _).drew) (fun hHeld => ?_)
          refine wpAnyH_take (i := 0) (v := .agg #[.int .i64 U.o, .int .i64 U.a, .int .i64 U.b, .int .i64 U.c]) rfl (by kernel_rfl) (by kernel_rfl) (by kernel_rfl) (fun _ _ _ h => h) (Or.inl ⟨by rfl, fun w hSw => by have q := hSw.cell; go_simp⟩) (by assumption) ?_
          try simp only [Act.put, List.getElem_toArray, List.getElem_cons_zero, List.getElem_cons_succ, List.setIfInBounds_toArray, List.set_cons_zero, List.set_cons_succ]
          refine wpAnyH_take (i := 1) (v := .string Q) rfl (by kernel_rfl) (by kernel_rfl) (by kernel_rfl) (fun _ _ _ h => h) (Or.inl ⟨by rfl, fun w hSw => by go_simp⟩) (by assumption) ?_
          try simp only [Act.put, List.getElem_toArray, List.getElem_cons_zero, List.getElem_cons_succ, List.setIfInBounds_toArray, List.set_cons_zero, List.set_cons_succ]
          refine wpAnyH_take (i := 2) (v := .slice (some ⟨g, 0, none⟩) (n + 1) (n + 1)) rfl (by kernel_rfl) (by kernel_rfl) (by kernel_rfl) (fun _ _ _ h => h) (Or.inl ⟨by rfl, fun w hSw => by go_simp⟩) (by assumption) ?_
          try simp only [Act.put, List.getElem_toArray, List.getElem_cons_zero, List.getElem_cons_succ, List.setIfInBounds_toArray, List.set_cons_zero, List.set_cons_succ]
          refine wpAnyH_take (i := 3) (v := .int .i64 ((n : Int) + 1)) rfl (by kernel_rfl) (by kernel_rfl) (by kernel_rfl) (fun _ _ _ h => h) (Or.inl ⟨by rfl, fun w hSw => by go_simp⟩) (by assumption) ?_
          try simp only [Act.put, List.getElem_toArray, List.getElem_cons_zero, List.getElem_cons_succ, List.setIfInBounds_toArray, List.set_cons_zero, List.set_cons_succ]
          refine wpAnyH_take (i := 4) (v := .bool true) rfl (by kernel_rfl) (by kernel_rfl) (by kernel_rfl) (fun _ _ _ h => h) (Or.inl ⟨by rfl, fun w hSw => by go_simp⟩) (by assumption) ?_
          try simp only [Act.put, List.getElem_toArray, List.getElem_cons_zero, List.getElem_cons_succ, List.setIfInBounds_toArray, List.set_cons_zero, List.set_cons_succ]
          refine wpAnyH_take (i := 5) (v := .bool true) rfl (by kernel_rfl) (by kernel_rfl) (by kernel_rfl) (fun _ _ _ h => h) (Or.inl ⟨by rfl, fun w hSw => by go_simp⟩) (by assumption) ?_
          try simp only [Act.put, List.getElem_toArray, List.getElem_cons_zero, List.getElem_cons_succ, List.setIfInBounds_toArray, List.set_cons_zero, List.set_cons_succ]
          refine wpAnyH_take (i := 6) (v := .string Q) rfl (by kernel_rfl) (by kernel_rfl) (by kernel_rfl) (fun _ _ _ h => h) (Or.inl ⟨by rfl, fun w hSw => by go_simp⟩) (by assumption) ?_
          try simp only [Act.put, List.getElem_toArray, List.getElem_cons_zero, List.getElem_cons_succ, List.setIfInBounds_toArray, List.set_cons_zero, List.set_cons_succ]
          refine wpAnyH_ready (rs := [7]) (by kernel_rfl) (by simp) (AllReadyH.cons rfl (fun K hK => ?_) AllReadyH.nil)
          go_simp
          refine (cN _).mono ?_
          rintro e wn ⟨rfl, hwn⟩
          subst hwn
          refine hK.out _ _ hHeld (fun hHeld => ?_)
          clear hK K
          try simp only [Act.put, List.getElem_toArray, List.getElem_cons_zero, List.getElem_cons_succ, List.setIfInBounds_toArray, List.set_cons_zero, List.set_cons_succ]
          refine wpAnyH_take (i := 8) (v := .bool true) rfl (by kernel_rfl) (by kernel_rfl) (by kernel_rfl) (fun _ _ _ h => h) (Or.inl ⟨by rfl, fun w hSw => by go_simp⟩) (by assumption) ?_
          try simp only [Act.put, List.getElem_toArray, List.getElem_cons_zero, List.getElem_cons_succ, List.setIfInBounds_toArray, List.set_cons_zero, List.set_cons_succ]
          refine wpAnyH_take (i := 9) (v := .bool true) rfl (by kernel_rfl) (by kernel_rfl) (by kernel_rfl) (fun _ _ _ h => h) (Or.inl ⟨by rfl, fun w hSw => by go_simp⟩) (by assumption) ?_
          try simp only [Act.put, List.getElem_toArray, List.getElem_cons_zero, List.getElem_cons_succ, List.setIfInBounds_toArray, List.set_cons_zero, List.set_cons_succ]
          refine wpAnyH_take (i := 10) (v := .int .i64 U.e) rfl (by kernel_rfl) (by kernel_rfl) (by kernel_rfl) (fun _ _ _ h => h) (Or.inl ⟨by rfl, fun w hSw => by go_simp⟩) (by assumption) ?_
          try simp only [Act.put, List.getElem_toArray, List.getElem_cons_zero, List.getElem_cons_succ, List.setIfInBounds_toArray, List.set_cons_zero, List.set_cons_succ]
          refine wpAnyH_take (i := 11) (v := .bool true) rfl (by kernel_rfl) (by kernel_rfl) (by kernel_rfl) (fun _ _ _ h => h) (Or.inl ⟨by rfl, fun w hSw => by go_simp⟩) (by assumption) ?_
          try simp only [Act.put, List.getElem_toArray, List.getElem_cons_zero, List.getElem_cons_succ, List.setIfInBounds_toArray, List.set_cons_zero, List.set_cons_succ]
          refine wpAnyH_take (i := 12) (v := .bool true) rfl (by kernel_rfl) (by kernel_rfl) (by kernel_rfl) (fun _ _ _ h => h) (Or.inl ⟨by rfl, fun w hSw => by go_simp⟩) (by assumption) ?_
          try simp only [Act.put, List.getElem_toArray, List.getElem_cons_zero, List.getElem_cons_succ, List.setIfInBounds_toArray, List.set_cons_zero, List.set_cons_succ]
          refine wpAnyH_take (i := 13) (v := .bool true) rfl (by kernel_rfl) (by kernel_rfl) (by kernel_rfl) (fun _ _ _ h => h) (Or.inl ⟨by rfl, fun w hSw => by go_simp⟩) (by assumption) ?_
          try simp only [Act.put, List.getElem_toArray, List.getElem_cons_zero, List.getElem_cons_succ, List.setIfInBounds_toArray, List.set_cons_zero, List.set_cons_succ]
          refine wpAnyH_take (i := 14) (v := .pointer (some ⟨b7, 0, none⟩)) rfl (by kernel_rfl) (by kernel_rfl) (by kernel_rfl) (fun _ _ _ h => h) (Or.inl ⟨by rfl, fun w hSw => by go_simp⟩) (by assumption) ?_
          try simp only [Act.put, List.getElem_toArray, List.getElem_cons_zero, List.getElem_cons_succ, List.setIfInBounds_toArray, List.set_cons_zero, List.set_cons_succ]
          refine wpAnyH_take (i := 15) (v := .int .i64 U.o) rfl (by kernel_rfl) (by kernel_rfl) (by kernel_rfl) (fun _ _ _ h => h) (Or.inl ⟨by rfl, fun w hSw => by have q := hSw.cell; go_simp⟩) (by assumption) ?_
          try simp only [Act.put, List.getElem_toArray, List.getElem_cons_zero, List.getElem_cons_succ, List.setIfInBounds_toArray, List.set_cons_zero, List.set_cons_succ]
          refine wpAnyH_take (i := 16) (v := .bool true) rfl (by kernel_rfl) (by kernel_rfl) (by kernel_rfl) (fun _ _ _ h => h) (Or.inl ⟨by rfl, fun w hSw => by go_simp⟩) (by assumption) ?_
          try simp only [Act.put, List.getElem_toArray, List.getElem_cons_zero, List.getElem_cons_succ, List.setIfInBounds_toArray, List.set_cons_zero, List.set_cons_succ]
          refine wpAnyH_take (i := 17) (v := .bool true) rfl (by kernel_rfl) (by kernel_rfl) (by kernel_rfl) (fun _ _ _ h => h) (Or.inl ⟨by rfl, fun w hSw => by go_simp⟩) (by assumption) ?_
          try simp only [Act.put, List.getElem_toArray, List.getElem_cons_zero, List.getElem_cons_succ, List.setIfInBounds_toArray, List.set_cons_zero, List.set_cons_succ]
          refine wpAnyH_take (i := 18) (v := undef) rfl (by kernel_rfl) (by kernel_rfl) (by kernel_rfl) (fun _ _ _ h => h) (Or.inr ⟨by rfl, rfl⟩) (by assumption) ?_
          try simp only [Act.put, List.getElem_toArray, List.getElem_cons_zero, List.getElem_cons_succ, List.setIfInBounds_toArray, List.set_cons_zero, List.set_cons_succ]
          refine wpAnyH_take (i := 19) (v := undef) rfl (by kernel_rfl) (by kernel_rfl) (by kernel_rfl) (fun _ _ _ h => h) (Or.inr ⟨by rfl, rfl⟩) (by assumption) ?_
          try simp only [Act.put, List.getElem_toArray, List.getElem_cons_zero, List.getElem_cons_succ, List.setIfInBounds_toArray, List.set_cons_zero, List.set_cons_succ]
          refine wpAnyH_take (i := 20) (v := undef) rfl (by kernel_rfl) (by kernel_rfl) (by kernel_rfl) (fun _ _ _ h => h) (Or.inr ⟨by rfl, rfl⟩) (by assumption) ?_
          try simp only [Act.put, List.getElem_toArray, List.getElem_cons_zero, List.getElem_cons_succ, List.setIfInBounds_toArray, List.set_cons_zero, List.set_cons_succ]
          refine wpAnyH_take (i := 21) (v := .bool true) rfl (by kernel_rfl) (by kernel_rfl) (by kernel_rfl) (fun _ _ _ h => h) (Or.inl ⟨by rfl, fun w hSw => by go_simp⟩) (by assumption) ?_
          try simp only [Act.put, List.getElem_toArray, List.getElem_cons_zero, List.getElem_cons_succ, List.setIfInBounds_toArray, List.set_cons_zero, List.set_cons_succ]
          refine wpAnyH_take (i := 22) (v := .bool true) rfl (by kernel_rfl) (by kernel_rfl) (by kernel_rfl) (fun _ _ _ h => h) (Or.inl ⟨by rfl, fun w hSw => by go_simp⟩) (by assumption) ?_
          try simp only [Act.put, List.getElem_toArray, List.getElem_cons_zero, List.getElem_cons_succ, List.setIfInBounds_toArray, List.set_cons_zero, List.set_cons_succ]
          refine wpAnyH_ready (rs := [23]) (by kernel_rfl) (by simp) (AllReadyH.cons rfl (fun K hK => ?_) AllReadyH.nil)
          go_simp
          refine hK.out _ _ (((((B7.setOther hb0).setOther hb0).setOther hb0).setOther hb0).below (Below.refl _ _).drew) (fun hHeld => ?_)
          clear hK K
          try simp only [Act.put, List.getElem_toArray, List.getElem_cons_zero, List.getElem_cons_succ, List.setIfInBounds_toArray, List.set_cons_zero, List.set_cons_succ]
          refine wpAnyH_take (i := 24) (v := .string Q) rfl (by kernel_rfl) (by kernel_rfl) (by kernel_rfl) (fun _ _ _ h => h) (Or.inl ⟨by rfl, fun w hSw => by go_simp⟩) (by assumption) ?_
          try simp only [Act.put, List.getElem_toArray, List.getElem_cons_zero, List.getElem_cons_succ, List.setIfInBounds_toArray, List.set_cons_zero, List.set_cons_succ]
          refine wpAnyH_take (i := 25) (v := .bool true) rfl (by kernel_rfl) (by kernel_rfl) (by kernel_rfl) (fun _ _ _ h => h) (Or.inl ⟨by rfl, fun w hSw => by go_simp⟩) (by assumption) ?_
          try simp only [Act.put, List.getElem_toArray, List.getElem_cons_zero, List.getElem_cons_succ, List.setIfInBounds_toArray, List.set_cons_zero, List.set_cons_succ]
          refine wpAnyH_done (by kernel_rfl) ?_ _
          go_wp2
          exact bodyPost_ret (v := .tuple #[.agg #[.int .i64 U.o, .int .i64 U.a, .int .i64 U.b, .int .i64 U.c], .string Q, .bool true]) (by simp [results, Tryz.results12, go_sem, qz]) rfl ⟨rfl, hBz⟩
        · have g8 : (U.o == 8) = false := by simpa using h8
          by_cases h9 : U.o = 9
          · have g9 : (U.o == 9) = true := by simpa using h9
            have hh : holeB n q U = true := by unfold holeB; rw [hnm, ge, g8, g9, decide_eq_true g2]; rfl
            rw [hh]
            clear hh h0 hnm he h8 h9
            go_enter Tryz.func12, Tryz.ntmps12
            go_upto_region 5 with (first | (go_at_call 9; refine (cS _ m (HM.out _ ((Below.refl _ _).alloc (Nat.le_refl _) _)).1).mono ?_; rintro e w1 ⟨rfl, hbb, Bg⟩; rw [World.size_alloc] at Bg; have B0 := (Box.new _ _ _).below hbb; have hB1 := Below.step0 ((Below.refl _ _).alloc (Nat.le_refl _) _) hbb; have q1 := Bg.cell; have f1 := Bg.free; clear hbb cS) | (go_at_call 29; have Bs := Bg.set n (.string (bL [48])) HSZ.out; rw [row_set] at Bs; have Z0 := B0.setOther (k' := w.heap.size + 1) (i := n) (v := .string (bL [48])) (by omega); have hS1 := hB1.setCell (p := ⟨w.heap.size + 1, n, none⟩) (by show w.heap.size ≤ w.heap.size + 1; omega) (.string (bL [48])); refine (cJ _ Bs).mono ?_; rintro e w2 ⟨rfl, hbb⟩; replace B0 := Z0.below hbb; have hB2 := Below.step0 hS1 hbb; clear hbb cJ q1 f1 Bs Z0 Bg hS1) | (go_at_call 14; refine (cI _ m (HM.out _ hB2).1 (HM.out _ hB2).2).mono ?_; rintro e w3 ⟨rfl, hbb⟩; replace B0 := B0.below hbb; have hB3 := Below.step0 hB2 hbb; have t0 := B0.lt; clear hbb cI))
            obtain ⟨w7, hw7⟩ : ∃ w7, w7 = w3.alloc (.cells #[.int .i64 U.o, .int .i64 U.a, .int .i64 U.b, .int .i64 U.c] 43) := ⟨_, rfl⟩
            rw [← hw7]
            have B7 := Box.new w3 #[.int .i64 U.o, .int .i64 U.a, .int .i64 U.b, .int .i64 U.c] 43
            rw [← hw7] at B7
            have C0 := B0.alloc (.cells #[.int .i64 U.o, .int .i64 U.a, .int .i64 U.b, .int .i64 U.c] 43)
            rw [← hw7] at C0
            have hB7 : Below w.heap.size w w7 := by rw [hw7]; exact hB3.alloc hB3.size _
            have hb0 : w3.heap.size ≠ w.heap.size := by omega
            clear hw7 B0 t0
            generalize w3.heap.size = b7 at *
            obtain ⟨g, hg⟩ : ∃ g, w.heap.size + 1 = g := ⟨_, rfl⟩
            rw [hg]
            have Bz := ((((C0.set 0 (.int .i64 U.o) (by simp)).set 1 (.int .i64 U.a) (by simp)).set 2 (.int .i64 U.b) (by simp)).set 3 (.int .i64 U.c) (by simp)).below (Below.refl _ _).drew
            have qz := Bz.cell
            simp only [List.setIfInBounds_toArray, List.set_cons_zero, List.set_cons_succ] at qz
            have hBz := ((((hB7.setCell (p := ⟨w.heap.size, 0, none⟩) (Nat.le_refl _) (.int .i64 U.o)).setCell (p := ⟨w.heap.size, 1, none⟩) (Nat.le_refl _) (.int .i64 U.a)).setCell (p := ⟨w.heap.size, 2, none⟩) (Nat.le_refl _) (.int .i64 U.b)).setCell (p := ⟨w.heap.size, 3, none⟩) (Nat.le_refl _) (.int .i64 U.c)).drew
            have qd := C0.cell
            have fd := C0.free
            refine wp_region_held_drew (S := fun w' => Box w' b7 #[.int .i64 U.o, .int .i64 U.a, .int .i64 U.b, .int .i64 U.c]) (by kernel_rfl) (B7.below (Below.refl _ _).drew) (fun hHeld => ?_)
            refine wpAnyH_take (i := 0) (v := .agg #[.int .i64 U.o, .int .i64 U.a, .int .i64 U.b, .int .i64 U.c]) rfl (by kernel_rfl) (by kernel_rfl) (by kernel_rfl) (fun _ _ _ h => h) (Or.inl ⟨by rfl, fun w hSw => by have q := hSw.cell; go_simp⟩) (by assumption) ?_
            try simp only [Act.put, List.getElem_toArray, List.getElem_cons_zero, List.getElem_cons_succ, List.setIfInBounds_toArray, List.set_cons_zero, List.set_cons_succ]
            refine wpAnyH_take (i := 1) (v := .string Q) rfl (by kernel_rfl) (by kernel_rfl) (by kernel_rfl) (fun _ _ _ h => h) (Or.inl ⟨by rfl, fun w hSw => by go_simp⟩) (by assumption) ?_
            try simp only [Act.put, List.getElem_toArray, List.getElem_cons_zero, List.getElem_cons_succ, List.setIfInBounds_toArray, List.set_cons_zero, List.set_cons_succ]
            refine wpAnyH_take (i := 2) (v := .slice (some ⟨g, 0, none⟩) (n + 1) (n + 1)) rfl (by kernel_rfl) (by kernel_rfl) (by kernel_rfl) (fun _ _ _ h => h) (Or.inl ⟨by rfl, fun w hSw => by go_simp⟩) (by assumption) ?_
            try simp only [Act.put, List.getElem_toArray, List.getElem_cons_zero, List.getElem_cons_succ, List.setIfInBounds_toArray, List.set_cons_zero, List.set_cons_succ]
            refine wpAnyH_take (i := 3) (v := .int .i64 ((n : Int) + 1)) rfl (by kernel_rfl) (by kernel_rfl) (by kernel_rfl) (fun _ _ _ h => h) (Or.inl ⟨by rfl, fun w hSw => by go_simp⟩) (by assumption) ?_
            try simp only [Act.put, List.getElem_toArray, List.getElem_cons_zero, List.getElem_cons_succ, List.setIfInBounds_toArray, List.set_cons_zero, List.set_cons_succ]
            refine wpAnyH_take (i := 4) (v := .bool true) rfl (by kernel_rfl) (by kernel_rfl) (by kernel_rfl) (fun _ _ _ h => h) (Or.inl ⟨by rfl, fun w hSw => by go_simp⟩) (by assumption) ?_
            try simp only [Act.put, List.getElem_toArray, List.getElem_cons_zero, List.getElem_cons_succ, List.setIfInBounds_toArray, List.set_cons_zero, List.set_cons_succ]
            refine wpAnyH_take (i := 5) (v := .bool true) rfl (by kernel_rfl) (by kernel_rfl) (by kernel_rfl) (fun _ _ _ h => h) (Or.inl ⟨by rfl, fun w hSw => by go_simp⟩) (by assumption) ?_
            try simp only [Act.put, List.getElem_toArray, List.getElem_cons_zero, List.getElem_cons_succ, List.setIfInBounds_toArray, List.set_cons_zero, List.set_cons_succ]
            refine wpAnyH_take (i := 6) (v := .string Q) rfl (by kernel_rfl) (by kernel_rfl) (by kernel_rfl) (fun _ _ _ h => h) (Or.inl ⟨by rfl, fun w hSw => by go_simp⟩) (by assumption) ?_
            try simp only [Act.put, List.getElem_toArray, List.getElem_cons_zero, List.getElem_cons_succ, List.setIfInBounds_toArray, List.set_cons_zero, List.set_cons_succ]
            refine wpAnyH_ready (rs := [7]) (by kernel_rfl) (by simp) (AllReadyH.cons rfl (fun K hK => ?_) AllReadyH.nil)
            go_simp
            refine (cN _).mono ?_
            rintro e wn ⟨rfl, hwn⟩
            subst hwn
            refine hK.out _ _ hHeld (fun hHeld => ?_)
            clear hK K
            try simp only [Act.put, List.getElem_toArray, List.getElem_cons_zero, List.getElem_cons_succ, List.setIfInBounds_toArray, List.set_cons_zero, List.set_cons_succ]
            refine wpAnyH_take (i := 8) (v := .bool true) rfl (by kernel_rfl) (by kernel_rfl) (by kernel_rfl) (fun _ _ _ h => h) (Or.inl ⟨by rfl, fun w hSw => by go_simp⟩) (by assumption) ?_
            try simp only [Act.put, List.getElem_toArray, List.getElem_cons_zero, List.getElem_cons_succ, List.setIfInBounds_toArray, List.set_cons_zero, List.set_cons_succ]
            refine wpAnyH_take (i := 9) (v := .bool true) rfl (by kernel_rfl) (by kernel_rfl) (by kernel_rfl) (fun _ _ _ h => h) (Or.inl ⟨by rfl, fun w hSw => by go_simp⟩) (by assumption) ?_
            try simp only [Act.put, List.getElem_toArray, List.getElem_cons_zero, List.getElem_cons_succ, List.setIfInBounds_toArray, List.set_cons_zero, List.set_cons_succ]
            refine wpAnyH_take (i := 10) (v := .int .i64 U.e) rfl (by kernel_rfl) (by kernel_rfl) (by kernel_rfl) (fun _ _ _ h => h) (Or.inl ⟨by rfl, fun w hSw => by go_simp⟩) (by assumption) ?_
            try simp only [Act.put, List.getElem_toArray, List.getElem_cons_zero, List.getElem_cons_succ, List.setIfInBounds_toArray, List.set_cons_zero, List.set_cons_succ]
            refine wpAnyH_take (i := 11) (v := .bool true) rfl (by kernel_rfl) (by kernel_rfl) (by kernel_rfl) (fun _ _ _ h => h) (Or.inl ⟨by rfl, fun w hSw => by go_simp⟩) (by assumption) ?_
            try simp only [Act.put, List.getElem_toArray, List.getElem_cons_zero, List.getElem_cons_succ, List.setIfInBounds_toArray, List.set_cons_zero, List.set_cons_succ]
            refine wpAnyH_take (i := 12) (v := .bool true) rfl (by kernel_rfl) (by kernel_rfl) (by kernel_rfl) (fun _ _ _ h => h) (Or.inl ⟨by rfl, fun w hSw => by go_simp⟩) (by assumption) ?_
            try simp only [Act.put, List.getElem_toArray, List.getElem_cons_zero, List.getElem_cons_succ, List.setIfInBounds_toArray, List.set_cons_zero, List.set_cons_succ]
            refine wpAnyH_take (i := 13) (v := .bool true) rfl (by kernel_rfl) (by kernel_rfl) (by kernel_rfl) (fun _ _ _ h => h) (Or.inl ⟨by rfl, fun w hSw => by go_simp⟩) (by assumption) ?_
            try simp only [Act.put, List.getElem_toArray, List.getElem_cons_zero, List.getElem_cons_succ, List.setIfInBounds_toArray, List.set_cons_zero, List.set_cons_succ]
            refine wpAnyH_take (i := 14) (v := .pointer (some ⟨b7, 0, none⟩)) rfl (by kernel_rfl) (by kernel_rfl) (by kernel_rfl) (fun _ _ _ h => h) (Or.inl ⟨by rfl, fun w hSw => by go_simp⟩) (by assumption) ?_
            try simp only [Act.put, List.getElem_toArray, List.getElem_cons_zero, List.getElem_cons_succ, List.setIfInBounds_toArray, List.set_cons_zero, List.set_cons_succ]
            refine wpAnyH_take (i := 15) (v := .int .i64 U.o) rfl (by kernel_rfl) (by kernel_rfl) (by kernel_rfl) (fun _ _ _ h => h) (Or.inl ⟨by rfl, fun w hSw => by have q := hSw.cell; go_simp⟩) (by assumption) ?_
            try simp only [Act.put, List.getElem_toArray, List.getElem_cons_zero, List.getElem_cons_succ, List.setIfInBounds_toArray, List.set_cons_zero, List.set_cons_succ]
            refine wpAnyH_take (i := 16) (v := .bool false) rfl (by kernel_rfl) (by kernel_rfl) (by kernel_rfl) (fun _ _ _ h => h) (Or.inl ⟨by rfl, fun w hSw => by go_simp⟩) (by assumption) ?_
            try simp only [Act.put, List.getElem_toArray, List.getElem_cons_zero, List.getElem_cons_succ, List.setIfInBounds_toArray, List.set_cons_zero, List.set_cons_succ]
            refine wpAnyH_take (i := 17) (v := .bool false) rfl (by kernel_rfl) (by kernel_rfl) (by kernel_rfl) (fun _ _ _ h => h) (Or.inl ⟨by rfl, fun w hSw => by go_simp⟩) (by assumption) ?_
            try simp only [Act.put, List.getElem_toArray, List.getElem_cons_zero, List.getElem_cons_succ, List.setIfInBounds_toArray, List.set_cons_zero, List.set_cons_succ]
            refine wpAnyH_take (i := 18) (v := .pointer (some ⟨b7, 0, none⟩)) rfl (by kernel_rfl) (by kernel_rfl) (by kernel_rfl) (fun _ _ _ h => h) (Or.inl ⟨by rfl, fun w hSw => by go_simp⟩) (by assumption) ?_
            try simp only [Act.put, List.getElem_toArray, List.getElem_cons_zero, List.getElem_cons_succ, List.setIfInBounds_toArray, List.set_cons_zero, List.set_cons_succ]
            refine wpAnyH_take (i := 19) (v := .int .i64 U.o) rfl (by kernel_rfl) (by kernel_rfl) (by kernel_rfl) (fun _ _ _ h => h) (Or.inl ⟨by rfl, fun w hSw => by have q := hSw.cell; go_simp⟩) (by assumption) ?_
            try simp only [Act.put, List.getElem_toArray, List.getElem_cons_zero, List.getElem_cons_succ, List.setIfInBounds_toArray, List.set_cons_zero, List.set_cons_succ]
            refine wpAnyH_take (i := 20) (v := .bool true) rfl (by kernel_rfl) (by kernel_rfl) (by kernel_rfl) (fun _ _ _ h => h) (Or.inl ⟨by rfl, fun w hSw => by go_simp⟩) (by assumption) ?_
            try simp only [Act.put, List.getElem_toArray, List.getElem_cons_zero, List.getElem_cons_succ, List.setIfInBounds_toArray, List.set_cons_zero, List.set_cons_succ]
            refine wpAnyH_take (i := 21) (v := .bool true) rfl (by kernel_rfl) (by kernel_rfl) (by kernel_rfl) (fun _ _ _ h => h) (Or.inl ⟨by rfl, fun w hSw => by go_simp⟩) (by assumption) ?_
            try simp only [Act.put, List.getElem_toArray, List.getElem_cons_zero, List.getElem_cons_succ, List.setIfInBounds_toArray, List.set_cons_zero, List.set_cons_succ]
            refine wpAnyH_take (i := 22) (v := .bool true) rfl (by kernel_rfl) (by kernel_rfl) (by kernel_rfl) (fun _ _ _ h => h) (Or.inl ⟨by rfl, fun w hSw => by go_simp⟩) (by assumption) ?_
            try simp only [Act.put, List.getElem_toArray, List.getElem_cons_zero, List.getElem_cons_succ, List.setIfInBounds_toArray, List.set_cons_zero, List.set_cons_succ]
            refine wpAnyH_ready (rs := [23]) (by kernel_rfl) (by simp) (AllReadyH.cons rfl (fun K hK => ?_) AllReadyH.nil)
            go_simp
            refine hK.out _ _ (((((B7.setOther hb0).setOther hb0).setOther hb0).setOther hb0).below (Below.refl _ _).drew) (fun hHeld => ?_)
            clear hK K
            try simp only [Act.put, List.getElem_toArray, List.getElem_cons_zero, List.getElem_cons_succ, List.setIfInBounds_toArray, List.set_cons_zero, List.set_cons_succ]
            refine wpAnyH_take (i := 24) (v := .string Q) rfl (by kernel_rfl) (by kernel_rfl) (by kernel_rfl) (fun _ _ _ h => h) (Or.inl ⟨by rfl, fun w hSw => by go_simp⟩) (by assumption) ?_
            try simp only [Act.put, List.getElem_toArray, List.getElem_cons_zero, List.getElem_cons_succ, List.setIfInBounds_toArray, List.set_cons_zero, List.set_cons_succ]
            refine wpAnyH_take (i := 25) (v := .bool true) rfl (by kernel_rfl) (by kernel_rfl) (by kernel_rfl) (fun _ _ _ h => h) (Or.inl ⟨by rfl, fun w hSw => by go_simp⟩) (by assumption) ?_
            try simp only [Act.put, List.getElem_toArray, List.getElem_cons_zero, List.getElem_cons_succ, List.setIfInBounds_toArray, List.set_cons_zero, List.set_cons_succ]
            refine wpAnyH_done (by kernel_rfl) ?_ _
            go_wp2
            exact bodyPost_ret (v := .tuple #[.agg #[.int .i64 U.o, .int .i64 U.a, .int .i64 U.b, .int .i64 U.c], .string Q, .bool true]) (by simp [results, Tryz.results12, go_sem, qz]) rfl ⟨rfl, hBz⟩
          · have g9 : (U.o == 9) = false := by simpa using h9
            have hh : holeB n q U = false := by unfold holeB; rw [ge, g8, g9]; simp
            rw [hh]
            clear hh h0 hnm he h8 h9
            go_enter Tryz.func12, Tryz.ntmps12
            go_upto_region 5 with (first | (go_at_call 9; refine (cS _ m (HM.out _ ((Below.refl _ _).alloc (Nat.le_refl _) _)).1).mono ?_; rintro e w1 ⟨rfl, hbb, Bg⟩; rw [World.size_alloc] at Bg; have B0 := (Box.new _ _ _).below hbb; have hB1 := Below.step0 ((Below.refl _ _).alloc (Nat.le_refl _) _) hbb; have q1 := Bg.cell; have f1 := Bg.free; clear hbb cS) | (go_at_call 29; have Bs := Bg.set n (.string (bL [48])) HSZ.out; rw [row_set] at Bs; have Z0 := B0.setOther (k' := w.heap.size + 1) (i := n) (v := .string (bL [48])) (by omega); have hS1 := hB1.setCell (p := ⟨w.heap.size + 1, n, none⟩) (by show w.heap.size ≤ w.heap.size + 1; omega) (.string (bL [48])); refine (cJ _ Bs).mono ?_; rintro e w2 ⟨rfl, hbb⟩; replace B0 := Z0.below hbb; have hB2 := Below.step0 hS1 hbb; clear hbb cJ q1 f1 Bs Z0 Bg hS1) | (go_at_call 14; refine (cI _ m (HM.out _ hB2).1 (HM.out _ hB2).2).mono ?_; rintro e w3 ⟨rfl, hbb⟩; replace B0 := B0.below hbb; have hB3 := Below.step0 hB2 hbb; have t0 := B0.lt; clear hbb cI))
            obtain ⟨w7, hw7⟩ : ∃ w7, w7 = w3.alloc (.cells #[.int .i64 U.o, .int .i64 U.a, .int .i64 U.b, .int .i64 U.c] 43) := ⟨_, rfl⟩
            rw [← hw7]
            have B7 := Box.new w3 #[.int .i64 U.o, .int .i64 U.a, .int .i64 U.b, .int .i64 U.c] 43
            rw [← hw7] at B7
            have C0 := B0.alloc (.cells #[.int .i64 U.o, .int .i64 U.a, .int .i64 U.b, .int .i64 U.c] 43)
            rw [← hw7] at C0
            have hB7 : Below w.heap.size w w7 := by rw [hw7]; exact hB3.alloc hB3.size _
            have hb0 : w3.heap.size ≠ w.heap.size := by omega
            clear hw7 B0 t0
            generalize w3.heap.size = b7 at *
            obtain ⟨g, hg⟩ : ∃ g, w.heap.size + 1 = g := ⟨_, rfl⟩
            rw [hg]
            have Bz := ((((C0.set 0 (.int .i64 U.o) (by simp)).set 1 (.int .i64 U.a) (by simp)).set 2 (.int .i64 U.b) (by simp)).set 3 (.int .i64 U.c) (by simp)).below (Below.refl _ _).drew
            have qz := Bz.cell
            simp only [List.setIfInBounds_toArray, List.set_cons_zero, List.set_cons_succ] at qz
            have hBz := ((((hB7.setCell (p := ⟨w.heap.size, 0, none⟩) (Nat.le_refl _) (.int .i64 U.o)).setCell (p := ⟨w.heap.size, 1, none⟩) (Nat.le_refl _) (.int .i64 U.a)).setCell (p := ⟨w.heap.size, 2, none⟩) (Nat.le_refl _) (.int .i64 U.b)).setCell (p := ⟨w.heap.size, 3, none⟩) (Nat.le_refl _) (.int .i64 U.c)).drew
            have qd := C0.cell
            have fd := C0.free
            refine wp_region_held_drew (S := fun w' => Box w' b7 #[.int .i64 U.o, .int .i64 U.a, .int .i64 U.b, .int .i64 U.c]) (by kernel_rfl) (B7.below (Below.refl _ _).drew) (fun hHeld => ?_)
            refine wpAnyH_take (i := 0) (v := .agg #[.int .i64 U.o, .int .i64 U.a, .int .i64 U.b, .int .i64 U.c]) rfl (by kernel_rfl) (by kernel_rfl) (by kernel_rfl) (fun _ _ _ h => h) (Or.inl ⟨by rfl, fun w hSw => by have q := hSw.cell; go_simp⟩) (by assumption) ?_
            try simp only [Act.put, List.getElem_toArray, List.getElem_cons_zero, List.getElem_cons_succ, List.setIfInBounds_toArray, List.set_cons_zero, List.set_cons_succ]
            refine wpAnyH_take (i := 1) (v := .string Q) rfl (by kernel_rfl) (by kernel_rfl) (by kernel_rfl) (fun _ _ _ h => h) (Or.inl ⟨by rfl, fun w hSw => by go_simp⟩) (by assumption) ?_
            try simp only [Act.put, List.getElem_toArray, List.getElem_cons_zero, List.getElem_cons_succ, List.setIfInBounds_toArray, List.set_cons_zero, List.set_cons_succ]
            refine wpAnyH_take (i := 2) (v := .slice (some ⟨g, 0, none⟩) (n + 1) (n + 1)) rfl (by kernel_rfl) (by kernel_rfl) (by kernel_rfl) (fun _ _ _ h => h) (Or.inl ⟨by rfl, fun w hSw => by go_simp⟩) (by assumption) ?_
            try simp only [Act.put, List.getElem_toArray, List.getElem_cons_zero, List.getElem_cons_succ, List.setIfInBounds_toArray, List.set_cons_zero, List.set_cons_succ]
            refine wpAnyH_take (i := 3) (v := .int .i64 ((n : Int) + 1)) rfl (by kernel_rfl) (by kernel_rfl) (by kernel_rfl) (fun _ _ _ h => h) (Or.inl ⟨by rfl, fun w hSw => by go_simp⟩) (by assumption) ?_
            try simp only [Act.put, List.getElem_toArray, List.getElem_cons_zero, List.getElem_cons_succ, List.setIfInBounds_toArray, List.set_cons_zero, List.set_cons_succ]
            refine wpAnyH_take (i := 4) (v := .bool true) rfl (by kernel_rfl) (by kernel_rfl) (by kernel_rfl) (fun _ _ _ h => h) (Or.inl ⟨by rfl, fun w hSw => by go_simp⟩) (by assumption) ?_
            try simp only [Act.put, List.getElem_toArray, List.getElem_cons_zero, List.getElem_cons_succ, List.setIfInBounds_toArray, List.set_cons_zero, List.set_cons_succ]
            refine wpAnyH_take (i := 5) (v := .bool true) rfl (by kernel_rfl) (by kernel_rfl) (by kernel_rfl) (fun _ _ _ h => h) (Or.inl ⟨by rfl, fun w hSw => by go_simp⟩) (by assumption) ?_
            try simp only [Act.put, List.getElem_toArray, List.getElem_cons_zero, List.getElem_cons_succ, List.setIfInBounds_toArray, List.set_cons_zero, List.set_cons_succ]
            refine wpAnyH_take (i := 6) (v := .string Q) rfl (by kernel_rfl) (by kernel_rfl) (by kernel_rfl) (fun _ _ _ h => h) (Or.inl ⟨by rfl, fun w hSw => by go_simp⟩) (by assumption) ?_
            try simp only [Act.put, List.getElem_toArray, List.getElem_cons_zero, List.getElem_cons_succ, List.setIfInBounds_toArray, List.set_cons_zero, List.set_cons_succ]
            refine wpAnyH_ready (rs := [7]) (by kernel_rfl) (by simp) (AllReadyH.cons rfl (fun K hK => ?_) AllReadyH.nil)
            go_simp
            refine (cN _).mono ?_
            rintro e wn ⟨rfl, hwn⟩
            subst hwn
            refine hK.out _ _ hHeld (fun hHeld => ?_)
            clear hK K
            try simp only [Act.put, List.getElem_toArray, List.getElem_cons_zero, List.getElem_cons_succ, List.setIfInBounds_toArray, List.set_cons_zero, List.set_cons_succ]
            refine wpAnyH_take (i := 8) (v := .bool true) rfl (by kernel_rfl) (by kernel_rfl) (by kernel_rfl) (fun _ _ _ h => h) (Or.inl ⟨by rfl, fun w hSw => by go_simp⟩) (by assumption) ?_
            try simp only [Act.put, List.getElem_toArray, List.getElem_cons_zero, List.getElem_cons_succ, List.setIfInBounds_toArray, List.set_cons_zero, List.set_cons_succ]
            refine wpAnyH_take (i := 9) (v := .bool true) rfl (by kernel_rfl) (by kernel_rfl) (by kernel_rfl) (fun _ _ _ h => h) (Or.inl ⟨by rfl, fun w hSw => by go_simp⟩) (by assumption) ?_
            try simp only [Act.put, List.getElem_toArray, List.getElem_cons_zero, List.getElem_cons_succ, List.setIfInBounds_toArray, List.set_cons_zero, List.set_cons_succ]
            refine wpAnyH_take (i := 10) (v := .int .i64 U.e) rfl (by kernel_rfl) (by kernel_rfl) (by kernel_rfl) (fun _ _ _ h => h) (Or.inl ⟨by rfl, fun w hSw => by go_simp⟩) (by assumption) ?_
            try simp only [Act.put, List.getElem_toArray, List.getElem_cons_zero, List.getElem_cons_succ, List.setIfInBounds_toArray, List.set_cons_zero, List.set_cons_succ]
            refine wpAnyH_take (i := 11) (v := .bool true) rfl (by kernel_rfl) (by kernel_rfl) (by kernel_rfl) (fun _ _ _ h => h) (Or.inl ⟨by rfl, fun w hSw => by go_simp⟩) (by assumption) ?_
            try simp only [Act.put, List.getElem_toArray, List.getElem_cons_zero, List.getElem_cons_succ, List.setIfInBounds_toArray, List.set_cons_zero, List.set_cons_succ]
            refine wpAnyH_take (i := 12) (v := .bool true) rfl (by kernel_rfl) (by kernel_rfl) (by kernel_rfl) (fun _ _ _ h => h) (Or.inl ⟨by rfl, fun w hSw => by go_simp⟩) (by assumption) ?_
            try simp only [Act.put, List.getElem_toArray, List.getElem_cons_zero, List.getElem_cons_succ, List.setIfInBounds_toArray, List.set_cons_zero, List.set_cons_succ]
            refine wpAnyH_take (i := 13) (v := .bool true) rfl (by kernel_rfl) (by kernel_rfl) (by kernel_rfl) (fun _ _ _ h => h) (Or.inl ⟨by rfl, fun w hSw => by go_simp⟩) (by assumption) ?_
            try simp only [Act.put, List.getElem_toArray, List.getElem_cons_zero, List.getElem_cons_succ, List.setIfInBounds_toArray, List.set_cons_zero, List.set_cons_succ]
            refine wpAnyH_take (i := 14) (v := .pointer (some ⟨b7, 0, none⟩)) rfl (by kernel_rfl) (by kernel_rfl) (by kernel_rfl) (fun _ _ _ h => h) (Or.inl ⟨by rfl, fun w hSw => by go_simp⟩) (by assumption) ?_
            try simp only [Act.put, List.getElem_toArray, List.getElem_cons_zero, List.getElem_cons_succ, List.setIfInBounds_toArray, List.set_cons_zero, List.set_cons_succ]
            refine wpAnyH_take (i := 15) (v := .int .i64 U.o) rfl (by kernel_rfl) (by kernel_rfl) (by kernel_rfl) (fun _ _ _ h => h) (Or.inl ⟨by rfl, fun w hSw => by have q := hSw.cell; go_simp⟩) (by assumption) ?_
            try simp only [Act.put, List.getElem_toArray, List.getElem_cons_zero, List.getElem_cons_succ, List.setIfInBounds_toArray, List.set_cons_zero, List.set_cons_succ]
            refine wpAnyH_take (i := 16) (v := .bool false) rfl (by kernel_rfl) (by kernel_rfl) (by kernel_rfl) (fun _ _ _ h => h) (Or.inl ⟨by rfl, fun w hSw => by go_simp⟩) (by assumption) ?_
            try simp only [Act.put, List.getElem_toArray, List.getElem_cons_zero, List.getElem_cons_succ, List.setIfInBounds_toArray, List.set_cons_zero, List.set_cons_succ]
            refine wpAnyH_take (i := 17) (v := .bool false) rfl (by kernel_rfl) (by kernel_rfl) (by kernel_rfl) (fun _ _ _ h => h) (Or.inl ⟨by rfl, fun w hSw => by go_simp⟩) (by assumption) ?_
            try simp only [Act.put, List.getElem_toArray, List.getElem_cons_zero, List.getElem_cons_succ, List.setIfInBounds_toArray, List.set_cons_zero, List.set_cons_succ]
            refine wpAnyH_take (i := 18) (v := .pointer (some ⟨b7, 0, none⟩)) rfl (by kernel_rfl) (by kernel_rfl) (by kernel_rfl) (fun _ _ _ h => h) (Or.inl ⟨by rfl, fun w hSw => by go_simp⟩) (by assumption) ?_
            try simp only [Act.put, List.getElem_toArray, List.getElem_cons_zero, List.getElem_cons_succ, List.setIfInBounds_toArray, List.set_cons_zero, List.set_cons_succ]
            refine wpAnyH_take (i := 19) (v := .int .i64 U.o) rfl (by kernel_rfl) (by kernel_rfl) (by kernel_rfl) (fun _ _ _ h => h) (Or.inl ⟨by rfl, fun w hSw => by have q := hSw.cell; go_simp⟩) (by assumption) ?_
            try simp only [Act.put, List.getElem_toArray, List.getElem_cons_zero, List.getElem_cons_succ, List.setIfInBounds_toArray, List.set_cons_zero, List.set_cons_succ]
            refine wpAnyH_take (i := 20) (v := .bool false) rfl (by kernel_rfl) (by kernel_rfl) (by kernel_rfl) (fun _ _ _ h => h) (Or.inl ⟨by rfl, fun w hSw => by go_simp⟩) (by assumption) ?_
            try simp only [Act.put, List.getElem_toArray, List.getElem_cons_zero, List.getElem_cons_succ, List.setIfInBounds_toArray, List.set_cons_zero, List.set_cons_succ]
            refine wpAnyH_take (i := 21) (v := .bool false) rfl (by kernel_rfl) (by kernel_rfl) (by kernel_rfl) (fun _ _ _ h => h) (Or.inl ⟨by rfl, fun w hSw => by go_simp⟩) (by assumption) ?_
            try simp only [Act.put, List.getElem_toArray, List.getElem_cons_zero, List.getElem_cons_succ, List.setIfInBounds_toArray, List.set_cons_zero, List.set_cons_succ]
            refine wpAnyH_take (i := 22) (v := .bool false) rfl (by kernel_rfl) (by kernel_rfl) (by kernel_rfl) (fun _ _ _ h => h) (Or.inl ⟨by rfl, fun w hSw => by go_simp⟩) (by assumption) ?_
            try simp only [Act.put, List.getElem_toArray, List.getElem_cons_zero, List.getElem_cons_succ, List.setIfInBounds_toArray, List.set_cons_zero, List.set_cons_succ]
            refine wpAnyH_ready (rs := [23]) (by kernel_rfl) (by simp) (AllReadyH.cons rfl (fun K hK => ?_) AllReadyH.nil)
            go_simp
            refine hK.out _ _ (((((B7.setOther hb0).setOther hb0).setOther hb0).setOther hb0).below (Below.refl _ _).drew) (fun hHeld => ?_)
            clear hK K
            try simp only [Act.put, List.getElem_toArray, List.getElem_cons_zero, List.getElem_cons_succ, List.setIfInBounds_toArray, List.set_cons_zero, List.set_cons_succ]
            refine wpAnyH_take (i := 24) (v := .string Q) rfl (by kernel_rfl) (by kernel_rfl) (by kernel_rfl) (fun _ _ _ h => h) (Or.inl ⟨by rfl, fun w hSw => by go_simp⟩) (by assumption) ?_
            try simp only [Act.put, List.getElem_toArray, List.getElem_cons_zero, List.getElem_cons_succ, List.setIfInBounds_toArray, List.set_cons_zero, List.set_cons_succ]
            refine wpAnyH_take (i := 25) (v := .bool false) rfl (by kernel_rfl) (by kernel_rfl) (by kernel_rfl) (fun _ _ _ h => h) (Or.inl ⟨by rfl, fun w hSw => by go_simp⟩) (by assumption) ?_
            try simp only [Act.put, List.getElem_toArray, List.getElem_cons_zero, List.getElem_cons_succ, List.setIfInBounds_toArray, List.set_cons_zero, List.set_cons_succ]
            refine wpAnyH_done (by kernel_rfl) ?_ _
            go_wp2
            exact bodyPost_ret (v := .tuple #[.agg #[.int .i64 U.o, .int .i64 U.a, .int .i64 U.b, .int .i64 U.c], .string Q, .bool false]) (by simp [results, Tryz.results12, go_sem, qz]) rfl ⟨rfl, hBz⟩
      · have ge : (U.e == 0) = false := by simpa using he
        have hh : holeB n q U = false := by unfold holeB; rw [ge]; simp
        rw [hh]
        clear hh h0 hnm he
        go_enter Tryz.func12, Tryz.ntmps12
        go_upto_region 5 with (first | (go_at_call 9; refine (cS _ m (HM.out _ ((Below.refl _ _).alloc (Nat.le_refl _) _)).1).mono ?_; rintro e w1 ⟨rfl, hbb, Bg⟩; rw [World.size_alloc] at Bg; have B0 := (Box.new _ _ _).below hbb; have hB1 := Below.step0 ((Below.refl _ _).alloc (Nat.le_refl _) _) hbb; have q1 := Bg.cell; have f1 := Bg.free; clear hbb cS) | (go_at_call 29; have Bs := Bg.set n (.string (bL [48])) HSZ.out; rw [row_set] at Bs; have Z0 := B0.setOther (k' := w.heap.size + 1) (i := n) (v := .string (bL [48])) (by omega); have hS1 := hB1.setCell (p := ⟨w.heap.size + 1, n, none⟩) (by show w.heap.size ≤ w.heap.size + 1; omega) (.string (bL [48])); refine (cJ _ Bs).mono ?_; rintro e w2 ⟨rfl, hbb⟩; replace B0 := Z0.below hbb; have hB2 := Below.step0 hS1 hbb; clear hbb cJ q1 f1 Bs Z0 Bg hS1) | (go_at_call 14; refine (cI _ m (HM.out _ hB2).1 (HM.out _ hB2).2).mono ?_; rintro e w3 ⟨rfl, hbb⟩; replace B0 := B0.below hbb; have hB3 := Below.step0 hB2 hbb; have t0 := B0.lt; clear hbb cI))
        obtain ⟨w7, hw7⟩ : ∃ w7, w7 = w3.alloc (.cells #[.int .i64 U.o, .int .i64 U.a, .int .i64 U.b, .int .i64 U.c] 43) := ⟨_, rfl⟩
        rw [← hw7]
        have B7 := Box.new w3 #[.int .i64 U.o, .int .i64 U.a, .int .i64 U.b, .int .i64 U.c] 43
        rw [← hw7] at B7
        have C0 := B0.alloc (.cells #[.int .i64 U.o, .int .i64 U.a, .int .i64 U.b, .int .i64 U.c] 43)
        rw [← hw7] at C0
        have hB7 : Below w.heap.size w w7 := by rw [hw7]; exact hB3.alloc hB3.size _
        have hb0 : w3.heap.size ≠ w.heap.size := by omega
        clear hw7 B0 t0
        generalize w3.heap.size = b7 at *
        obtain ⟨g, hg⟩ : ∃ g, w.heap.size + 1 = g := ⟨_, rfl⟩
        rw [hg]
        have Bz := ((((C0.set 0 (.int .i64 U.o) (by simp)).set 1 (.int .i64 U.a) (by simp)).set 2 (.int .i64 U.b) (by simp)).set 3 (.int .i64 U.c) (by simp)).below (Below.refl _ _).drew
        have qz := Bz.cell
        simp only [List.setIfInBounds_toArray, List.set_cons_zero, List.set_cons_succ] at qz
        have hBz := ((((hB7.setCell (p := ⟨w.heap.size, 0, none⟩) (Nat.le_refl _) (.int .i64 U.o)).setCell (p := ⟨w.heap.size, 1, none⟩) (Nat.le_refl _) (.int .i64 U.a)).setCell (p := ⟨w.heap.size, 2, none⟩) (Nat.le_refl _) (.int .i64 U.b)).setCell (p := ⟨w.heap.size, 3, none⟩) (Nat.le_refl _) (.int .i64 U.c)).drew
        have qd := C0.cell
        have fd := C0.free
        refine wp_region_held_drew (S := fun w' => Box w' b7 #[.int .i64 U.o, .int .i64 U.a, .int .i64 U.b, .int .i64 U.c]) (by kernel_rfl) (B7.below (Below.refl _ _).drew) (fun hHeld => ?_)
        refine wpAnyH_take (i := 0) (v := .agg #[.int .i64 U.o, .int .i64 U.a, .int .i64 U.b, .int .i64 U.c]) rfl (by kernel_rfl) (by kernel_rfl) (by kernel_rfl) (fun _ _ _ h => h) (Or.inl ⟨by rfl, fun w hSw => by have q := hSw.cell; go_simp⟩) (by assumption) ?_
        try simp only [Act.put, List.getElem_toArray, List.getElem_cons_zero, List.getElem_cons_succ, List.setIfInBounds_toArray, List.set_cons_zero, List.set_cons_succ]
        refine wpAnyH_take (i := 1) (v := .string Q) rfl (by kernel_rfl) (by kernel_rfl) (by kernel_rfl) (fun _ _ _ h => h) (Or.inl ⟨by rfl, fun w hSw => by go_simp⟩) (by assumption) ?_
        try simp only [Act.put, List.getElem_toArray, List.getElem_cons_zero, List.getElem_cons_succ, List.setIfInBounds_toArray, List.set_cons_zero, List.set_cons_succ]
        refine wpAnyH_take (i := 2) (v := .slice (some ⟨g, 0, none⟩) (n + 1) (n + 1)) rfl (by kernel_rfl) (by kernel_rfl) (by kernel_rfl) (fun _ _ _ h => h) (Or.inl ⟨by rfl, fun w hSw => by go_simp⟩) (by assumption) ?_
        try simp only [Act.put, List.getElem_toArray, List.getElem_cons_zero, List.getElem_cons_succ, List.setIfInBounds_toArray, List.set_cons_zero, List.set_cons_succ]
        refine wpAnyH_take (i := 3) (v := .int .i64 ((n : Int) + 1)) rfl (by kernel_rfl) (by kernel_rfl) (by kernel_rfl) (fun _ _ _ h => h) (Or.inl ⟨by rfl, fun w hSw => by go_simp⟩) (by assumption) ?_
        try simp only [Act.put, List.getElem_toArray, List.getElem_cons_zero, List.getElem_cons_succ, List.setIfInBounds_toArray, List.set_cons_zero, List.set_cons_succ]
        refine wpAnyH_take (i := 4) (v := .bool true) rfl (by kernel_rfl) (by kernel_rfl) (by kernel_rfl) (fun _ _ _ h => h) (Or.inl ⟨by rfl, fun w hSw => by go_simp⟩) (by assumption) ?_
        try simp only [Act.put, List.getElem_toArray, List.getElem_cons_zero, List.getElem_cons_succ, List.setIfInBounds_toArray, List.set_cons_zero, List.set_cons_succ]
        refine wpAnyH_take (i := 5) (v := .bool true) rfl (by kernel_rfl) (by kernel_rfl) (by kernel_rfl) (fun _ _ _ h => h) (Or.inl ⟨by rfl, fun w hSw => by go_simp⟩) (by assumption) ?_
        try simp only [Act.put, List.getElem_toArray, List.getElem_cons_zero, List.getElem_cons_succ, List.setIfInBounds_toArray, List.set_cons_zero, List.set_cons_succ]
        refine wpAnyH_take (i := 6) (v := .string Q) rfl (by kernel_rfl) (by kernel_rfl) (by kernel_rfl) (fun _ _ _ h => h) (Or.inl ⟨by rfl, fun w hSw => by go_simp⟩) (by assumption) ?_
        try simp only [Act.put, List.getElem_toArray, List.getElem_cons_zero, List.getElem_cons_succ, List.setIfInBounds_toArray, List.set_cons_zero, List.set_cons_succ]
        refine wpAnyH_ready (rs := [7]) (by kernel_rfl) (by simp) (AllReadyH.cons rfl (fun K hK => ?_) AllReadyH.nil)
        go_simp
        refine (cN _).mono ?_
        rintro e wn ⟨rfl, hwn⟩
        subst hwn
        refine hK.out _ _ hHeld (fun hHeld => ?_)
        clear hK K
        try simp only [Act.put, List.getElem_toArray, List.getElem_cons_zero, List.getElem_cons_succ, List.setIfInBounds_toArray, List.set_cons_zero, List.set_cons_succ]
        refine wpAnyH_take (i := 8) (v := .bool true) rfl (by kernel_rfl) (by kernel_rfl) (by kernel_rfl) (fun _ _ _ h => h) (Or.inl ⟨by rfl, fun w hSw => by go_simp⟩) (by assumption) ?_
        try simp only [Act.put, List.getElem_toArray, List.getElem_cons_zero, List.getElem_cons_succ, List.setIfInBounds_toArray, List.set_cons_zero, List.set_cons_succ]
        refine wpAnyH_take (i := 9) (v := .bool true) rfl (by kernel_rfl) (by kernel_rfl) (by kernel_rfl) (fun _ _ _ h => h) (Or.inl ⟨by rfl, fun w hSw => by go_simp⟩) (by assumption) ?_
        try simp only [Act.put, List.getElem_toArray, List.getElem_cons_zero, List.getElem_cons_succ, List.setIfInBounds_toArray, List.set_cons_zero, List.set_cons_succ]
        refine wpAnyH_take (i := 10) (v := .int .i64 U.e) rfl (by kernel_rfl) (by kernel_rfl) (by kernel_rfl) (fun _ _ _ h => h) (Or.inl ⟨by rfl, fun w hSw => by go_simp⟩) (by assumption) ?_
        try simp only [Act.put, List.getElem_toArray, List.getElem_cons_zero, List.getElem_cons_succ, List.setIfInBounds_toArray, List.set_cons_zero, List.set_cons_succ]
        refine wpAnyH_take (i := 11) (v := .bool false) rfl (by kernel_rfl) (by kernel_rfl) (by kernel_rfl) (fun _ _ _ h => h) (Or.inl ⟨by rfl, fun w hSw => by go_simp⟩) (by assumption) ?_
        try simp only [Act.put, List.getElem_toArray, List.getElem_cons_zero, List.getElem_cons_succ, List.setIfInBounds_toArray, List.set_cons_zero, List.set_cons_succ]
        refine wpAnyH_take (i := 12) (v := .bool false) rfl (by kernel_rfl) (by kernel_rfl) (by kernel_rfl) (fun _ _ _ h => h) (Or.inl ⟨by rfl, fun w hSw => by go_simp⟩) (by assumption) ?_
        try simp only [Act.put, List.getElem_toArray, List.getElem_cons_zero, List.getElem_cons_succ, List.setIfInBounds_toArray, List.set_cons_zero, List.set_cons_succ]
        refine wpAnyH_take (i := 13) (v := .bool false) rfl (by kernel_rfl) (by kernel_rfl) (by kernel_rfl) (fun _ _ _ h => h) (Or.inl ⟨by rfl, fun w hSw => by go_simp⟩) (by assumption) ?_
        try simp only [Act.put, List.getElem_toArray, List.getElem_cons_zero, List.getElem_cons_succ, List.setIfInBounds_toArray, List.set_cons_zero, List.set_cons_succ]
        refine wpAnyH_take (i := 14) (v := undef) rfl (by kernel_rfl) (by kernel_rfl) (by kernel_rfl) (fun _ _ _ h => h) (Or.inr ⟨by rfl, rfl⟩) (by assumption) ?_
        try simp only [Act.put, List.getElem_toArray, List.getElem_cons_zero, List.getElem_cons_succ, List.setIfInBounds_toArray, List.set_cons_zero, List.set_cons_succ]
        refine wpAnyH_take (i := 15) (v := undef) rfl (by kernel_rfl) (by kernel_rfl) (by kernel_rfl) (fun _ _ _ h => h) (Or.inr ⟨by rfl, rfl⟩) (by assumption) ?_
        try simp only [Act.put, List.getElem_toArray, List.getElem_cons_zero, List.getElem_cons_succ, List.setIfInBounds_toArray, List.set_cons_zero, List.set_cons_succ]
        refine wpAnyH_take (i := 16) (v := undef) rfl (by kernel_rfl) (by kernel_rfl) (by kernel_rfl) (fun _ _ _ h => h) (Or.inr ⟨by rfl, rfl⟩) (by assumption) ?_
        try simp only [Act.put, List.getElem_toArray, List.getElem_cons_zero, List.getElem_cons_succ, List.setIfInBounds_toArray, List.set_cons_zero, List.set_cons_succ]
        refine wpAnyH_take (i := 17) (v := undef) rfl (by kernel_rfl) (by kernel_rfl) (by kernel_rfl) (fun _ _ _ h => h) (Or.inr ⟨by rfl, rfl⟩) (by assumption) ?_
        try simp only [Act.put, List.getElem_toArray, List.getElem_cons_zero, List.getElem_cons_succ, List.setIfInBounds_toArray, List.set_cons_zero, List.set_cons_succ]
        refine wpAnyH_take (i := 18) (v := undef) rfl (by kernel_rfl) (by kernel_rfl) (by kernel_rfl) (fun _ _ _ h => h) (Or.inr ⟨by rfl, rfl⟩) (by assumption) ?_
        try simp only [Act.put, List.getElem_toArray, List.getElem_cons_zero, List.getElem_cons_succ, List.setIfInBounds_toArray, List.set_cons_zero, List.set_cons_succ]
        refine wpAnyH_take (i := 19) (v := undef) rfl (by kernel_rfl) (by kernel_rfl) (by kernel_rfl) (fun _ _ _ h => h) (Or.inr ⟨by rfl, rfl⟩) (by assumption) ?_
        try simp only [Act.put, List.getElem_toArray, List.getElem_cons_zero, List.getElem_cons_succ, List.setIfInBounds_toArray, List.set_cons_zero, List.set_cons_succ]
        refine wpAnyH_take (i := 20) (v := undef) rfl (by kernel_rfl) (by kernel_rfl) (by kernel_rfl) (fun _ _ _ h => h) (Or.inr ⟨by rfl, rfl⟩) (by assumption) ?_
        try simp only [Act.put, List.getElem_toArray, List.getElem_cons_zero, List.getElem_cons_succ, List.setIfInBounds_toArray, List.set_cons_zero, List.set_cons_succ]
        refine wpAnyH_take (i := 21) (v := undef) rfl (by kernel_rfl) (by kernel_rfl) (by kernel_rfl) (fun _ _ _ h => h) (Or.inr ⟨by rfl, rfl⟩) (by assumption) ?_
        try simp only [Act.put, List.getElem_toArray, List.getElem_cons_zero, List.getElem_cons_succ, List.setIfInBounds_toArray, List.set_cons_zero, List.set_cons_succ]
        refine wpAnyH_take (i := 22) (v := .bool false) rfl (by kernel_rfl) (by kernel_rfl) (by kernel_rfl) (fun _ _ _ h => h) (Or.inl ⟨by rfl, fun w hSw => by go_simp⟩) (by assumption) ?_
        try simp only [Act.put, List.getElem_toArray, List.getElem_cons_zero, List.getElem_cons_succ, List.setIfInBounds_toArray, List.set_cons_zero, List.set_cons_succ]
        refine wpAnyH_ready (rs := [23]) (by kernel_rfl) (by simp) (AllReadyH.cons rfl (fun K hK => ?_) AllReadyH.nil)
        go_simp
        refine hK.out _ _ (((((B7.setOther hb0).setOther hb0).setOther hb0).setOther hb0).below (Below.refl _ _).drew) (fun hHeld => ?_)
        clear hK K
        try simp only [Act.put, List.getElem_toArray, List.getElem_cons_zero, List.getElem_cons_succ, List.setIfInBounds_toArray, List.set_cons_zero, List.set_cons_succ]
        refine wpAnyH_take (i := 24) (v := .string Q) rfl (by kernel_rfl) (by kernel_rfl) (by kernel_rfl) (fun _ _ _ h => h) (Or.inl ⟨by rfl, fun w hSw => by go_simp⟩) (by assumption) ?_
        try simp only [Act.put, List.getElem_toArray, List.getElem_cons_zero, List.getElem_cons_succ, List.setIfInBounds_toArray, List.set_cons_zero, List.set_cons_succ]
        refine wpAnyH_take (i := 25) (v := .bool false) rfl (by kernel_rfl) (by kernel_rfl) (by kernel_rfl) (fun _ _ _ h => h) (Or.inl ⟨by rfl, fun w hSw => by go_simp⟩) (by assumption) ?_
        try simp only [Act.put, List.getElem_toArray, List.getElem_cons_zero, List.getElem_cons_succ, List.setIfInBounds_toArray, List.set_cons_zero, List.set_cons_succ]
        refine wpAnyH_done (by kernel_rfl) ?_ _
        go_wp2
        exact bodyPost_ret (v := .tuple #[.agg #[.int .i64 U.o, .int .i64 U.a, .int .i64 U.b, .int .i64 U.c], .string Q, .bool false]) (by simp [results, Tryz.results12, go_sem, qz]) rfl ⟨rfl, hBz⟩
end
end Go.Proofs.YtfafkijcejbcpaaGreatDoor
