/- The document's own InstParse, in the project's def: what chapter 6 says of Parse; it turns nothing that was in memory. -/
import Derived.Test.YtfafkijcejbcpaaGreatDoorRows
import Derived.Test.YtfafkijcejbcpaaGreatDoorKeyPure
import Derived.Test.YtfafkijcejbcpaaGreatDoorShelf
import Derived.Test.YtfafkijcejbcpaaGreatDoorCardBase
import Derived.Test.YtfafkijcejbcpaaGreatDoorInstShape
import Derived.Test.YtfafkijcejbcpaaGreatDoorInstTab
import Derived.Test.YtfafkijcejbcpaaGreatDoorInstRef
import Derived.Test.YtfafkijcejbcpaaGreatDoorInstRef2
import Derived.Test.YtfafkijcejbcpaaGreatDoorInstDev
import Derived.Test.YtfafkijcejbcpaaGreatDoorInstEq
import Derived.Test.YtfafkijcejbcpaaGreatDoorTextPure
import Derived.Test.YtfafkijcejbcpaaGreatDoorParsePure
import Derived.Test.YtfafkijcejbcpaaGreatDoorBoxSet
import Derived.Test.YtfafkijcejbcpaaGreatDoorInstOp
import Derived.Test.YtfafkijcejbcpaaGreatDoorInstCut
import Derived.Test.YtfafkijcejbcpaaGreatDoorInstTextRef
import Derived.Test.YtfafkijcejbcpaaGreatDoorInstParse2
import Derived.Test.YtfafkijcejbcpaaGreatDoorSplitPure
import Derived.Test.YtfafkijcejbcpaaGreatDoorGoSplit
import Derived.Test.YtfafkijcejbcpaaGreatDoorNumeralRef
import Derived.Test.YtfafkijcejbcpaaGreatDoorCandPure
import Derived.WalkKit
import Derived.ProofKit
namespace Go.Proofs.YtfafkijcejbcpaaGreatDoor
open Go.ChangeShapes Go.WideShapes Go.ChangeAt Go.RowKit
set_option linter.unusedSimpArgs false

theorem Hid.mk' {p : Prop} (h : p) : Hid p := h
theorem sp_part (c : UInt8) : ∀ (l : List UInt8), ∀ x ∈ sp c l, x.length ≤ l.length := by
  intro l
  induction l with
  | nil => intro x hx; simp [sp] at hx; simp [hx]
  | cons a l ih =>
    intro x hx
    by_cases ha : a = c
    · subst ha
      rw [sp_sep] at hx
      rcases List.mem_cons.1 hx with rfl | hx
      · simp
      · have := ih x hx; simp; omega
    · obtain ⟨y, ys, e⟩ := List.exists_cons_of_ne_nil (sp_ne c l)
      rw [sp_other ha e] at hx
      rw [e] at ih
      rcases List.mem_cons.1 hx with rfl | hx
      · have := ih y (by simp); simp; omega
      · have := ih x (by simp [hx]); simp; omega
/-- What the walk is told of a letter of a row. -/
theorem kind_facts (d : ByteArray) (h : d = ⟨#[65]⟩ ∨ d = ⟨#[66]⟩ ∨ d = ⟨#[110]⟩ ∨ d = ⟨#[114]⟩ ∨ d = ⟨#[112]⟩ ∨ d = ⟨#[113]⟩ ∨ d = ⟨#[109]⟩) :
    (d.toList == [65]) = fA d ∧ (d.toList == [66]) = fB d ∧ ((fA d = true ∧ fR d = true) ∨ (fA d = false ∧ fB d = true ∧ fR d = true) ∨ (fA d = false ∧ fB d = false ∧ fR d = true) ∨ (fA d = false ∧ fB d = false ∧ fR d = false)) ∧
    ∀ w, Calls Tryz.prog 33 #[.string ⟨#[65, 66, 114]⟩, .string d] w fun e w' => e = .returned (.bool (fR d)) ∧ w' = w := by
  have hl : ∀ c : UInt8, (⟨#[c]⟩ : ByteArray).toList = [c] := fun c => ByteArray.toList_eq _
  have hc := fun c w => Tryz.strings_Contains_one ⟨#[65, 66, 114]⟩ c w
  rcases h with rfl | rfl | rfl | rfl | rfl | rfl | rfl <;> refine ⟨by rw [hl]; decide, by rw [hl]; decide, by decide, fun w => ?_⟩ <;> exact hc _ w
theorem cells_at (ds : List ByteArray) (j : Nat) (h : j < ds.length) : ((ds.map Value.string).toArray)[j]? = some (.string (ds.getD j ⟨#[]⟩)) := by
  rw [List.getElem?_toArray, List.getElem?_map, List.getElem?_eq_getElem h, List.getD_eq_getElem?_getD, List.getElem?_eq_getElem h]
  rfl
theorem word_at (ws : List (List UInt8)) (j : Nat) (h : j < ws.length) : ((ws.map fun x => Value.string (bL x)).toArray)[j]? = some (.string (bL (ws.getD j []))) := by
  rw [List.getElem?_toArray, List.getElem?_map, List.getElem?_eq_getElem h, List.getD_eq_getElem?_getD, List.getElem?_eq_getElem h]
  rfl
theorem row_head (n : Nat) (hn : n < 23) : (wordsB n).getD 0 ⟨#[]⟩ = bL (shW n) := by rw [(words_row n hn).1]; rfl

set_option maxRecDepth 100000 in
set_option maxHeartbeats 8000000 in
theorem ref_instparse (l : List UInt8) (w : World) (m : Int) (hM : w.cell? ⟨0, 0, none⟩ = some (.int .i64 m)) (zM : 0 < w.heap.size) (hl : l.length < 4294967281) :
    Calls Tryz.prog 14 #[.string (bL l)] w fun e w' => e = .returned (.tuple #[.agg #[.int .i64 (parseD l).o, .int .i64 (parseD l).a, .int .i64 (parseD l).b, .int .i64 (parseD l).c], .int .i64 (parseD l).e]) ∧ Below w.heap.size w w' := by
  have HM : Hid (∀ w', Below w.heap.size w w' → w'.cell? ⟨0, 0, none⟩ = some (.int .i64 m) ∧ 0 < w'.heap.size) := fun w' hb => ⟨by rw [hb.cell (p := ⟨0, 0, none⟩) zM]; exact hM, Nat.lt_of_lt_of_le zM hb.size⟩
  clear hM
  obtain ⟨U, hU⟩ : ∃ U, parseD l = U := ⟨_, rfl⟩
  rw [hU]
  have HU : Hid (parseD l = U) := hU
  clear hU
  have b0 := Below.one w (.cells #[.int .i64 0, .int .i64 0, .int .i64 0, .int .i64 0] 43)
  have cS := go_split l 32 (w.alloc (.cells #[.int .i64 0, .int .i64 0, .int .i64 0, .int .i64 0] 43)) m (HM.out _ b0).1 hl
  rw [World.size_alloc] at cS
  have hsl := sp_len 32 l
  have HH : Hid (∀ x ∈ sp 32 l, x.length ≤ 4294967281) := fun x hx => by have := sp_part 32 l x hx; omega
  obtain ⟨ws, hws⟩ : ∃ ws, sp 32 l = ws := ⟨_, rfl⟩
  rw [hws] at hsl cS HH
  have HW : Hid (sp 32 l = ws) := hws
  clear hws
  obtain ⟨W1, hW1⟩ : ∃ W1, (w.alloc (.cells #[.int .i64 0, .int .i64 0, .int .i64 0, .int .i64 0] 43)).alloc (.cells (ws.map fun x => Value.string (bL x)).toArray 9) = W1 := ⟨_, rfl⟩
  have b1 : Below w.heap.size w W1 := by rw [← hW1]; exact two _ _
  have z1 : W1.heap.size = w.heap.size + 2 := by rw [← hW1]; simp
  have B1 : Box W1 w.heap.size #[.int .i64 0, .int .i64 0, .int .i64 0, .int .i64 0] := by rw [← hW1]; exact (Box.new w _ _).alloc _
  have C1 : Box W1 (w.heap.size + 1) (ws.map fun x => Value.string (bL x)).toArray := by rw [← hW1]; exact Box.new1 w _ _ _
  rw [hW1] at cS
  clear hW1
  have cT := ref_table W1 m (HM.out _ b1).1
  obtain ⟨W2, hW2⟩ : ∃ W2, W1.alloc (.cells tabA 9) = W2 := ⟨_, rfl⟩
  have b2 : Below w.heap.size w W2 := by rw [← hW2]; exact b1.alloc (by omega) _
  have D2 : Box W2 W1.heap.size tabA := by rw [← hW2]; exact Box.new W1 _ _
  have B2 : Box W2 w.heap.size #[.int .i64 0, .int .i64 0, .int .i64 0, .int .i64 0] := by rw [← hW2]; exact B1.alloc _
  have C2 : Box W2 (w.heap.size + 1) (ws.map fun x => Value.string (bL x)).toArray := by rw [← hW2]; exact C1.alloc _
  rw [hW2, z1] at cT
  rw [z1] at D2
  clear hW2 B1 C1 z1
  have HB2 : Hid (Box W2 w.heap.size #[.int .i64 0, .int .i64 0, .int .i64 0, .int .i64 0]) := B2
  have HC2 : Hid (Box W2 (w.heap.size + 1) (ws.map fun x => Value.string (bL x)).toArray) := C2
  have HD2 : Hid (Box W2 (w.heap.size + 2) tabA) := D2
  have Hb2 : Hid (Below w.heap.size w W2) := b2
  clear B2 C2 D2 b2 b1 b0
  have cnt : l.count 32 + 1 = ws.length := by omega
  have cl := List.count_le_length (a := (32 : UInt8)) (l := l)
  rw [cnt] at cS
  have wl1 : 1 ≤ ws.length := by omega
  have wl2 : ws.length ≤ 4294967282 := by omega
  obtain ⟨S, hS⟩ : ∃ S, bL l = S := ⟨_, rfl⟩
  rw [hS] at cS ⊢
  have HS : Hid (bL l = S) := hS
  clear hS hsl cnt cl
  go_enter Tryz.func14, Tryz.ntmps14
  go_wp2_with (first | (go_at_call 9; refine cS.mono ?_; rintro e w' ⟨rfl, hw⟩; replace hw := hw.symm; subst hw) | (go_at_call 32; refine cT.mono ?_; rintro e w' ⟨rfl, hw⟩; replace hw := hw.symm; subst hw))
  clear cS cT
  go_loopw [20] (fun i wr => ∃ n : Nat, n ≤ 23 ∧ i = .int .i64 (n : Int) ∧ Below W2.heap.size W2 wr ∧ ∀ o a b c : Int, chkD o a b c = 0 → textL o.toNat a b c = l → (n : Int) ≤ o) (fun i _ => 23 - (intOf i).toNat)
  case atStart => exact ⟨0, Nat.zero_le _, rfl, Below.refl _ _, fun o a b c h _ => (chkD_ok h).1.1⟩
  case round =>
    rename World => wo
    obtain ⟨n, hn, rfl, hB, hno⟩ := hrel
    have BR := HB2.out.below hB
    have CR := HC2.out.below hB
    have DR := HD2.out.below hB
    have hbr : Below w.heap.size w wo := Hb2.out.trans (hB.mono Hb2.out.size)
    have HBr : Hid (Below w.heap.size w wo) := hbr
    have HNO : Hid (∀ o a b c : Int, chkD o a b c = 0 → textL o.toNat a b c = l → (n : Int) ≤ o) := hno
    by_cases hlt : n < 23
    · have gk : (n : Int) < 23 := by omega
      have dr : wo.cell? ⟨w.heap.size + 2, n, none⟩ = some (.string (rowB n)) := by rw [DR.cell]; exact tab_at n hlt
      have cW := ref_words n hlt wo m (HM.out _ hbr).1
      have wlen := words_len n hlt
      have RW := Box.new wo ((wordsB n).map Value.string).toArray 9
      have CW := CR.alloc (.cells ((wordsB n).map Value.string).toArray 9)
      have BW := BR.alloc (.cells ((wordsB n).map Value.string).toArray 9)
      have r0 : (wo.alloc (.cells ((wordsB n).map Value.string).toArray 9)).cell? ⟨wo.heap.size, 0, none⟩ = some (.string (bL (shW n))) := by rw [RW.cell, cells_at _ _ (by omega), row_head n hlt]
      have x0 : (wo.alloc (.cells ((wordsB n).map Value.string).toArray 9)).cell? ⟨w.heap.size + 1, 0, none⟩ = some (.string (bL (ws.getD 0 []))) := by rw [CW.cell, word_at _ _ (by omega)]
      have bWa : Below wo.heap.size wo (wo.alloc (.cells ((wordsB n).map Value.string).toArray 9)) := Below.one wo _
      have HNX : Hid (¬ (shW n = ws.getD 0 [] ∧ (wordsB n).length = ws.length) → ∀ o a b c : Int, chkD o a b c = 0 → textL o.toNat a b c = l → ((n + 1 : Nat) : Int) ≤ o) := fun hne o a b c h1 h2 => by
        have h3 := HNO.out o a b c h1 h2
        have h4 := (chkD_ok h1).1
        rcases Nat.lt_or_ge n o.toNat with h5 | h5
        · omega
        · exfalso
          have h6 : o.toNat = n := by omega
          have h7 : o = ((n : Nat) : Int) := by omega
          subst h7
          obtain ⟨e1, e2, _⟩ := cand_text n hlt a b c h1
          rw [show ((n : Nat) : Int).toNat = n from h6] at h2
          rw [h2, HW.out] at e1 e2
          exact hne ⟨e2.symm, e1.symm⟩
      have HBx : Hid (Below W2.heap.size W2 (wo.alloc (.cells ((wordsB n).map Value.string).toArray 9))) := hB.alloc hB.size _
      obtain ⟨Wa, hWa⟩ : ∃ Wa, wo.alloc (.cells ((wordsB n).map Value.string).toArray 9) = Wa := ⟨_, rfl⟩
      have zWa : Wa.heap.size = wo.heap.size + 1 := by rw [← hWa]; simp
      have zlt : w.heap.size + 1 < wo.heap.size := CR.lt
      rw [hWa] at cW RW CW BW r0 x0 bWa HBx
      have HBo0 : Hid (Below W2.heap.size W2 wo) := hB
      clear hWa hB hno hbr DR
      by_cases h0 : shW n = ws.getD 0 []
      · have e0 := str_same (show bL (shW n) = bL (ws.getD 0 []) by rw [h0])
        by_cases hlen : (wordsB n).length = ws.length
        · obtain ⟨q, hq⟩ : ∃ q, (wordsB n).length = q + 1 := ⟨(wordsB n).length - 1, by omega⟩
          have q3 : q ≤ 3 := by omega
          have gl : (((wordsB n).length : Int) != (ws.length : Int)) = false := by simp; omega
          have HBo : Hid (Below W2.heap.size W2 wo) := HBo0.out
          generalize bL (shW n) = P0 at *
          generalize bL (ws.getD 0 []) = P1 at *
          have HBR : Hid (Box wo w.heap.size #[.int .i64 0, .int .i64 0, .int .i64 0, .int .i64 0]) := BR
          have HCR : Hid (Box wo (w.heap.size + 1) (ws.map fun x => Value.string (bL x)).toArray) := CR
          have HRW : Hid (Box Wa wo.heap.size ((wordsB n).map Value.string).toArray) := RW
          have HbWa : Hid (Below wo.heap.size wo Wa) := bWa
          clear HNX
          go_wp2_with (go_at_call 9; refine cW.mono ?_; rintro e w' ⟨rfl, hw⟩; replace hw := hw.symm; subst hw)
          go_region
          all_goals go_wp2
          clear r0 x0 e0 dr
          have wsq : ws.length = q + 1 := by omega
          have HQ := Hid.mk' hq
          have WQ := Hid.mk' wsq
          clear hq wsq hlen gl
          go_loopw [9, 10] (fun gs ks wz => ∃ k : Nat, k ≤ q ∧ ks = .int .i64 ((k : Int) + 1) ∧ gs = .bool (cand (wordsB n) ws k).g ∧ Below wo.heap.size wo wz ∧ Box wz wo.heap.size ((wordsB n).map Value.string).toArray ∧ Box wz (wo.heap.size + 1) #[.int .i64 (n : Int), .int .i64 (cand (wordsB n) ws k).a, .int .i64 (cand (wordsB n) ws k).b, .int .i64 (cand (wordsB n) ws k).c]) (fun _ ks _ => q + 1 - (intOf ks).toNat)
          case atStart =>
            have bb := (HbWa.out.alloc (by omega) (.cells #[.int .i64 (n : Int), .int .i64 0, .int .i64 0, .int .i64 0] 43)).drew
            have b9 := Box.new Wa #[.int .i64 (n : Int), .int .i64 0, .int .i64 0, .int .i64 0] 43
            rw [zWa] at b9
            exact ⟨0, Nat.zero_le _, rfl, rfl, bb, (HRW.out.alloc _).below (Below.refl _ _).drew, b9.below (Below.refl _ _).drew⟩
          case round =>
            obtain ⟨k, hk, rfl, rfl, hbx, RX, BI⟩ := hrel
            have CX := HCR.out.below hbx
            by_cases hkq : k < q
            · have gq : (k : Int) + 1 < ((wordsB n).length : Int) := by have := HQ.out; omega
              have HCK : cand (wordsB n) ws (k + 1) = stF (fA ((wordsB n).getD (k + 1) ⟨#[]⟩)) (fB ((wordsB n).getD (k + 1) ⟨#[]⟩)) (fR ((wordsB n).getD (k + 1) ⟨#[]⟩)) (cand (wordsB n) ws k) (ws.getD (k + 1) []) := rfl
              have hgd : (wordsB n).getD (k + 1) ⟨#[]⟩ = (wordsB n)[k + 1]'(by have := HQ.out; omega) := by rw [List.getD_eq_getElem?_getD, List.getElem?_eq_getElem (by have := HQ.out; omega)]; rfl
              have wk := word_kind n hlt k (by omega) (by have := HQ.out; omega)
              rw [← hgd] at wk
              have dC := cells_at (wordsB n) (k + 1) (by have := HQ.out; omega)
              have gw : (k : Int) + 1 < (ws.length : Int) := by have := WQ.out; omega
              have xC := word_at ws (k + 1) (by omega)
              have xm : (ws.getD (k + 1) []).length ≤ 4294967281 := HH.out _ (by rw [List.getD_eq_getElem?_getD, List.getElem?_eq_getElem (by omega)]; exact List.getElem_mem (by omega))
              obtain ⟨d, hd⟩ : ∃ d, (wordsB n).getD (k + 1) ⟨#[]⟩ = d := ⟨_, rfl⟩
              obtain ⟨x, hx⟩ : ∃ x, ws.getD (k + 1) [] = x := ⟨_, rfl⟩
              rw [hd] at HCK wk dC
              rw [hx] at HCK xC xm
              obtain ⟨⟨a, b, c, g⟩, hck⟩ : ∃ s, cand (wordsB n) ws k = s := ⟨_, rfl⟩
              rw [hck] at HCK BI ⊢
              dsimp only at BI ⊢
              obtain ⟨dA, dB, kf, kc⟩ := kind_facts d wk
              have HDc : Hid ((((wordsB n).map Value.string).toArray)[k + 1]? = some (.string d)) := dC
              have r1 : wr.cell? ⟨wo.heap.size, k + 1, none⟩ = some (.string d) := by rw [RX.cell]; exact dC
              have x1 : wr.cell? ⟨w.heap.size + 1, k + 1, none⟩ = some (.string (bL x)) := by rw [CX.cell]; exact xC
              have cPre := fun w => Tryz.strings_HasPrefix (bL x) ⟨#[114]⟩ w
              rw [bL_list] at cPre
              change ∀ w, Calls _ _ _ _ fun e w' => e = .returned (.bool (([114] : List UInt8).isPrefixOf x)) ∧ w' = w at cPre
              clear wk hgd hd hx dC xC hck CX
              rcases kf with ⟨ea, er⟩ | ⟨ea, eb, er⟩ | ⟨ea, eb, er⟩ | ⟨ea, eb, er⟩
              · rw [ea, er] at HCK
                rw [er] at kc
                rw [ea] at dA
                cases g
                · have hc3 : (cand (wordsB n) ws (k + 1) = ⟨(numV (Lib.trimPrefix x [114]) (-4000) 4000).1, b, c, false⟩) := by
                    rw [HCK]
                    simp [stF]
                  obtain ⟨v1, v2, hv⟩ : ∃ v1 v2, numV (Lib.trimPrefix x [114]) (-4000) 4000 = (v1, v2) := ⟨_, _, rfl⟩
                  have cNu := fun w => ref_numeral (Lib.trimPrefix x [114]) (-4000) 4000 w (by have := trim_len x [114]; omega)
                  rw [hv] at cNu hc3
                  dsimp only at cNu hc3
                  have HC3 := Hid.mk' hc3
                  clear HCK hv hc3
                  have cTr := fun w => inst_trim x w
                  generalize bL (Lib.trimPrefix x [114]) = XT at *
                  generalize bL x = XS at *
                  go_wp2_with (first | (go_at_call 33; refine (kc _).mono ?_; rintro e w' ⟨rfl, hw⟩; replace hw := hw.symm; subst hw) | (go_at_call 34; refine (cTr _).mono ?_; rintro e w' ⟨rfl, hw⟩; replace hw := hw.symm; subst hw) | (go_at_call 31; refine (cNu _).mono ?_; rintro e wy ⟨rfl, hbb⟩; have BIy := BI.below hbb; have HRy : Hid (Box wy wo.heap.size ((wordsB n).map Value.string).toArray) := RX.below hbb; have HBy : Hid (Below wo.heap.size wo wy) := Below.step0 hbx hbb; have qI := BIy.cell; have fI := BIy.free; have zI := BIy.lt; have rr : wy.cell? ⟨wo.heap.size, k + 1, none⟩ = some (.string d) := (by rw [HRy.out.cell]; exact HDc.out); clear hbb))
                  go_roundw
                  case rel => exact ⟨k + 1, by omega, rfl, by rw [HC3.out], HBy.out.setCell (by simp) _, HRy.out.setOther (by omega), by rw [HC3.out]; exact BIy.set 1 _ (by simp)⟩
                  case measure => simp [intOf]; omega
                · cases hpre : ([114] : List UInt8).isPrefixOf x
                  · have hc3 : (cand (wordsB n) ws (k + 1) = ⟨(numV (Lib.trimPrefix x [114]) (-4000) 4000).1, b, c, false⟩) := by
                      rw [HCK]
                      simp [stF, hpre]
                    obtain ⟨v1, v2, hv⟩ : ∃ v1 v2, numV (Lib.trimPrefix x [114]) (-4000) 4000 = (v1, v2) := ⟨_, _, rfl⟩
                    have cNu := fun w => ref_numeral (Lib.trimPrefix x [114]) (-4000) 4000 w (by have := trim_len x [114]; omega)
                    rw [hv] at cNu hc3
                    dsimp only at cNu hc3
                    have HC3 := Hid.mk' hc3
                    clear HCK hv hc3
                    have cTr := fun w => inst_trim x w
                    generalize bL (Lib.trimPrefix x [114]) = XT at *
                    rw [hpre] at cPre
                    generalize bL x = XS at *
                    go_wp2_with (first | (go_at_call 33; refine (kc _).mono ?_; rintro e w' ⟨rfl, hw⟩; replace hw := hw.symm; subst hw) | (go_at_call 34; refine (cTr _).mono ?_; rintro e w' ⟨rfl, hw⟩; replace hw := hw.symm; subst hw) | (go_at_call 30; refine (cPre _).mono ?_; rintro e w' ⟨rfl, hw⟩; replace hw := hw.symm; subst hw) | (go_at_call 31; refine (cNu _).mono ?_; rintro e wy ⟨rfl, hbb⟩; have BIy := BI.below hbb; have HRy : Hid (Box wy wo.heap.size ((wordsB n).map Value.string).toArray) := RX.below hbb; have HBy : Hid (Below wo.heap.size wo wy) := Below.step0 hbx hbb; have qI := BIy.cell; have fI := BIy.free; have zI := BIy.lt; have rr : wy.cell? ⟨wo.heap.size, k + 1, none⟩ = some (.string d) := (by rw [HRy.out.cell]; exact HDc.out); clear hbb))
                    go_roundw
                    case rel => exact ⟨k + 1, by omega, rfl, by rw [HC3.out], HBy.out.setCell (by simp) _, HRy.out.setOther (by omega), by rw [HC3.out]; exact BIy.set 1 _ (by simp)⟩
                    case measure => simp [intOf]; omega
                  · have hc3 : (cand (wordsB n) ws (k + 1) = ⟨(numV (Lib.trimPrefix x [114]) (-4000) 4000).1, b, c, (numV (Lib.trimPrefix x [114]) (-4000) 4000).2⟩) := by
                      rw [HCK]
                      simp [stF, hpre]
                    obtain ⟨v1, v2, hv⟩ : ∃ v1 v2, numV (Lib.trimPrefix x [114]) (-4000) 4000 = (v1, v2) := ⟨_, _, rfl⟩
                    have cNu := fun w => ref_numeral (Lib.trimPrefix x [114]) (-4000) 4000 w (by have := trim_len x [114]; omega)
                    rw [hv] at cNu hc3
                    dsimp only at cNu hc3
                    have HC3 := Hid.mk' hc3
                    clear HCK hv hc3
                    have cTr := fun w => inst_trim x w
                    generalize bL (Lib.trimPrefix x [114]) = XT at *
                    rw [hpre] at cPre
                    generalize bL x = XS at *
                    go_wp2_with (first | (go_at_call 33; refine (kc _).mono ?_; rintro e w' ⟨rfl, hw⟩; replace hw := hw.symm; subst hw) | (go_at_call 34; refine (cTr _).mono ?_; rintro e w' ⟨rfl, hw⟩; replace hw := hw.symm; subst hw) | (go_at_call 30; refine (cPre _).mono ?_; rintro e w' ⟨rfl, hw⟩; replace hw := hw.symm; subst hw) | (go_at_call 31; refine (cNu _).mono ?_; rintro e wy ⟨rfl, hbb⟩; have BIy := BI.below hbb; have HRy : Hid (Box wy wo.heap.size ((wordsB n).map Value.string).toArray) := RX.below hbb; have HBy : Hid (Below wo.heap.size wo wy) := Below.step0 hbx hbb; have qI := BIy.cell; have fI := BIy.free; have zI := BIy.lt; have rr : wy.cell? ⟨wo.heap.size, k + 1, none⟩ = some (.string d) := (by rw [HRy.out.cell]; exact HDc.out); clear hbb))
                    go_roundw
                    case rel => exact ⟨k + 1, by omega, rfl, by rw [HC3.out], HBy.out.setCell (by simp) _, HRy.out.setOther (by omega), by rw [HC3.out]; exact BIy.set 1 _ (by simp)⟩
                    case measure => simp [intOf]; omega
              · rw [ea, eb, er] at HCK
                rw [er] at kc
                rw [ea] at dA
                rw [eb] at dB
                cases g
                · have hc3 : (cand (wordsB n) ws (k + 1) = ⟨a, (numV (Lib.trimPrefix x [114]) (-4000) 4000).1, c, false⟩) := by
                    rw [HCK]
                    simp [stF]
                  obtain ⟨v1, v2, hv⟩ : ∃ v1 v2, numV (Lib.trimPrefix x [114]) (-4000) 4000 = (v1, v2) := ⟨_, _, rfl⟩
                  have cNu := fun w => ref_numeral (Lib.trimPrefix x [114]) (-4000) 4000 w (by have := trim_len x [114]; omega)
                  rw [hv] at cNu hc3
                  dsimp only at cNu hc3
                  have HC3 := Hid.mk' hc3
                  clear HCK hv hc3
                  have cTr := fun w => inst_trim x w
                  generalize bL (Lib.trimPrefix x [114]) = XT at *
                  generalize bL x = XS at *
                  go_wp2_with (first | (go_at_call 33; refine (kc _).mono ?_; rintro e w' ⟨rfl, hw⟩; replace hw := hw.symm; subst hw) | (go_at_call 34; refine (cTr _).mono ?_; rintro e w' ⟨rfl, hw⟩; replace hw := hw.symm; subst hw) | (go_at_call 31; refine (cNu _).mono ?_; rintro e wy ⟨rfl, hbb⟩; have BIy := BI.below hbb; have HRy : Hid (Box wy wo.heap.size ((wordsB n).map Value.string).toArray) := RX.below hbb; have HBy : Hid (Below wo.heap.size wo wy) := Below.step0 hbx hbb; have qI := BIy.cell; have fI := BIy.free; have zI := BIy.lt; have rr : wy.cell? ⟨wo.heap.size, k + 1, none⟩ = some (.string d) := (by rw [HRy.out.cell]; exact HDc.out); clear hbb))
                  go_roundw
                  case rel => exact ⟨k + 1, by omega, rfl, by rw [HC3.out], HBy.out.setCell (by simp) _, HRy.out.setOther (by omega), by rw [HC3.out]; exact BIy.set 2 _ (by simp)⟩
                  case measure => simp [intOf]; omega
                · cases hpre : ([114] : List UInt8).isPrefixOf x
                  · have hc3 : (cand (wordsB n) ws (k + 1) = ⟨a, (numV (Lib.trimPrefix x [114]) (-4000) 4000).1, c, false⟩) := by
                      rw [HCK]
                      simp [stF, hpre]
                    obtain ⟨v1, v2, hv⟩ : ∃ v1 v2, numV (Lib.trimPrefix x [114]) (-4000) 4000 = (v1, v2) := ⟨_, _, rfl⟩
                    have cNu := fun w => ref_numeral (Lib.trimPrefix x [114]) (-4000) 4000 w (by have := trim_len x [114]; omega)
                    rw [hv] at cNu hc3
                    dsimp only at cNu hc3
                    have HC3 := Hid.mk' hc3
                    clear HCK hv hc3
                    have cTr := fun w => inst_trim x w
                    generalize bL (Lib.trimPrefix x [114]) = XT at *
                    rw [hpre] at cPre
                    generalize bL x = XS at *
                    go_wp2_with (first | (go_at_call 33; refine (kc _).mono ?_; rintro e w' ⟨rfl, hw⟩; replace hw := hw.symm; subst hw) | (go_at_call 34; refine (cTr _).mono ?_; rintro e w' ⟨rfl, hw⟩; replace hw := hw.symm; subst hw) | (go_at_call 30; refine (cPre _).mono ?_; rintro e w' ⟨rfl, hw⟩; replace hw := hw.symm; subst hw) | (go_at_call 31; refine (cNu _).mono ?_; rintro e wy ⟨rfl, hbb⟩; have BIy := BI.below hbb; have HRy : Hid (Box wy wo.heap.size ((wordsB n).map Value.string).toArray) := RX.below hbb; have HBy : Hid (Below wo.heap.size wo wy) := Below.step0 hbx hbb; have qI := BIy.cell; have fI := BIy.free; have zI := BIy.lt; have rr : wy.cell? ⟨wo.heap.size, k + 1, none⟩ = some (.string d) := (by rw [HRy.out.cell]; exact HDc.out); clear hbb))
                    go_roundw
                    case rel => exact ⟨k + 1, by omega, rfl, by rw [HC3.out], HBy.out.setCell (by simp) _, HRy.out.setOther (by omega), by rw [HC3.out]; exact BIy.set 2 _ (by simp)⟩
                    case measure => simp [intOf]; omega
                  · have hc3 : (cand (wordsB n) ws (k + 1) = ⟨a, (numV (Lib.trimPrefix x [114]) (-4000) 4000).1, c, (numV (Lib.trimPrefix x [114]) (-4000) 4000).2⟩) := by
                      rw [HCK]
                      simp [stF, hpre]
                    obtain ⟨v1, v2, hv⟩ : ∃ v1 v2, numV (Lib.trimPrefix x [114]) (-4000) 4000 = (v1, v2) := ⟨_, _, rfl⟩
                    have cNu := fun w => ref_numeral (Lib.trimPrefix x [114]) (-4000) 4000 w (by have := trim_len x [114]; omega)
                    rw [hv] at cNu hc3
                    dsimp only at cNu hc3
                    have HC3 := Hid.mk' hc3
                    clear HCK hv hc3
                    have cTr := fun w => inst_trim x w
                    generalize bL (Lib.trimPrefix x [114]) = XT at *
                    rw [hpre] at cPre
                    generalize bL x = XS at *
                    go_wp2_with (first | (go_at_call 33; refine (kc _).mono ?_; rintro e w' ⟨rfl, hw⟩; replace hw := hw.symm; subst hw) | (go_at_call 34; refine (cTr _).mono ?_; rintro e w' ⟨rfl, hw⟩; replace hw := hw.symm; subst hw) | (go_at_call 30; refine (cPre _).mono ?_; rintro e w' ⟨rfl, hw⟩; replace hw := hw.symm; subst hw) | (go_at_call 31; refine (cNu _).mono ?_; rintro e wy ⟨rfl, hbb⟩; have BIy := BI.below hbb; have HRy : Hid (Box wy wo.heap.size ((wordsB n).map Value.string).toArray) := RX.below hbb; have HBy : Hid (Below wo.heap.size wo wy) := Below.step0 hbx hbb; have qI := BIy.cell; have fI := BIy.free; have zI := BIy.lt; have rr : wy.cell? ⟨wo.heap.size, k + 1, none⟩ = some (.string d) := (by rw [HRy.out.cell]; exact HDc.out); clear hbb))
                    go_roundw
                    case rel => exact ⟨k + 1, by omega, rfl, by rw [HC3.out], HBy.out.setCell (by simp) _, HRy.out.setOther (by omega), by rw [HC3.out]; exact BIy.set 2 _ (by simp)⟩
                    case measure => simp [intOf]; omega
              · rw [ea, eb, er] at HCK
                rw [er] at kc
                rw [ea] at dA
                rw [eb] at dB
                cases g
                · have hc3 : (cand (wordsB n) ws (k + 1) = ⟨a, b, (numV (Lib.trimPrefix x [114]) (-4000) 4000).1, false⟩) := by
                    rw [HCK]
                    simp [stF]
                  obtain ⟨v1, v2, hv⟩ : ∃ v1 v2, numV (Lib.trimPrefix x [114]) (-4000) 4000 = (v1, v2) := ⟨_, _, rfl⟩
                  have cNu := fun w => ref_numeral (Lib.trimPrefix x [114]) (-4000) 4000 w (by have := trim_len x [114]; omega)
                  rw [hv] at cNu hc3
                  dsimp only at cNu hc3
                  have HC3 := Hid.mk' hc3
                  clear HCK hv hc3
                  have cTr := fun w => inst_trim x w
                  generalize bL (Lib.trimPrefix x [114]) = XT at *
                  generalize bL x = XS at *
                  go_wp2_with (first | (go_at_call 33; refine (kc _).mono ?_; rintro e w' ⟨rfl, hw⟩; replace hw := hw.symm; subst hw) | (go_at_call 34; refine (cTr _).mono ?_; rintro e w' ⟨rfl, hw⟩; replace hw := hw.symm; subst hw) | (go_at_call 31; refine (cNu _).mono ?_; rintro e wy ⟨rfl, hbb⟩; have BIy := BI.below hbb; have HRy : Hid (Box wy wo.heap.size ((wordsB n).map Value.string).toArray) := RX.below hbb; have HBy : Hid (Below wo.heap.size wo wy) := Below.step0 hbx hbb; have qI := BIy.cell; have fI := BIy.free; have zI := BIy.lt; have rr : wy.cell? ⟨wo.heap.size, k + 1, none⟩ = some (.string d) := (by rw [HRy.out.cell]; exact HDc.out); clear hbb))
                  go_roundw
                  case rel => exact ⟨k + 1, by omega, rfl, by rw [HC3.out], HBy.out.setCell (by simp) _, HRy.out.setOther (by omega), by rw [HC3.out]; exact BIy.set 3 _ (by simp)⟩
                  case measure => simp [intOf]; omega
                · cases hpre : ([114] : List UInt8).isPrefixOf x
                  · have hc3 : (cand (wordsB n) ws (k + 1) = ⟨a, b, (numV (Lib.trimPrefix x [114]) (-4000) 4000).1, false⟩) := by
                      rw [HCK]
                      simp [stF, hpre]
                    obtain ⟨v1, v2, hv⟩ : ∃ v1 v2, numV (Lib.trimPrefix x [114]) (-4000) 4000 = (v1, v2) := ⟨_, _, rfl⟩
                    have cNu := fun w => ref_numeral (Lib.trimPrefix x [114]) (-4000) 4000 w (by have := trim_len x [114]; omega)
                    rw [hv] at cNu hc3
                    dsimp only at cNu hc3
                    have HC3 := Hid.mk' hc3
                    clear HCK hv hc3
                    have cTr := fun w => inst_trim x w
                    generalize bL (Lib.trimPrefix x [114]) = XT at *
                    rw [hpre] at cPre
                    generalize bL x = XS at *
                    go_wp2_with (first | (go_at_call 33; refine (kc _).mono ?_; rintro e w' ⟨rfl, hw⟩; replace hw := hw.symm; subst hw) | (go_at_call 34; refine (cTr _).mono ?_; rintro e w' ⟨rfl, hw⟩; replace hw := hw.symm; subst hw) | (go_at_call 30; refine (cPre _).mono ?_; rintro e w' ⟨rfl, hw⟩; replace hw := hw.symm; subst hw) | (go_at_call 31; refine (cNu _).mono ?_; rintro e wy ⟨rfl, hbb⟩; have BIy := BI.below hbb; have HRy : Hid (Box wy wo.heap.size ((wordsB n).map Value.string).toArray) := RX.below hbb; have HBy : Hid (Below wo.heap.size wo wy) := Below.step0 hbx hbb; have qI := BIy.cell; have fI := BIy.free; have zI := BIy.lt; have rr : wy.cell? ⟨wo.heap.size, k + 1, none⟩ = some (.string d) := (by rw [HRy.out.cell]; exact HDc.out); clear hbb))
                    go_roundw
                    case rel => exact ⟨k + 1, by omega, rfl, by rw [HC3.out], HBy.out.setCell (by simp) _, HRy.out.setOther (by omega), by rw [HC3.out]; exact BIy.set 3 _ (by simp)⟩
                    case measure => simp [intOf]; omega
                  · have hc3 : (cand (wordsB n) ws (k + 1) = ⟨a, b, (numV (Lib.trimPrefix x [114]) (-4000) 4000).1, (numV (Lib.trimPrefix x [114]) (-4000) 4000).2⟩) := by
                      rw [HCK]
                      simp [stF, hpre]
                    obtain ⟨v1, v2, hv⟩ : ∃ v1 v2, numV (Lib.trimPrefix x [114]) (-4000) 4000 = (v1, v2) := ⟨_, _, rfl⟩
                    have cNu := fun w => ref_numeral (Lib.trimPrefix x [114]) (-4000) 4000 w (by have := trim_len x [114]; omega)
                    rw [hv] at cNu hc3
                    dsimp only at cNu hc3
                    have HC3 := Hid.mk' hc3
                    clear HCK hv hc3
                    have cTr := fun w => inst_trim x w
                    generalize bL (Lib.trimPrefix x [114]) = XT at *
                    rw [hpre] at cPre
                    generalize bL x = XS at *
                    go_wp2_with (first | (go_at_call 33; refine (kc _).mono ?_; rintro e w' ⟨rfl, hw⟩; replace hw := hw.symm; subst hw) | (go_at_call 34; refine (cTr _).mono ?_; rintro e w' ⟨rfl, hw⟩; replace hw := hw.symm; subst hw) | (go_at_call 30; refine (cPre _).mono ?_; rintro e w' ⟨rfl, hw⟩; replace hw := hw.symm; subst hw) | (go_at_call 31; refine (cNu _).mono ?_; rintro e wy ⟨rfl, hbb⟩; have BIy := BI.below hbb; have HRy : Hid (Box wy wo.heap.size ((wordsB n).map Value.string).toArray) := RX.below hbb; have HBy : Hid (Below wo.heap.size wo wy) := Below.step0 hbx hbb; have qI := BIy.cell; have fI := BIy.free; have zI := BIy.lt; have rr : wy.cell? ⟨wo.heap.size, k + 1, none⟩ = some (.string d) := (by rw [HRy.out.cell]; exact HDc.out); clear hbb))
                    go_roundw
                    case rel => exact ⟨k + 1, by omega, rfl, by rw [HC3.out], HBy.out.setCell (by simp) _, HRy.out.setOther (by omega), by rw [HC3.out]; exact BIy.set 3 _ (by simp)⟩
                    case measure => simp [intOf]; omega
              · rw [ea, eb, er] at HCK
                rw [er] at kc
                rw [ea] at dA
                rw [eb] at dB
                cases g
                · have hc3 : (cand (wordsB n) ws (k + 1) = ⟨a, b, (numV x (-4000) 4000).1, false⟩) := by
                    rw [HCK]
                    simp [stF]
                  obtain ⟨v1, v2, hv⟩ : ∃ v1 v2, numV x (-4000) 4000 = (v1, v2) := ⟨_, _, rfl⟩
                  have cNu := fun w => ref_numeral x (-4000) 4000 w (by omega)
                  rw [hv] at cNu hc3
                  dsimp only at cNu hc3
                  have HC3 := Hid.mk' hc3
                  clear HCK hv hc3
                  generalize bL x = XS at *
                  go_wp2_with (first | (go_at_call 33; refine (kc _).mono ?_; rintro e w' ⟨rfl, hw⟩; replace hw := hw.symm; subst hw) | (go_at_call 31; refine (cNu _).mono ?_; rintro e wy ⟨rfl, hbb⟩; have BIy := BI.below hbb; have HRy : Hid (Box wy wo.heap.size ((wordsB n).map Value.string).toArray) := RX.below hbb; have HBy : Hid (Below wo.heap.size wo wy) := Below.step0 hbx hbb; have qI := BIy.cell; have fI := BIy.free; have zI := BIy.lt; have rr : wy.cell? ⟨wo.heap.size, k + 1, none⟩ = some (.string d) := (by rw [HRy.out.cell]; exact HDc.out); clear hbb))
                  go_roundw
                  case rel => exact ⟨k + 1, by omega, rfl, by rw [HC3.out], HBy.out.setCell (by simp) _, HRy.out.setOther (by omega), by rw [HC3.out]; exact BIy.set 3 _ (by simp)⟩
                  case measure => simp [intOf]; omega
                · have hc3 : (cand (wordsB n) ws (k + 1) = ⟨a, b, (numV x (-4000) 4000).1, (numV x (-4000) 4000).2⟩) := by
                    rw [HCK]
                    simp [stF]
                  obtain ⟨v1, v2, hv⟩ : ∃ v1 v2, numV x (-4000) 4000 = (v1, v2) := ⟨_, _, rfl⟩
                  have cNu := fun w => ref_numeral x (-4000) 4000 w (by omega)
                  rw [hv] at cNu hc3
                  dsimp only at cNu hc3
                  have HC3 := Hid.mk' hc3
                  clear HCK hv hc3
                  generalize bL x = XS at *
                  go_wp2_with (first | (go_at_call 33; refine (kc _).mono ?_; rintro e w' ⟨rfl, hw⟩; replace hw := hw.symm; subst hw) | (go_at_call 31; refine (cNu _).mono ?_; rintro e wy ⟨rfl, hbb⟩; have BIy := BI.below hbb; have HRy : Hid (Box wy wo.heap.size ((wordsB n).map Value.string).toArray) := RX.below hbb; have HBy : Hid (Below wo.heap.size wo wy) := Below.step0 hbx hbb; have qI := BIy.cell; have fI := BIy.free; have zI := BIy.lt; have rr : wy.cell? ⟨wo.heap.size, k + 1, none⟩ = some (.string d) := (by rw [HRy.out.cell]; exact HDc.out); clear hbb))
                  go_roundw
                  case rel => exact ⟨k + 1, by omega, rfl, by rw [HC3.out], HBy.out.setCell (by simp) _, HRy.out.setOther (by omega), by rw [HC3.out]; exact BIy.set 3 _ (by simp)⟩
                  case measure => simp [intOf]; omega
            · obtain rfl : k = q := by omega
              have gq : ¬ (k : Int) + 1 < ((wordsB n).length : Int) := by have := HQ.out; omega
              have gw : ¬ (k : Int) + 1 < (ws.length : Int) := by have := WQ.out; omega
              have HBw : Hid (Below w.heap.size w wr) := HBr.out.trans (hbx.mono HBr.out.size)
              obtain ⟨⟨a, b, c, g⟩, hck⟩ : ∃ s, cand (wordsB n) ws k = s := ⟨_, rfl⟩
              rw [hck] at BI ⊢
              dsimp only at BI ⊢
              have HNC : Hid (¬ (g = true ∧ chkD n a b c = 0 ∧ textL n a b c = l) → ∀ o a b c : Int, chkD o a b c = 0 → textL o.toNat a b c = l → ((n + 1 : Nat) : Int) ≤ o) := fun hne o a' b' c' h1 h2 => by
                have h3 := HNO.out o a' b' c' h1 h2
                have h4 := (chkD_ok h1).1
                rcases Nat.lt_or_ge n o.toNat with h5 | h5
                · omega
                · exfalso
                  have h7 : o = ((n : Nat) : Int) := by omega
                  subst h7
                  have e3 := (cand_text n hlt a' b' c' h1).2.2
                  have h8 : textL n a' b' c' = l := h2
                  rw [h8, HW.out, HQ.out, Nat.add_sub_cancel, hck] at e3
                  injection e3 with e4 e5 e6 e7
                  subst e4 e5 e6 e7
                  exact hne ⟨rfl, h1, h8⟩
              have cX := fun w m hM zM => ref_insttext (n : Int) a b c w m hM zM
              have qB := BI.cell
              have zB := BI.lt
              clear hck CX
              cases g
              · have HN2 : Hid (∀ o a b c : Int, chkD o a b c = 0 → textL o.toNat a b c = l → ((n + 1 : Nat) : Int) ≤ o) := HNC.out (by simp)
                generalize bL (textD (n : Int) a b c) = TT at *
                generalize chkD (n : Int) a b c = K at *
                clear HNC
                go_wp2_with (go_at_call 35; refine (cX _ m (HM.out _ HBw.out).1 (HM.out _ HBw.out).2).mono ?_; rintro e wy ⟨rfl, hbb⟩; have BIy := BI.below hbb; have HBy : Hid (Below wo.heap.size wo wy) := Below.step0 hbx hbb; have BRy := BR.below (Below.step0 hbx hbb); have qI := BIy.cell; have zI := BIy.lt; have qR := BRy.cell; have fR := BRy.free; have zR := BRy.lt; clear hbb)
                go_roundw
                case rel => exact ⟨n + 1, by omega, rfl, HBo.out.trans (HBy.out.mono HBo.out.size), HN2.out⟩
                case measure => simp [intOf]; omega
              · by_cases hc : chkD (n : Int) a b c = 0
                · have eT : textD (n : Int) a b c = textL n a b c := by unfold textD; rw [if_pos hc]; rfl
                  rw [eT, hc] at cX
                  by_cases ht : textL n a b c = l
                  · have es := str_same (show bL (textL n a b c) = S by rw [ht]; exact HS.out)
                    have hU : U = ⟨n, a, b, c, 0⟩ := by
                      rw [← HU.out, ← ht]
                      exact parse_text (o := (n : Int)) hc
                    subst hU
                    generalize bL (textL n a b c) = TT at *
                    clear HNC HU hc ht eT
                    go_wp2_with (go_at_call 35; refine (cX _ m (HM.out _ HBw.out).1 (HM.out _ HBw.out).2).mono ?_; rintro e wy ⟨rfl, hbb⟩; have BIy := BI.below hbb; have HBy : Hid (Below wo.heap.size wo wy) := Below.step0 hbx hbb; have BRy := BR.below (Below.step0 hbx hbb); have qI := BIy.cell; have zI := BIy.lt; have qR := BRy.cell; have fR := BRy.free; have zR := BRy.lt; clear hbb)
                    have hz := HBr.out.trans (HBy.out.mono HBr.out.size)
                    refine bodyPost_ret (v := .tuple #[.agg #[.int .i64 (n : Int), .int .i64 a, .int .i64 b, .int .i64 c], .int .i64 0]) (by simp [results, Tryz.results14, go_sem, qR]) rfl ⟨rfl, ?_⟩
                    exact (((hz.setCell (by simp) _).setCell (by simp) _).setCell (by simp) _).setCell (by simp) _
                  · have es := str_differ (fun h : bL (textL n a b c) = S => ht (bL_inj (h.trans HS.out.symm)))
                    have HN2 : Hid (∀ o a b c : Int, chkD o a b c = 0 → textL o.toNat a b c = l → ((n + 1 : Nat) : Int) ≤ o) := HNC.out (fun h => ht h.2.2)
                    generalize bL (textL n a b c) = TT at *
                    clear HNC hc ht eT
                    go_wp2_with (go_at_call 35; refine (cX _ m (HM.out _ HBw.out).1 (HM.out _ HBw.out).2).mono ?_; rintro e wy ⟨rfl, hbb⟩; have BIy := BI.below hbb; have HBy : Hid (Below wo.heap.size wo wy) := Below.step0 hbx hbb; have BRy := BR.below (Below.step0 hbx hbb); have qI := BIy.cell; have zI := BIy.lt; have qR := BRy.cell; have fR := BRy.free; have zR := BRy.lt; clear hbb)
                    go_roundw
                    case rel => exact ⟨n + 1, by omega, rfl, HBo.out.trans (HBy.out.mono HBo.out.size), HN2.out⟩
                    case measure => simp [intOf]; omega
                · have hc' : (chkD (n : Int) a b c == 0) = false := by simpa using hc
                  have HN2 : Hid (∀ o a b c : Int, chkD o a b c = 0 → textL o.toNat a b c = l → ((n + 1 : Nat) : Int) ≤ o) := HNC.out (fun h => hc h.2.1)
                  generalize bL (textD (n : Int) a b c) = TT at *
                  generalize chkD (n : Int) a b c = K at *
                  clear HNC hc
                  go_wp2_with (go_at_call 35; refine (cX _ m (HM.out _ HBw.out).1 (HM.out _ HBw.out).2).mono ?_; rintro e wy ⟨rfl, hbb⟩; have BIy := BI.below hbb; have HBy : Hid (Below wo.heap.size wo wy) := Below.step0 hbx hbb; have BRy := BR.below (Below.step0 hbx hbb); have qI := BIy.cell; have zI := BIy.lt; have qR := BRy.cell; have fR := BRy.free; have zR := BRy.lt; clear hbb)
                  go_roundw
                  case rel => exact ⟨n + 1, by omega, rfl, HBo.out.trans (HBy.out.mono HBo.out.size), HN2.out⟩
                  case measure => simp [intOf]; omega
        · have gl : (((wordsB n).length : Int) != (ws.length : Int)) = true := by simp; omega
          have HN1 := HNX.out (fun h => hlen h.2)
          have HN2 : Hid (∀ o a b c : Int, chkD o a b c = 0 → textL o.toNat a b c = l → ((n + 1 : Nat) : Int) ≤ o) := HN1
          generalize bL (shW n) = P0 at *
          generalize bL (ws.getD 0 []) = P1 at *
          clear HN1 HNX
          go_wp2_with (go_at_call 9; refine cW.mono ?_; rintro e w' ⟨rfl, hw⟩; replace hw := hw.symm; subst hw)
          go_region
          all_goals go_wp2
          go_roundw
          case rel => exact ⟨n + 1, by omega, rfl, HBx.out.drew, HN2.out⟩
          case measure => simp [intOf]; omega
      · have e0 := str_differ (fun h : bL (shW n) = bL (ws.getD 0 []) => h0 (bL_inj h))
        have HN1 := HNX.out (fun h => h0 h.1)
        have HN2 : Hid (∀ o a b c : Int, chkD o a b c = 0 → textL o.toNat a b c = l → ((n + 1 : Nat) : Int) ≤ o) := HN1
        generalize bL (shW n) = P0 at *
        generalize bL (ws.getD 0 []) = P1 at *
        clear HN1 HNX
        go_wp2_with (go_at_call 9; refine cW.mono ?_; rintro e w' ⟨rfl, hw⟩; replace hw := hw.symm; subst hw)
        go_region
        all_goals go_wp2
        go_roundw
        case rel => exact ⟨n + 1, by omega, rfl, HBx.out.drew, HN2.out⟩
        case measure => simp [intOf]; omega
    · obtain rfl : n = 23 := by omega
      have hU : U = ⟨0, 0, 0, 0, 3⟩ := by
        rw [← HU.out]
        rcases parse_cases l with ⟨h, _⟩ | ⟨_, h1, h2⟩
        · exact h
        · have h3 := hno _ _ _ _ h1 h2
          have h4 := (chkD_ok h1).1
          omega
      subst hU
      have q0 := BR.cell
      have f0 := BR.free
      have zb := BR.lt
      clear hno HU HNO CR DR hB
      go_wp2
      refine bodyPost_ret (v := .tuple #[.agg #[.int .i64 0, .int .i64 0, .int .i64 0, .int .i64 0], .int .i64 3]) (by simp [results, Tryz.results14, go_sem, q0]) rfl ⟨rfl, ?_⟩
      exact (((HBr.out.setCell (by simp) _).setCell (by simp) _).setCell (by simp) _).setCell (by simp) _
end Go.Proofs.YtfafkijcejbcpaaGreatDoor
