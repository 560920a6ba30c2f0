/- package step: fetch. -/
import Derived.Test.YtlfeglljpfihhaaGreatDoorRows
import Derived.Test.YtlfeglljpfihhaaGreatDoorCardBaseX
import Derived.Test.YtlfeglljpfihhaaGreatDoorCellChkX
import Derived.Test.YtlfeglljpfihhaaGreatDoorKeyCovX
import Derived.Test.YtlfeglljpfihhaaGreatDoorValArgX
import Derived.Test.YtlfeglljpfihhaaGreatDoorMemPureX
import Derived.Test.YtlfeglljpfihhaaGreatDoorInstShapeX
import Derived.Test.YtlfeglljpfihhaaGreatDoorStepRowX
import Derived.Test.YtlfeglljpfihhaaGreatDoorStepOffX
import Derived.Test.YtlfeglljpfihhaaGreatDoorStepOwnedX
import Derived.WalkKit
import Derived.ProofKit
import Derived.OpenShut
import Derived.WalkLawsBesides
namespace Go.Proofs.YtlfeglljpfihhaaGreatDoor
open Go.ChangeShapes Go.WideShapes Go.ChangeAt Go.RowKit
set_option linter.unusedSimpArgs false
set_option linter.unusedVariables false
set_option maxRecDepth 100000

def cellAt (x : MC) : MV := x.m.getD x.k.a.toNat nil0
def insAt (x : MC) : ID := readD (cellAt x).n
/-- P19: what is wrong with the instruction that a machine is at. -/
def fetI (x : MC) : Int := if x.k.s = 0 then (if inB 4 x.k.p = true then (if cov5 x.k x.k.a = true ∧ x.k.a < x.m.length then (if (cellAt x).i = true then 5 else (insAt x).e) else 13) else 12) else 11
section
variable {w : World} {S bb : Nat} {x : MC} {q : MA} {i : ID} {n : K5}
set_option maxHeartbeats 1000000 in
theorem step_fetch_no (h : St w S bb x q i n) (hS : Shp w) (ho : ok5 x.k) (hm : mvsOk x.m) (hl : x.m.length ≤ 400) (he : ¬ fetI x = 0) :
    Calls Tryz.prog 50 #[.pointer (some ⟨S, 0, none⟩)] w fun r w' => r = thrown (.e (fetI x)) ∧ Below w.heap.size w w' := by
  obtain ⟨k0, k1, k2, k3, k4, lm, -, -, -, -, -, -, -, -, -, -, -⟩ := h.cells
  have hlt := h.box.lt
  have n1 : ¬ S = w.heap.size := by omega
  have n3 : ¬ w.heap.size = S := by omega
  have HH : Hid (St w S bb x q i n) := h
  have hok := ok5_lit ho
  have hk : k5b x.k := by
    show kb _ _ _ _ _
    unfold kb
    omega
  have cW := fun w => perm_within 4 x.k.p w
  have cC := fun w => keys_covers x.k.p x.k.b x.k.l x.k.a x.k.s x.k.a w hk hk.2.2.2.1
  have hcv : covB x.k.b x.k.l x.k.a = cov5 x.k x.k.a := rfl
  rw [hcv] at cC
  obtain ⟨k, hka⟩ := Int.eq_ofNat_of_zero_le hok.2.2.2.2.2.1
  unfold fetI at he ⊢
  by_cases h1 : x.k.s = 0
  · rw [if_pos h1] at he ⊢
    rw [h1] at k4 cC
    by_cases h2 : inB 4 x.k.p = true
    · rw [if_pos h2] at he ⊢
      rw [h2] at cW
      by_cases h3 : cov5 x.k x.k.a = true ∧ x.k.a < x.m.length
      · rw [if_pos h3] at he ⊢
        rw [h3.1] at cC
        have hkl : k < x.m.length := by have := h3.2; omega
        obtain ⟨v, hv⟩ : ∃ v, x.m[k]? = some v := ⟨_, List.getElem?_eq_getElem hkl⟩
        have hca : cellAt x = v := by unfold cellAt; rw [hka, Int.toNat_natCast, List.getD_eq_getElem?_getD, hv]; rfl
        obtain ⟨B, off, hq, hBl, c0, c1, -⟩ := h.at_.m.at hv
        have gk : (k : Int) < (x.m.length : Int) := by omega
        have gk2 : ¬ (x.m.length : Int) ≤ (k : Int) := by omega
        have hvb : mvOk v := mvs_at hm hv
        rw [hca] at he ⊢
        unfold insAt at he ⊢
        rw [hca] at he ⊢
        rw [hka] at k3 cC
        cases hvi : v.i
        · rw [hvi] at c0 he
          rw [if_neg (by decide)] at he ⊢
          have cR := fun w hS => inst_read v.n w hS hvb.1 _ rfl
          generalize readD v.n = U at *
          have hue : ¬ U.e = 0 := he
          clear he hv hok hk h ho hcv hca h3 hvb hka
          go_enter Tryz.func50, Tryz.ntmps50
          go_wp2_with (first | (go_at_call 73; first | (refine (step_refuse_no' _ (by first | with_reducible rfl | (simp; done) | (simp; omega)) _ _).mono ?_; rintro e w0 ⟨rfl, hw0⟩; obtain rfl := hw0.symm) | (refine (step_refuse_yes' _ (by first | with_reducible rfl | (simp; done) | (simp; omega)) _ _).mono ?_; unfold thrown; rintro e w0 ⟨rfl, hw0⟩; obtain rfl := hw0.symm)) | (go_at_call 35; refine (cW _).mono ?_; rintro e w0 ⟨rfl, hw0⟩; obtain rfl := hw0.symm) | (go_at_call 66; refine (cC _).mono ?_; rintro e w1 ⟨rfl, hbb⟩; have hB := Below.step0 ((Below.refl _ _).alloc (Nat.le_refl _) _) hbb; have l61 := (HH.out.below hB).cells.lm; rw [hq] at l61; have d0 := (hB.cell (p := ⟨B, off + k * 7, none⟩) hBl).trans c0; have d1 := (hB.cell (p := ⟨B, off + k * 7 + 1, none⟩) hBl).trans c1; have b2 := (Box.new w _ _).below hbb; have HB2 : Hid (Box w1 w.heap.size #[.int .i64 0, .int .i64 0, .int .i64 0, .int .i64 0]) := b2; clear hbb cC b2) | (go_at_call 75; refine (cR _ (hS.below hB)).mono ?_; rintro e w2 ⟨rfl, hbb⟩; replace hB := Below.step0 hB hbb; have HB3 : Hid (Box w2 w.heap.size #[.int .i64 0, .int .i64 0, .int .i64 0, .int .i64 0]) := HB2.out.below hbb; clear hbb cR) | (go_at_call 74; refine (sure_inst_no _ _ _ _ _ hue _).mono ?_; unfold thrown; rintro e w3 ⟨rfl, hbb⟩; replace hB := Below.step0 hB hbb; clear hbb))
          exact ⟨rfl, rfl, hB⟩
        · rw [hvi] at c0
          rw [if_pos rfl]
          clear he hv hok hk h ho hcv hca h3 hvb hka
          go_enter Tryz.func50, Tryz.ntmps50
          go_wp2_with (first | (go_at_call 73; first | (refine (step_refuse_no' _ (by first | with_reducible rfl | (simp; done) | (simp; omega)) _ _).mono ?_; rintro e w0 ⟨rfl, hw0⟩; obtain rfl := hw0.symm) | (refine (step_refuse_yes' _ (by first | with_reducible rfl | (simp; done) | (simp; omega)) _ _).mono ?_; unfold thrown; rintro e w0 ⟨rfl, hw0⟩; obtain rfl := hw0.symm)) | (go_at_call 35; refine (cW _).mono ?_; rintro e w0 ⟨rfl, hw0⟩; obtain rfl := hw0.symm) | (go_at_call 66; refine (cC _).mono ?_; rintro e w1 ⟨rfl, hbb⟩; have hB := Below.step0 ((Below.refl _ _).alloc (Nat.le_refl _) _) hbb; have l61 := (HH.out.below hB).cells.lm; rw [hq] at l61; have d0 := (hB.cell (p := ⟨B, off + k * 7, none⟩) hBl).trans c0; have d1 := (hB.cell (p := ⟨B, off + k * 7 + 1, none⟩) hBl).trans c1; have b2 := (Box.new w _ _).below hbb; have HB2 : Hid (Box w1 w.heap.size #[.int .i64 0, .int .i64 0, .int .i64 0, .int .i64 0]) := b2; clear hbb cC b2))
          exact ⟨rfl, rfl, hB⟩
      · rw [if_neg h3]
        rw [hka] at k3 cC
        cases hc : cov5 x.k x.k.a
        · rw [hka] at hc
          rw [hc] at cC
          clear he hok hk h ho hcv h3 hka
          go_enter Tryz.func50, Tryz.ntmps50
          go_wp2_with (first | (go_at_call 73; first | (refine (step_refuse_no' _ (by first | with_reducible rfl | (simp; done) | (simp; omega)) _ _).mono ?_; rintro e w0 ⟨rfl, hw0⟩; obtain rfl := hw0.symm) | (refine (step_refuse_yes' _ (by first | with_reducible rfl | (simp; done) | (simp; omega)) _ _).mono ?_; unfold thrown; rintro e w0 ⟨rfl, hw0⟩; obtain rfl := hw0.symm)) | (go_at_call 35; refine (cW _).mono ?_; rintro e w0 ⟨rfl, hw0⟩; obtain rfl := hw0.symm) | (go_at_call 66; refine (cC _).mono ?_; rintro e w1 ⟨rfl, hbb⟩; have hB := Below.step0 ((Below.refl _ _).alloc (Nat.le_refl _) _) hbb; have l61 := (HH.out.below hB).cells.lm; clear hbb cC))
          exact ⟨rfl, rfl, hB⟩
        · have hlen : ¬ x.k.a < x.m.length := fun e => h3 ⟨hc, e⟩
          have gk : (x.m.length : Int) ≤ (k : Int) := by omega
          rw [hka] at hc
          rw [hc] at cC
          clear he hok hk h ho hcv h3 hka hlen
          go_enter Tryz.func50, Tryz.ntmps50
          go_wp2_with (first | (go_at_call 73; first | (refine (step_refuse_no' _ (by first | with_reducible rfl | (simp; done) | (simp; omega)) _ _).mono ?_; rintro e w0 ⟨rfl, hw0⟩; obtain rfl := hw0.symm) | (refine (step_refuse_yes' _ (by first | with_reducible rfl | (simp; done) | (simp; omega)) _ _).mono ?_; unfold thrown; rintro e w0 ⟨rfl, hw0⟩; obtain rfl := hw0.symm)) | (go_at_call 35; refine (cW _).mono ?_; rintro e w0 ⟨rfl, hw0⟩; obtain rfl := hw0.symm) | (go_at_call 66; refine (cC _).mono ?_; rintro e w1 ⟨rfl, hbb⟩; have hB := Below.step0 ((Below.refl _ _).alloc (Nat.le_refl _) _) hbb; have l61 := (HH.out.below hB).cells.lm; clear hbb cC))
          exact ⟨rfl, rfl, hB⟩
    · rw [if_neg h2]
      have h2' : inB 4 x.k.p = false := by cases e : inB 4 x.k.p; rfl; exact absurd e h2
      rw [h2'] at cW
      clear he hok hk h ho hcv h2 h2' cC
      go_enter Tryz.func50, Tryz.ntmps50
      go_wp2_with (first | (go_at_call 73; first | (refine (step_refuse_no' _ (by first | with_reducible rfl | (simp; done) | (simp; omega)) _ _).mono ?_; rintro e w0 ⟨rfl, hw0⟩; obtain rfl := hw0.symm) | (refine (step_refuse_yes' _ (by first | with_reducible rfl | (simp; done) | (simp; omega)) _ _).mono ?_; unfold thrown; rintro e w0 ⟨rfl, hw0⟩; obtain rfl := hw0.symm)) | (go_at_call 35; refine (cW _).mono ?_; rintro e w0 ⟨rfl, hw0⟩; obtain rfl := hw0.symm))
      exact ⟨rfl, rfl, (Below.refl _ _).alloc (Nat.le_refl _) _⟩
  · rw [if_neg h1]
    have g1 : (x.k.s != 0) = true := by simpa using h1
    clear he hok hk h ho hcv cC
    go_enter Tryz.func50, Tryz.ntmps50
    go_wp2_with (first | (go_at_call 73; first | (refine (step_refuse_no' _ (by first | with_reducible rfl | (simp; done) | (simp; omega)) _ _).mono ?_; rintro e w0 ⟨rfl, hw0⟩; obtain rfl := hw0.symm) | (refine (step_refuse_yes' _ (by first | with_reducible rfl | (simp; done) | (simp; omega)) _ _).mono ?_; unfold thrown; rintro e w0 ⟨rfl, hw0⟩; obtain rfl := hw0.symm)))
    exact ⟨rfl, rfl, (Below.refl _ _).alloc (Nat.le_refl _) _⟩
set_option maxHeartbeats 1000000 in
theorem step_fetch_yes (h : St w S bb x q i n) (hS : Shp w) (ho : ok5 x.k) (hm : mvsOk x.m) (hl : x.m.length ≤ 400) (he : fetI x = 0) :
    Calls Tryz.prog 50 #[.pointer (some ⟨S, 0, none⟩)] w fun r w' => r = .returned (.agg #[.int .i64 (insAt x).o, .int .i64 (insAt x).a, .int .i64 (insAt x).b, .int .i64 (insAt x).c]) ∧ Below w.heap.size w w' := by
  obtain ⟨k0, k1, k2, k3, k4, lm, -, -, -, -, -, -, -, -, -, -, -⟩ := h.cells
  have hlt := h.box.lt
  have n1 : ¬ S = w.heap.size := by omega
  have n3 : ¬ w.heap.size = S := by omega
  have HH : Hid (St w S bb x q i n) := h
  have hok := ok5_lit ho
  have hk : k5b x.k := by
    show kb _ _ _ _ _
    unfold kb
    omega
  have cW := fun w => perm_within 4 x.k.p w
  have cC := fun w => keys_covers x.k.p x.k.b x.k.l x.k.a x.k.s x.k.a w hk hk.2.2.2.1
  have hcv : covB x.k.b x.k.l x.k.a = cov5 x.k x.k.a := rfl
  rw [hcv] at cC
  obtain ⟨k, hka⟩ := Int.eq_ofNat_of_zero_le hok.2.2.2.2.2.1
  unfold fetI at he
  by_cases h1 : x.k.s = 0
  · rw [if_pos h1] at he
    rw [h1] at k4 cC
    by_cases h2 : inB 4 x.k.p = true
    · rw [if_pos h2] at he
      rw [h2] at cW
      by_cases h3 : cov5 x.k x.k.a = true ∧ x.k.a < x.m.length
      · rw [if_pos h3] at he
        rw [h3.1] at cC
        have hkl : k < x.m.length := by have := h3.2; omega
        obtain ⟨v, hv⟩ : ∃ v, x.m[k]? = some v := ⟨_, List.getElem?_eq_getElem hkl⟩
        have hca : cellAt x = v := by unfold cellAt; rw [hka, Int.toNat_natCast, List.getD_eq_getElem?_getD, hv]; rfl
        obtain ⟨B, off, hq, hBl, c0, c1, -⟩ := h.at_.m.at hv
        have gk : (k : Int) < (x.m.length : Int) := by omega
        have gk2 : ¬ (x.m.length : Int) ≤ (k : Int) := by omega
        have hvb : mvOk v := mvs_at hm hv
        rw [hca] at he
        unfold insAt at he ⊢
        rw [hca] at he ⊢
        rw [hka] at k3 cC
        cases hvi : v.i
        · rw [hvi] at c0 he
          rw [if_neg (by decide)] at he
          have cR := fun w hS => inst_read v.n w hS hvb.1 _ rfl
          generalize readD v.n = U at *
          have hue : U.e = 0 := he
          rw [hue] at cR
          clear he hv hok hk h ho hcv hca h3 hvb hka hue
          go_enter Tryz.func50, Tryz.ntmps50
          go_wp2_with (first | (go_at_call 73; first | (refine (step_refuse_no' _ (by first | with_reducible rfl | (simp; done) | (simp; omega)) _ _).mono ?_; rintro e w0 ⟨rfl, hw0⟩; obtain rfl := hw0.symm) | (refine (step_refuse_yes' _ (by first | with_reducible rfl | (simp; done) | (simp; omega)) _ _).mono ?_; unfold thrown; rintro e w0 ⟨rfl, hw0⟩; obtain rfl := hw0.symm)) | (go_at_call 35; refine (cW _).mono ?_; rintro e w0 ⟨rfl, hw0⟩; obtain rfl := hw0.symm) | (go_at_call 66; refine (cC _).mono ?_; rintro e w1 ⟨rfl, hbb⟩; have hB := Below.step0 ((Below.refl _ _).alloc (Nat.le_refl _) _) hbb; have l61 := (HH.out.below hB).cells.lm; rw [hq] at l61; have d0 := (hB.cell (p := ⟨B, off + k * 7, none⟩) hBl).trans c0; have d1 := (hB.cell (p := ⟨B, off + k * 7 + 1, none⟩) hBl).trans c1; have b2 := (Box.new w _ _).below hbb; have HB2 : Hid (Box w1 w.heap.size #[.int .i64 0, .int .i64 0, .int .i64 0, .int .i64 0]) := b2; clear hbb cC b2) | (go_at_call 75; refine (cR _ (hS.below hB)).mono ?_; rintro e w2 ⟨rfl, hbb⟩; replace hB := Below.step0 hB hbb; have HB3 : Hid (Box w2 w.heap.size #[.int .i64 0, .int .i64 0, .int .i64 0, .int .i64 0]) := HB2.out.below hbb; clear hbb cR) | (go_at_call 74; refine (sure_inst_yes _ _ _ _ _).mono ?_; rintro e w3 ⟨rfl, hbb⟩; replace hB := Below.step0 hB hbb; have b4 := HB3.out.below hbb; have q4 := b4.cell; have f4 := b4.free; clear hbb))
          exact bodyPost_ret (v := .agg #[.int .i64 U.o, .int .i64 U.a, .int .i64 U.b, .int .i64 U.c]) (by simp [results, Tryz.results50, go_sem, q4]) rfl ⟨rfl, (((hB.setCell (Nat.le_refl _) _).setCell (Nat.le_refl _) _).setCell (Nat.le_refl _) _).setCell (Nat.le_refl _) _⟩
        · rw [hvi, if_pos rfl] at he
          cases he
      · rw [if_neg h3] at he
        cases he
    · rw [if_neg h2] at he
      cases he
  · rw [if_neg h1] at he
    cases he
end
end Go.Proofs.YtlfeglljpfihhaaGreatDoor
