/- package sweep: a list of values. -/
import Derived.Test.YthijebhhbflclaaRows
import Derived.Test.YthijebhhbflclaaBits
import Derived.Test.YthijebhhbflclaaKeyPure
import Derived.Test.YthijebhhbflclaaCellPure
import Derived.Test.YthijebhhbflclaaValsArg
import Derived.Test.YthijebhhbflclaaMemPure
import Derived.Test.YthijebhhbflclaaMachArg
import Derived.Test.YthijebhhbflclaaStepChk
import Derived.Test.YthijebhhbflclaaStepChk2
import Derived.Test.YthijebhhbflclaaMachMid
import Derived.Test.YthijebhhbflclaaSweepPure
import Derived.Test.YthijebhhbflclaaSweepStrike
import Derived.Test.YthijebhhbflclaaSweepGo
import Derived.Test.YthijebhhbflclaaRowMade
import Derived.WalkKit
import Derived.ProofKit
import Derived.OpenShut
import Derived.Deep.MidRow
import Derived.Deep.CutBlock
namespace Go.Proofs.Ythijebhhbflclaa
open Go.ChangeShapes Go.WideShapes Go.ChangeAt Go.RowKit
set_option linter.unusedSimpArgs false
set_option linter.unusedVariables false
set_option maxRecDepth 100000

set_option maxHeartbeats 4000000 in
theorem sweep_values (S : Nat) (b n : Int) (c : Nat) (s : Option Addr) (cap : Nat) (vs : List MV) (w : World) (hA : ∀ W, Off S w W → ValsAt W s vs) (hl : vs.length ≤ 400) (hk : ∀ v ∈ vs, v.i = true → ok5 (vK v)) (hS : Brm w S b n c) (hc : c + cVs b n vs ≤ 1000) :
    Calls Try.prog 30 #[.pointer (some ⟨S, 0, none⟩), .slice s vs.length cap] w fun e w' => ∃ g, e = .returned (.slice (some ⟨g, 0, none⟩) vs.length vs.length) ∧ Off S w w' ∧ Brm w' S b n (c + cVs b n vs) ∧ (w.heap.size ≤ g ∧ g < w'.heap.size) ∧ RowAt w' (some ⟨g, 0, none⟩) ((vs.map (swV b n)).flatMap mvC) := by
  obtain ⟨i0, hi, hz0, hz1, hz2⟩ := info_vals
  have hr := run_make (P := Try.prog) w 27 25 i0 _ Try.underlying27 hi hz0 .i64 .i64 (vs.length : Int) (vs.length : Int) (by omega) (Int.le_refl _) (by rw [hz2]; omega) (by omega)
  simp only [Int.toNat_natCast, hz1] at hr
  obtain ⟨C, hC⟩ : ∃ C, madeCells (Value.cells (.agg #[.bool false, .int .i64 0, .int .i64 0, .int .i64 0, .int .i64 0, .int .i64 0, .int .i64 0])) (vs.length * 7) = C := ⟨_, rfl⟩
  have zC : C.size = vs.length * 7 := by rw [← hC]; exact size_madeCells _ _
  rw [hC] at hr
  clear hC hi hz0 hz1 hz2
  have hlt := hS.box.lt
  have HH : Hid ((∀ W, Off S w W → ValsAt W s vs) ∧ (∀ v ∈ vs, v.i = true → ok5 (vK v)) ∧ Brm w S b n c ∧ c + cVs b n vs ≤ 1000 ∧ C.size = vs.length * 7) := ⟨hA, hk, hS, hc, zC⟩
  clear hA hk hS hc zC
  go_enter Try.func30, Try.ntmps30
  go_wp2
  go_loopw [13] (fun i wr => ∃ k : Nat, k ≤ vs.length ∧ i = .int .i64 (k : Int) ∧ Off S w wr ∧ Brm wr S b n (c + cVs b n (vs.take k)) ∧ ∃ D, Box wr w.heap.size D ∧ D.size = vs.length * 7 ∧ Pre D (((vs.take k).map (swV b n)).flatMap mvC)) (fun i _ => vs.length - (intOf i).toNat)
  case atStart =>
    obtain ⟨h1, h3, h4, h5, h6⟩ := HH.out
    exact ⟨0, Nat.zero_le _, rfl, (Off.refl _ _).alloc _, h4.below ((Below.refl _ _).alloc (Nat.le_refl _) _), C, Box.new _ _ _, h6, pre_nil _⟩
  case round =>
    obtain ⟨k, hk, rfl, hO, hR, D, hD, zD, pD⟩ := hrel
    by_cases hlt2 : k < vs.length
    · have gk : (k : Int) < (vs.length : Int) := by omega
      obtain ⟨v, hv⟩ : ∃ v, vs[k]? = some v := ⟨_, List.getElem?_eq_getElem hlt2⟩
      obtain ⟨h1, h3, h4, h5, h6⟩ := HH.out
      obtain ⟨B, off, rfl, hBl, c0, c1, c2, c3, c4, c5, c6⟩ := (h1 _ hO).at hv
      have hok := h3 v (List.mem_of_getElem? hv)
      obtain ⟨e1, e2⟩ := cVs_take (b := b) (n := n) hv
      have hgd := hD.lt
      have hsz := hO.size
      have hSl := hR.box.lt
      have cS := fun w hR => sweep_value S b n (c + cVs b n (vs.take k)) v w hok hR (by omega)
      have hlk : (((vs.take k).map (swV b n)).flatMap mvC).length = k * 7 := by rw [flat_len mvC_len, List.length_map, List.length_take, Nat.min_eq_left hk]
      have HP : Hid (Pre D (((vs.take k).map (swV b n)).flatMap mvC) ∧ (((vs.take k).map (swV b n)).flatMap mvC).length = k * 7 ∧ vs[k]? = some v ∧ D.size = vs.length * 7 ∧ cVs b n (vs.take (k + 1)) = cVs b n (vs.take k) + cV b n v) := ⟨pD, hlk, hv, zD, e1⟩
      have hD7 : k * 7 + 7 ≤ D.size := by omega
      have n1 : ¬ w.heap.size = wr.heap.size := by omega
      have n2 : ¬ wr.heap.size = w.heap.size := by omega
      have n3 : ¬ w.heap.size = S := by omega
      clear h1 h3 h4 h5 h6 hok hv e1 e2 pD zD hlk
      go_wp2_with (first | (go_at_call 28; refine (cS _ (hR.below ((Below.refl _ _).alloc (Nat.le_refl _) _))).mono ?_; rintro e w1 ⟨rfl, hOv, hRv⟩; have hD1 := hOv.box (hD.alloc _) n3; have hO1 := (hO.alloc _).trans hOv; clear hOv cS) | ((with_reducible refine at_store ?_); refine pl_store_part rfl 25 (.tmp 23) (.tmp 22) rfl w.heap.size (k * 7) (mvC (swV b n v)) (by rfl) (by rfl) D hD1 hD7 info_val7 (val_one _) ?_; intro w2 D' hOs hDs zDs k1 k2))
      have hFin : Hid (Off S w w2 ∧ Brm w2 S b n (c + cVs b n (vs.take (k + 1))) ∧ Box w2 w.heap.size D' ∧ D'.size = vs.length * 7 ∧ Pre D' (((vs.take (k + 1)).map (swV b n)).flatMap mvC)) := by
        obtain ⟨p1, p2, p3, p4, p5⟩ := HP.out
        refine ⟨hO1.new hOs (Nat.le_refl _), ?_, hDs, by rw [zDs, p4], ?_⟩
        · rw [p5, ← Nat.add_assoc]
          exact hRv.off hOs (by omega)
        · rw [take_snoc p3, List.flatMap_append]
          exact pre_snoc p2 p1 (by simpa using k1) (by simpa using k2)
      clear hOs hDs zDs k1 k2 hO1 hRv hD1 hO hR hD
      go_roundw
      case rel =>
        obtain ⟨f1, f2, f3, f4, f5⟩ := hFin.out
        exact ⟨k + 1, by omega, rfl, f1, f2, D', f3, f4, f5⟩
      case measure => simp [intOf]; omega
    · obtain rfl : k = vs.length := by omega
      have gk : ¬ (vs.length : Int) < (vs.length : Int) := by omega
      rw [List.take_length] at hR pD
      have hgd := hD.lt
      have hrow := pre_row hD pD
      have HE : Hid (Off S w wr ∧ Brm wr S b n (c + cVs b n vs) ∧ (w.heap.size ≤ w.heap.size ∧ w.heap.size < wr.heap.size) ∧ RowAt wr (some ⟨w.heap.size, 0, none⟩) ((vs.map (swV b n)).flatMap mvC)) := ⟨hO, hR, ⟨Nat.le_refl _, hgd⟩, hrow⟩
      clear hO hR hD zD pD hrow
      go_wp2
      go_ret
      exact ⟨_, rfl, HE.out⟩
end Go.Proofs.Ythijebhhbflclaa
