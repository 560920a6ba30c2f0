/- package sweep: a list of frames. -/
import Derived.Test.YthijebhhbflclaaRows
import Derived.Test.YthijebhhbflclaaBits
import Derived.Test.YthijebhhbflclaaKeyPure
import Derived.Test.YthijebhhbflclaaCellPure
import Derived.Test.YthijebhhbflclaaValsArg
import Derived.Test.YthijebhhbflclaaMemPure
import Derived.Test.YthijebhhbflclaaMachArg
import Derived.Test.YthijebhhbflclaaStepChk
import Derived.Test.YthijebhhbflclaaStepChk2
import Derived.Test.YthijebhhbflclaaMachMid
import Derived.Test.YthijebhhbflclaaSweepPure
import Derived.Test.YthijebhhbflclaaSweepStrike
import Derived.Test.YthijebhhbflclaaSweepGo
import Derived.Test.YthijebhhbflclaaRowMade
import Derived.WalkKit
import Derived.ProofKit
import Derived.OpenShut
import Derived.Deep.MidRow
import Derived.Deep.CutBlock
import Derived.Deep.RegionLaw
namespace Go.Proofs.Ythijebhhbflclaa
open Go.ChangeShapes Go.WideShapes Go.ChangeAt Go.RowKit
set_option linter.unusedSimpArgs false
set_option linter.unusedVariables false
set_option maxRecDepth 100000

theorem frC_one (f : FR) : ∀ u ∈ frC f, u.oneCell' = true := by
  intro u hu
  simp only [frC, List.mem_cons, List.not_mem_nil, or_false] at hu
  rcases hu with rfl | rfl | rfl | rfl | rfl | rfl | rfl | rfl | rfl | rfl | rfl | rfl <;> rfl
theorem some_cell {D : Array Value} {j : Nat} (h : j < D.size) : ∃ u, D[j]? = some u := ⟨_, Array.getElem?_eq_getElem h⟩
set_option maxHeartbeats 4000000 in
theorem sweep_frames (S : Nat) (b n : Int) (c : Nat) (s : Option Addr) (cap : Nat) (vs : List FR) (w : World) (hA : ∀ W, Off S w W → FrsAt W s vs) (hl : vs.length ≤ 16) (hk : ∀ f ∈ vs, ok5 f.c ∧ (f.d.i = true → ok5 (vK f.d))) (hS : Brm w S b n c) (hc : c + cFs b n vs ≤ 1000) :
    Calls Try.prog 31 #[.pointer (some ⟨S, 0, none⟩), .slice s vs.length cap] w fun e w' => ∃ g, e = .returned (.slice (some ⟨g, 0, none⟩) vs.length vs.length) ∧ Off S w w' ∧ Brm w' S b n (c + cFs b n vs) ∧ (w.heap.size ≤ g ∧ g < w'.heap.size) ∧ RowAt w' (some ⟨g, 0, none⟩) ((vs.map (swF b n)).flatMap frC) := by
  obtain ⟨i0, hi, hz0, hz1, hz2⟩ := info_frames
  have hr := run_make (P := Try.prog) w 28 45 i0 _ Try.underlying28 hi hz0 .i64 .i64 (vs.length : Int) (vs.length : Int) (by omega) (Int.le_refl _) (by rw [hz2]; omega) (by omega)
  simp only [Int.toNat_natCast, hz1] at hr
  obtain ⟨C, hC⟩ : ∃ C, madeCells (Value.cells (.agg #[.int .i64 0, .int .i64 0, .int .i64 0, .int .i64 0, .int .i64 0, .bool false, .int .i64 0, .int .i64 0, .int .i64 0, .int .i64 0, .int .i64 0, .int .i64 0])) (vs.length * 12) = C := ⟨_, rfl⟩
  have zC : C.size = vs.length * 12 := by rw [← hC]; exact size_madeCells _ _
  rw [hC] at hr
  clear hC hi hz0 hz1 hz2
  have hlt := hS.box.lt
  have HH : Hid ((∀ W, Off S w W → FrsAt W s vs) ∧ (∀ f ∈ vs, ok5 f.c ∧ (f.d.i = true → ok5 (vK f.d))) ∧ Brm w S b n c ∧ c + cFs b n vs ≤ 1000 ∧ C.size = vs.length * 12) := ⟨hA, hk, hS, hc, zC⟩
  clear hA hk hS hc zC
  go_enter Try.func31, Try.ntmps31
  go_wp2
  go_loopw [13] (fun i wr => ∃ k : Nat, k ≤ vs.length ∧ i = .int .i64 (k : Int) ∧ Off S w wr ∧ Brm wr S b n (c + cFs b n (vs.take k)) ∧ ∃ D, Box wr w.heap.size D ∧ D.size = vs.length * 12 ∧ Pre D (((vs.take k).map (swF b n)).flatMap frC)) (fun i _ => vs.length - (intOf i).toNat)
  case atStart =>
    obtain ⟨h1, h3, h4, h5, h6⟩ := HH.out
    exact ⟨0, Nat.zero_le _, rfl, (Off.refl _ _).alloc _, h4.below ((Below.refl _ _).alloc (Nat.le_refl _) _), C, Box.new _ _ _, h6, pre_nil _⟩
  case round =>
    obtain ⟨k, hk, rfl, hO, hR, D, hD, zD, pD⟩ := hrel
    by_cases hlt2 : k < vs.length
    · have gk : (k : Int) < (vs.length : Int) := by omega
      obtain ⟨f, hv⟩ : ∃ f, vs[k]? = some f := ⟨_, List.getElem?_eq_getElem hlt2⟩
      obtain ⟨h1, h3, h4, h5, h6⟩ := HH.out
      obtain ⟨B, off, rfl, hBl, c0, c1, c2, c3, c4, c5, c6, c7, c8, c9, c10, c11⟩ := FrsAt.at (h1 _ hO) hv
      have hok := h3 f (List.mem_of_getElem? hv)
      obtain ⟨e1, e2⟩ := cFs_take (b := b) (n := n) hv
      have e3 : cF b n f = cK b n f.c + cV b n f.d := rfl
      have hgd := hD.lt
      have hsz := hO.size
      have hSl := hR.box.lt
      have cK' := fun w hR => sweep_key S b n (c + cFs b n (vs.take k)) f.c w hok.1 hR (by omega)
      have cV' := fun w hR => sweep_value S b n (c + cFs b n (vs.take k) + cK b n f.c) f.d w hok.2 hR (by omega)
      have hlk : (((vs.take k).map (swF b n)).flatMap frC).length = k * 12 := by rw [flat_len frC_len, List.length_map, List.length_take, Nat.min_eq_left hk]
      have HP : Hid (Pre D (((vs.take k).map (swF b n)).flatMap frC) ∧ (((vs.take k).map (swF b n)).flatMap frC).length = k * 12 ∧ vs[k]? = some f ∧ D.size = vs.length * 12 ∧ cFs b n (vs.take (k + 1)) = cFs b n (vs.take k) + cF b n f ∧ k * 12 + 12 ≤ D.size) := ⟨pD, hlk, hv, zD, e1, by omega⟩
      obtain ⟨z0, d0⟩ : ∃ u, D[k * 12]? = some u := some_cell (by omega)
      obtain ⟨z1, d1⟩ : ∃ u, D[k * 12 + 1]? = some u := some_cell (by omega)
      obtain ⟨z2, d2⟩ : ∃ u, D[k * 12 + 2]? = some u := some_cell (by omega)
      obtain ⟨z3, d3⟩ : ∃ u, D[k * 12 + 3]? = some u := some_cell (by omega)
      obtain ⟨z4, d4⟩ : ∃ u, D[k * 12 + 4]? = some u := some_cell (by omega)
      obtain ⟨z5, d5⟩ : ∃ u, D[k * 12 + 5]? = some u := some_cell (by omega)
      obtain ⟨z6, d6⟩ : ∃ u, D[k * 12 + 6]? = some u := some_cell (by omega)
      obtain ⟨z7, d7⟩ : ∃ u, D[k * 12 + 7]? = some u := some_cell (by omega)
      obtain ⟨z8, d8⟩ : ∃ u, D[k * 12 + 8]? = some u := some_cell (by omega)
      obtain ⟨z9, d9⟩ : ∃ u, D[k * 12 + 9]? = some u := some_cell (by omega)
      obtain ⟨z10, d10⟩ : ∃ u, D[k * 12 + 10]? = some u := some_cell (by omega)
      obtain ⟨z11, d11⟩ : ∃ u, D[k * 12 + 11]? = some u := some_cell (by omega)
      have n1 : ¬ w.heap.size = wr.heap.size := by omega
      have n2 : ¬ wr.heap.size = w.heap.size := by omega
      have n3 : ¬ w.heap.size = S := by omega
      have n4 : ¬ wr.heap.size = S := by omega
      clear h1 h3 h4 h5 h6 hok hv e1 e2 e3 pD zD hlk
      go_upto_region 5 with fail
      obtain ⟨wq, hwq⟩ : ∃ wq, wq = wr.alloc (.cells #[.int .i64 f.c.p, .int .i64 f.c.b, .int .i64 f.c.l, .int .i64 f.c.a, .int .i64 f.c.s, .bool f.d.i, .int .i64 f.d.n, .int .i64 f.d.p, .int .i64 f.d.b, .int .i64 f.d.l, .int .i64 f.d.a, .int .i64 f.d.s] 45) := ⟨_, rfl⟩
      rw [← hwq]
      have bF : Box wq.drew wr.heap.size #[.int .i64 f.c.p, .int .i64 f.c.b, .int .i64 f.c.l, .int .i64 f.c.a, .int .i64 f.c.s, .bool f.d.i, .int .i64 f.d.n, .int .i64 f.d.p, .int .i64 f.d.b, .int .i64 f.d.l, .int .i64 f.d.a, .int .i64 f.d.s] := by rw [hwq]; exact (Box.new _ _ _).drew
      have hO1 : Off S w wq.drew := by rw [hwq]; exact (hO.alloc _).drew
      have hR1 : Brm wq.drew S b n (c + cFs b n (vs.take k)) := by rw [hwq]; exact (hR.below ((Below.refl _ _).alloc (Nat.le_refl _) _)).below (below_drew _)
      have hD1 : Box wq.drew w.heap.size D := by rw [hwq]; exact (hD.alloc _).drew
      have qF := bF.cell
      have qD := hD1.cell
      have fD := hD1.free
      clear hwq hD hR hO
      go_region_law (first | (go_simp; go_at_call 29; refine (cK' _ hR1).mono ?_; rintro e w1 ⟨rfl, hOv, hRv⟩; replace bF := hOv.box bF n4; replace qF := bF.cell; replace hD1 := hOv.box hD1 n3; replace qD := hD1.cell; replace fD := hD1.free; replace hO1 := hO1.trans hOv; clear hOv cK' hR1) | (go_simp; go_at_call 28; refine (cV' _ hRv).mono ?_; rintro e w2 ⟨rfl, hOv, hRw⟩; replace bF := hOv.box bF n4; replace qF := bF.cell; replace hD1 := hOv.box hD1 n3; replace qD := hD1.cell; replace fD := hD1.free; replace hO1 := hO1.trans hOv; clear hOv cV' hRv))
      all_goals
        have hFin : Hid (Off S w (w2.setCells w.heap.size (k * 12) (frC (swF b n f))) ∧ Brm (w2.setCells w.heap.size (k * 12) (frC (swF b n f))) S b n (c + cFs b n (vs.take (k + 1))) ∧ ∃ D', Box (w2.setCells w.heap.size (k * 12) (frC (swF b n f))) w.heap.size D' ∧ D'.size = vs.length * 12 ∧ Pre D' (((vs.take (k + 1)).map (swF b n)).flatMap frC)) := by
          obtain ⟨p1, p2, p3, p4, p5, p6⟩ := HP.out
          have hOs : Off w.heap.size w2 (w2.setCells w.heap.size (k * 12) (frC (swF b n f))) := Off.cells _ _ _ _ (Off.refl _ _) (.inl rfl)
          obtain ⟨D', hDs, zDs, k1, k2⟩ := box_part (frC (swF b n f)) (k * 12) w2 D hD1 p6
          refine ⟨hO1.new hOs (Nat.le_refl _), ?_, D', hDs, by rw [zDs, p4], ?_⟩
          · rw [p5, ← Nat.add_assoc]
            have e3 : cF b n f = cK b n f.c + cV b n f.d := rfl
            rw [Nat.add_assoc c, e3, ← Nat.add_assoc, ← Nat.add_assoc]
            exact hRw.off hOs (by omega)
          · rw [take_snoc p3, List.flatMap_append]
            exact pre_snoc p2 p1 (by simpa using k1) (by simpa using k2)
        clear hO1 hRw hD1 bF qF qD fD
        go_wp2
        go_roundw
        case rel =>
          obtain ⟨f1, f2, D', f3, f4, f5⟩ := hFin.out
          exact ⟨k + 1, by omega, rfl, f1, f2, D', f3, f4, f5⟩
        case measure => simp [intOf]; omega
    · obtain rfl : k = vs.length := by omega
      have gk : ¬ (vs.length : Int) < (vs.length : Int) := by omega
      rw [List.take_length] at hR pD
      have hgd := hD.lt
      have hrow := pre_row hD pD
      have HE : Hid (Off S w wr ∧ Brm wr S b n (c + cFs b n vs) ∧ (w.heap.size ≤ w.heap.size ∧ w.heap.size < wr.heap.size) ∧ RowAt wr (some ⟨w.heap.size, 0, none⟩) ((vs.map (swF b n)).flatMap frC)) := ⟨hO, hR, ⟨Nat.le_refl _, hgd⟩, hrow⟩
      clear hO hR hD zD pD hrow
      go_wp2
      go_ret
      exact ⟨_, rfl, HE.out⟩
end Go.Proofs.Ythijebhhbflclaa
