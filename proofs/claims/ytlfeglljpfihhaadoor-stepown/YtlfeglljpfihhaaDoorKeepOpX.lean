/- custodiankeep.opOf: the instruction that a machine does next. -/
import Derived.Test.YtlfeglljpfihhaaDoorRows
import Derived.Test.YtlfeglljpfihhaaDoorCardBaseX
import Derived.Test.YtlfeglljpfihhaaDoorInstShapeX
import Derived.Test.YtlfeglljpfihhaaDoorStepRowX
import Derived.Test.YtlfeglljpfihhaaDoorMemPureX
import Derived.Test.YtlfeglljpfihhaaDoorStepChkX
import Derived.Test.YtlfeglljpfihhaaDoorStepOffX
import Derived.Test.YtlfeglljpfihhaaDoorStepOwnedX
import Derived.Test.YtlfeglljpfihhaaDoorStepFetchX
import Derived.Test.YtlfeglljpfihhaaDoorStepStepX
import Derived.Test.YtlfeglljpfihhaaDoorRangeWX
import Derived.WalkKit
import Derived.ProofKit
import Derived.Deep.MidRow
namespace Go.Proofs.YtlfeglljpfihhaaDoor
open Go.ChangeShapes Go.WideShapes Go.ChangeAt Go.RowKit
set_option linter.unusedSimpArgs false
set_option linter.unusedVariables false
set_option maxRecDepth 100000

def opI (x : MC) : ID := if 0 ≤ x.k.a ∧ x.k.a < x.m.length ∧ (cellAt x).i = false ∧ (insAt x).e = 0 then insAt x else ⟨-1, 0, 0, 0, 0⟩
theorem opI_fet {x : MC} (hG : Good x) (h : fetI x = 0) : opI x = insAt x := by
  obtain ⟨h1, h2, h3, h4, _, h6, h7⟩ := fet_at hG.m h
  have h0 := (ok5_lit hG.k).2.2.2.2.2.1
  unfold opI
  have he : (insAt x).e = 0 := by
    have e : fetI x = (insAt x).e := by
      unfold fetI
      rw [if_pos h1, if_pos h2, if_pos ⟨h3, h4⟩, if_neg (by rw [h6]; decide)]
    rw [← e]
    exact h
  rw [if_pos ⟨h0, h4, h6, he⟩]
set_option maxHeartbeats 4000000 in
theorem keep_op (x : MC) (q : MA) (w : World) (hA : McAt w x q) (hO : McB x) (hS : Shp w) (hl : x.m.length ≤ maxLen) :
    Calls Tryd.prog 12 #[.agg (mcC x q).toArray] w fun e w' => e = .returned (.agg #[.int .i64 (opI x).o, .int .i64 (opI x).a, .int .i64 (opI x).b, .int .i64 (opI x).c]) ∧ Below w.heap.size w w' := by
  have hl2 : (x.m.length : Int) ≤ 9223372036854775807 := by unfold maxLen at hl; omega
  obtain ⟨-, zM, -, c0, c1, c2, c3, c4, c5, c6, c7⟩ := mc_cells x q hO.r8
  have ha := hO.k.2.2.2.1
  have bM : Box ((w.alloc (.cells (mcC x q).toArray 31)).alloc (.cells #[.int .i64 0, .int .i64 0, .int .i64 0, .int .i64 0] 38)) w.heap.size (mcC x q).toArray := (Box.new _ _ _).alloc _
  generalize hM : (mcC x q).toArray = M at *
  have q1 := (Box.new w M 31).cell
  clear hM
  obtain ⟨E, hE⟩ : ∃ E, opI x = E := ⟨_, rfl⟩
  rw [hE]
  have HE : Hid (opI x = E) := hE
  have HA : Hid (∀ w', Below w.heap.size w w' → McAt w' x q) := fun w' hb => hA.below hb
  have HS : Hid (∀ w', Below w.heap.size w w' → Shp w') := fun w' hb => hS.below hb
  have hB1 := two (w := w) (.cells M 31) (.cells #[.int .i64 0, .int .i64 0, .int .i64 0, .int .i64 0] 38)
  clear hE zM
  by_cases h1 : 0 ≤ x.k.a
  · by_cases h2 : x.k.a < x.m.length
    · obtain ⟨n, hn⟩ := Int.eq_ofNat_of_zero_le h1
      have hv : x.m[n]? = some (cellAt x) := by
        unfold cellAt
        rw [hn, Int.toNat_natCast, List.getD_eq_getElem?_getD, List.getElem?_eq_getElem (by omega)]
        rfl
      obtain ⟨V, off, e1, hBl, d0, d1, d2, d3, d4, d5, d6⟩ := (hA.m.below hB1).at hv
      have hmb : mvOk (cellAt x) := hO.m _ (List.mem_of_getElem? hv)
      rw [e1] at c5
      rw [hn] at c3
      have g0 : (0 : Int) ≤ (n : Int) := by omega
      have g1 : (n : Int) < (x.m.length : Int) := by omega
      by_cases h3 : (cellAt x).i = true
      · have e : E = ⟨-1, 0, 0, 0, 0⟩ := by rw [← HE.out]; unfold opI; rw [if_neg (fun h => by rw [h3] at h; cases h.2.2.1)]
        subst e
        rw [h3] at d0
        clear hA hv hn h1 h2 e1 HE bM
        go_enter Tryd.func12, Tryd.ntmps12
        go_wp2
        refine bodyPost_ret (v := .agg #[.int .i64 (-1), .int .i64 0, .int .i64 0, .int .i64 0]) (by simp [results, Tryd.results12, go_sem]) rfl ⟨rfl, ?_⟩
        exact two _ _
      · have h3' : (cellAt x).i = false := by simpa using h3
        rw [h3'] at d0
        have cR := fun w hS => inst_read (cellAt x).n w hS hmb.1 (insAt x) rfl
        by_cases h4 : (insAt x).e = 0
        · have e : E = insAt x := by rw [← HE.out]; unfold opI; rw [if_pos ⟨h1, h2, h3', h4⟩]
          subst e
          rw [h4] at cR
          clear hA hv hn h1 h2 e1 HE
          generalize insAt x = U at *
          go_enter Tryd.func12, Tryd.ntmps12
          go_wp2_with (go_at_call 32; refine (cR _ (HS.out _ hB1)).mono ?_; rintro e w1 ⟨rfl, hbb⟩; have bR := (Box.new1 w (.cells M 31) #[.int .i64 0, .int .i64 0, .int .i64 0, .int .i64 0] 38).below hbb; have qR := bR.cell; have fR := bR.free; have hB2 := Below.step0 hB1 hbb; have hlt := bR.lt; clear hbb cR)
          have bR5 : Box (((((w1.setCell ⟨w.heap.size + 1, 0, none⟩ (.int .i64 U.o)).setCell ⟨w.heap.size + 1, 1, none⟩ (.int .i64 U.a)).setCell ⟨w.heap.size + 1, 2, none⟩ (.int .i64 U.b)).setCell ⟨w.heap.size + 1, 3, none⟩ (.int .i64 U.c)).alloc (.cells #[.int .i64 U.o, .int .i64 U.a, .int .i64 U.b, .int .i64 U.c] 38)) (w.heap.size + 1) [Value.int .i64 U.o, .int .i64 U.a, .int .i64 U.b, .int .i64 U.c].toArray := ((((Box.setL' (L := [.int .i64 0, .int .i64 0, .int .i64 0, .int .i64 0]) (j := 0) bR (by simp)).setL' (j := 1) (by simp)).setL' (j := 2) (by simp)).setL' (j := 3) (by simp)).alloc _
          have hld := run_loadVar_mid (P := Tryd.prog) _ (w.heap.size + 1) 0 38 _ _ (box_range bR5) Tryd.underlying38 rfl (by kernel_rfl)
          refine bodyPost_ret (v := .agg #[.int .i64 U.o, .int .i64 U.a, .int .i64 U.b, .int .i64 U.c]) (by simp [results, Tryd.results12, asAddr, hld]) rfl ⟨rfl, ?_⟩
          exact ((((hB2.setCell (by simp) _).setCell (by simp) _).setCell (by simp) _).setCell (by simp) _).alloc (by have := hB2.size; simp [World.setCell]; omega) _
        · have e : E = ⟨-1, 0, 0, 0, 0⟩ := by rw [← HE.out]; unfold opI; rw [if_neg (fun h => h4 h.2.2.2)]
          subst e
          have g4 : ((insAt x).e == 0) = false := by simpa using h4
          clear hA hv hn h1 h2 e1 HE
          generalize insAt x = U at *
          go_enter Tryd.func12, Tryd.ntmps12
          go_wp2_with (go_at_call 32; refine (cR _ (HS.out _ hB1)).mono ?_; rintro e w1 ⟨rfl, hbb⟩; have bR := (Box.new1 w (.cells M 31) #[.int .i64 0, .int .i64 0, .int .i64 0, .int .i64 0] 38).below hbb; have qR := bR.cell; have fR := bR.free; have hB2 := Below.step0 hB1 hbb; have hlt := bR.lt; clear hbb cR)
          have bR5 : Box (((((w1.setCell ⟨w.heap.size + 1, 0, none⟩ (.int .i64 (-1))).setCell ⟨w.heap.size + 1, 1, none⟩ (.int .i64 0)).setCell ⟨w.heap.size + 1, 2, none⟩ (.int .i64 0)).setCell ⟨w.heap.size + 1, 3, none⟩ (.int .i64 0)).alloc (.cells #[.int .i64 U.o, .int .i64 U.a, .int .i64 U.b, .int .i64 U.c] 38)) (w.heap.size + 1) [Value.int .i64 (-1), .int .i64 0, .int .i64 0, .int .i64 0].toArray := ((((Box.setL' (L := [.int .i64 0, .int .i64 0, .int .i64 0, .int .i64 0]) (j := 0) bR (by simp)).setL' (j := 1) (by simp)).setL' (j := 2) (by simp)).setL' (j := 3) (by simp)).alloc _
          have hld := run_loadVar_mid (P := Tryd.prog) _ (w.heap.size + 1) 0 38 _ _ (box_range bR5) Tryd.underlying38 rfl (by kernel_rfl)
          refine bodyPost_ret (v := .agg #[.int .i64 (-1), .int .i64 0, .int .i64 0, .int .i64 0]) (by simp [results, Tryd.results12, asAddr, hld]) rfl ⟨rfl, ?_⟩
          exact ((((hB2.setCell (by simp) _).setCell (by simp) _).setCell (by simp) _).setCell (by simp) _).alloc (by have := hB2.size; simp [World.setCell]; omega) _
    · have e : E = ⟨-1, 0, 0, 0, 0⟩ := by rw [← HE.out]; unfold opI; rw [if_neg (fun h => h2 h.2.1)]
      subst e
      clear HE hA
      generalize x.k.a = A at *
      generalize x.m.length = Z at *
      go_enter Tryd.func12, Tryd.ntmps12
      go_wp2
      refine bodyPost_ret (v := .agg #[.int .i64 (-1), .int .i64 0, .int .i64 0, .int .i64 0]) (by simp [results, Tryd.results12, go_sem]) rfl ⟨rfl, ?_⟩
      exact two _ _
  · have e : E = ⟨-1, 0, 0, 0, 0⟩ := by rw [← HE.out]; unfold opI; rw [if_neg (fun h => h1 h.1)]
    subst e
    clear HE hA
    generalize x.k.a = A at *
    go_enter Tryd.func12, Tryd.ntmps12
    go_wp2
    refine bodyPost_ret (v := .agg #[.int .i64 (-1), .int .i64 0, .int .i64 0, .int .i64 0]) (by simp [results, Tryd.results12, go_sem]) rfl ⟨rfl, ?_⟩
    exact two _ _
end Go.Proofs.YtlfeglljpfihhaaDoor
