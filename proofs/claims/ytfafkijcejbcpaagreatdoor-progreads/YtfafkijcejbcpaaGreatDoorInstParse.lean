/- package inst: take, guess and Parse, in one def each: what chapter 6 says of Parse; they turn nothing that was in memory. -/
import Derived.Test.YtfafkijcejbcpaaGreatDoorRows
import Derived.Test.YtfafkijcejbcpaaGreatDoorKeyPure
import Derived.Test.YtfafkijcejbcpaaGreatDoorShelf
import Derived.Test.YtfafkijcejbcpaaGreatDoorInstShape
import Derived.Test.YtfafkijcejbcpaaGreatDoorInstLaid
import Derived.Test.YtfafkijcejbcpaaGreatDoorInstDev
import Derived.Test.YtfafkijcejbcpaaGreatDoorTextPure
import Derived.Test.YtfafkijcejbcpaaGreatDoorParsePure
import Derived.Test.YtfafkijcejbcpaaGreatDoorBoxSet
import Derived.Test.YtfafkijcejbcpaaGreatDoorInstText
import Derived.Test.YtfafkijcejbcpaaGreatDoorInstOp
import Derived.Test.YtfafkijcejbcpaaGreatDoorInstCut
import Derived.WalkKit
import Derived.ProofKit
namespace Go.Proofs.YtfafkijcejbcpaaGreatDoor
open Go.ChangeShapes Go.WideShapes Go.ChangeAt Go.RowKit
set_option linter.unusedSimpArgs false

theorem cut_len (l : List UInt8) : (cutL l).1.length ≤ l.length ∧ (cutL l).2.length ≤ l.length := by
  rcases ix_cut l with ⟨_, b, _⟩ | ⟨i, _, _, c, d, _⟩
  · rw [b]; simp
  · rw [c, d]; simp; omega
theorem trim_len (l p : List UInt8) : (Lib.trimPrefix l p).length ≤ l.length := by
  unfold Lib.trimPrefix
  split
  · simp
  · exact Nat.le_refl _
theorem take_len (k : Int) (l : List UInt8) : (takeL k l).2.length ≤ l.length := by
  unfold takeL
  split
  · exact Nat.le_refl _
  · exact (cut_len l).2
theorem inst_take (k : Int) (l : List UInt8) (w : World) (hE : Er w) (hl : l.length ≤ 140737488351232) :
    Calls Tryz.prog 91 #[.int .i64 k, .string (bL l)] w fun e w' => e = .returned (.tuple #[.int .i64 (takeL k l).1, .string (bL (takeL k l).2)]) ∧ Below w.heap.size w w' := by
  have hc := cut_len l
  unfold takeL
  by_cases h0 : k = 0
  · subst h0
    rw [if_pos rfl]
    generalize bL l = S at *
    go_enter Tryz.func91, Tryz.ntmps91
    go_wp2
    go_ret2
    exact ⟨rfl, Below.refl _ _⟩
  · have g0 : (k == 0) = false := by simpa using h0
    rw [if_neg h0]
    have cC := inst_cut l w hl
    by_cases h1 : k = 1
    · subst h1
      rw [if_pos rfl]
      have cT := fun w => inst_trim (cutL l).1 w
      have cA := fun w hE => inst_atoi (Lib.trimPrefix (cutL l).1 [114]) w hE (by have := trim_len (cutL l).1 [114]; omega)
      generalize numP (Lib.trimPrefix (cutL l).1 [114]) = N at *
      generalize bL (Lib.trimPrefix (cutL l).1 [114]) = S3 at *
      generalize bL (cutL l).1 = S1 at *
      generalize bL (cutL l).2 = S2 at *
      generalize bL l = S at *
      clear hc hl
      go_enter Tryz.func91, Tryz.ntmps91
      go_wp2_with (first | (go_at_call 89; refine cC.mono ?_; rintro e w1 ⟨rfl, hB1⟩) | (go_at_call 34; refine (cT _).mono ?_; rintro e w' ⟨rfl, rfl⟩) | (go_at_call 75; refine (cA _ (hE.below hB1)).mono ?_; rintro e w2 ⟨⟨E, hE1, rfl⟩, hbb⟩; clear hE1; have hB := Below.step0 hB1 hbb; clear hbb))
      go_ret2
      exact ⟨rfl, hB⟩
    · have g1 : (k == 1) = false := by simpa using h1
      rw [if_neg h1]
      have cA := fun w hE => inst_atoi (cutL l).1 w hE (by omega)
      generalize numP (cutL l).1 = N at *
      generalize bL (cutL l).1 = S1 at *
      generalize bL (cutL l).2 = S2 at *
      generalize bL l = S at *
      clear hc hl
      go_enter Tryz.func91, Tryz.ntmps91
      go_wp2_with (first | (go_at_call 89; refine cC.mono ?_; rintro e w1 ⟨rfl, hB1⟩) | (go_at_call 75; refine (cA _ (hE.below hB1)).mono ?_; rintro e w2 ⟨⟨E, hE1, rfl⟩, hbb⟩; clear hE1; have hB := Below.step0 hB1 hbb; clear hbb))
      go_ret2
      exact ⟨rfl, hB⟩
/- guess -/
set_option maxHeartbeats 4000000 in
set_option maxRecDepth 100000 in
theorem inst_guess (l : List UInt8) (w : World) (hS : Shp w) (hE : Er w) (hl : l.length ≤ 140737488351232) :
    Calls Tryz.prog 78 #[.string (bL l)] w fun e w' => e = .returned (.agg #[.int .i64 (guessL l).o, .int .i64 (guessL l).a, .int .i64 (guessL l).b, .int .i64 (guessL l).c]) ∧ Below w.heap.size w w' := by
  have hc := cut_len l
  have b0 := Below.one w (.cells #[.int .i64 0, .int .i64 0, .int .i64 0, .int .i64 0] 43)
  have B0 := Box.new w #[.int .i64 0, .int .i64 0, .int .i64 0, .int .i64 0] 43
  have cC := fun w => inst_cut l w hl
  have cO := fun w hS => inst_opof (cutL l).1 w hS
  unfold guessL
  by_cases hn : opL (cutL l).1 < 23
  · rw [if_pos hn]
    obtain ⟨n, hN⟩ : ∃ n, opL (cutL l).1 = n := ⟨_, rfl⟩
    rw [hN] at hn cO ⊢
    have hl1 := take_len (shA n) (cutL l).2
    have hl2 := take_len (shB n) (takeL (shA n) (cutL l).2).2
    have T1 := fun w hE => inst_take (shA n) (cutL l).2 w hE (by omega)
    have T2 := fun w hE => inst_take (shB n) (takeL (shA n) (cutL l).2).2 w hE (by omega)
    have T3 := fun w hE => inst_take (shC n) (takeL (shB n) (takeL (shA n) (cutL l).2).2).2 w hE (by omega)
    clear hN hl1 hl2 hl hc
    dsimp only
    generalize (takeL (shC n) (takeL (shB n) (takeL (shA n) (cutL l).2).2).2).1 = A3 at *
    generalize bL (takeL (shC n) (takeL (shB n) (takeL (shA n) (cutL l).2).2).2).2 = S3 at *
    generalize (takeL (shB n) (takeL (shA n) (cutL l).2).2).1 = A2 at *
    generalize bL (takeL (shB n) (takeL (shA n) (cutL l).2).2).2 = S2 at *
    generalize (takeL (shA n) (cutL l).2).1 = A1 at *
    generalize bL (takeL (shA n) (cutL l).2).2 = S1 at *
    generalize bL (cutL l).1 = SW at *
    generalize bL (cutL l).2 = S0 at *
    generalize bL l = S at *
    have hnI : (n : Int) < 23 := by omega
    have hnJ : ¬ (22 : Int) < (n : Int) := by omega
    go_enter Tryz.func78, Tryz.ntmps78
    go_wp2_with (first | (go_at_call 89; refine (cC _).mono ?_; clear cC; rintro e w1 ⟨rfl, hbb⟩; have B1 := B0.below hbb; have b1 := Below.step0 b0 hbb; clear hbb) | (go_at_call 90; refine (cO _ (hS.below b1)).mono ?_; clear cO; rintro e w2 ⟨rfl, hbb⟩; have B2 := B1.below hbb; have b2 := Below.step0 b1 hbb; clear hbb; obtain ⟨c0, c1, c2, c3⟩ := (hS.below (b2.alloc b2.size (.cells #[.int .i64 (n : Int), .int .i64 0, .int .i64 0, .int .i64 0] 43))).row n hn; have hlt := B2.lt; have G0 := (b2.alloc b2.size (.cells #[.int .i64 (n : Int), .int .i64 0, .int .i64 0, .int .i64 0] 43)).alloc (by have := b2.size; simp <;> omega) (.cells #[.string (bL (shW n)), .int .i64 (shA n), .int .i64 (shB n), .int .i64 (shC n)] 92); have P0 := (B2.alloc (.cells #[.int .i64 (n : Int), .int .i64 0, .int .i64 0, .int .i64 0] 43)).alloc (.cells #[.string (bL (shW n)), .int .i64 (shA n), .int .i64 (shB n), .int .i64 (shC n)] 92); have Q0 := (Box.new w2 #[.int .i64 (n : Int), .int .i64 0, .int .i64 0, .int .i64 0] 43).alloc (.cells #[.string (bL (shW n)), .int .i64 (shA n), .int .i64 (shB n), .int .i64 (shC n)] 92); have R0 := Box.new1 w2 (.cells #[.int .i64 (n : Int), .int .i64 0, .int .i64 0, .int .i64 0] 43) #[.string (bL (shW n)), .int .i64 (shA n), .int .i64 (shB n), .int .i64 (shC n)] 92; have qI0 := Q0.cell; have fI0 := Q0.free; have qR0 := R0.cell) | (go_at_call 91; first | (refine (T1 _ (hE.below G0)).mono ?_; clear T1; rintro e w4 ⟨rfl, hbb⟩; have P1 := P0.below hbb; have Q1 := Q0.below hbb; have R1 := R0.below hbb; have G1 := Below.step0 G0 hbb; clear hbb; have qI1 := Q1.cell; have fI1 := Q1.free; have P1' : Box (w4.setCell ⟨w2.heap.size, 1, none⟩ (.int .i64 A1)) w.heap.size #[.int .i64 0, .int .i64 0, .int .i64 0, .int .i64 0] := P1.setOther (by omega); have Q1' : Box (w4.setCell ⟨w2.heap.size, 1, none⟩ (.int .i64 A1)) w2.heap.size #[.int .i64 (n : Int), .int .i64 A1, .int .i64 0, .int .i64 0] := Q1.set 1 _ (by simp); have R1' : Box (w4.setCell ⟨w2.heap.size, 1, none⟩ (.int .i64 A1)) (w2.heap.size + 1) #[.string (bL (shW n)), .int .i64 (shA n), .int .i64 (shB n), .int .i64 (shC n)] := R1.setOther (by omega); have G1' : Below w.heap.size w (w4.setCell ⟨w2.heap.size, 1, none⟩ (.int .i64 A1)) := G1.setCell (by simp <;> omega) _; have qI1' := Q1'.cell; have qR1' := R1'.cell; have qP1' := P1'.cell; have fP1' := P1'.free) | (refine (T2 _ (hE.below G1')).mono ?_; clear T2; rintro e w5 ⟨rfl, hbb⟩; have P2 := P1'.below hbb; have Q2 := Q1'.below hbb; have R2 := R1'.below hbb; have G2 := Below.step0 G1' hbb; clear hbb; have qI2 := Q2.cell; have fI2 := Q2.free; have P2' : Box (w5.setCell ⟨w2.heap.size, 2, none⟩ (.int .i64 A2)) w.heap.size #[.int .i64 0, .int .i64 0, .int .i64 0, .int .i64 0] := P2.setOther (by omega); have Q2' : Box (w5.setCell ⟨w2.heap.size, 2, none⟩ (.int .i64 A2)) w2.heap.size #[.int .i64 (n : Int), .int .i64 A1, .int .i64 A2, .int .i64 0] := Q2.set 2 _ (by simp); have R2' : Box (w5.setCell ⟨w2.heap.size, 2, none⟩ (.int .i64 A2)) (w2.heap.size + 1) #[.string (bL (shW n)), .int .i64 (shA n), .int .i64 (shB n), .int .i64 (shC n)] := R2.setOther (by omega); have G2' : Below w.heap.size w (w5.setCell ⟨w2.heap.size, 2, none⟩ (.int .i64 A2)) := G2.setCell (by simp <;> omega) _; have qI2' := Q2'.cell; have qR2' := R2'.cell; have qP2' := P2'.cell; have fP2' := P2'.free) | (refine (T3 _ (hE.below G2')).mono ?_; clear T3; rintro e w6 ⟨rfl, hbb⟩; have P3 := P2'.below hbb; have Q3 := Q2'.below hbb; have R3 := R2'.below hbb; have G3 := Below.step0 G2' hbb; clear hbb; have qI3 := Q3.cell; have fI3 := Q3.free; have P3' : Box (w6.setCell ⟨w2.heap.size, 3, none⟩ (.int .i64 A3)) w.heap.size #[.int .i64 0, .int .i64 0, .int .i64 0, .int .i64 0] := P3.setOther (by omega); have Q3' : Box (w6.setCell ⟨w2.heap.size, 3, none⟩ (.int .i64 A3)) w2.heap.size #[.int .i64 (n : Int), .int .i64 A1, .int .i64 A2, .int .i64 A3] := Q3.set 3 _ (by simp); have R3' : Box (w6.setCell ⟨w2.heap.size, 3, none⟩ (.int .i64 A3)) (w2.heap.size + 1) #[.string (bL (shW n)), .int .i64 (shA n), .int .i64 (shB n), .int .i64 (shC n)] := R3.setOther (by omega); have G3' : Below w.heap.size w (w6.setCell ⟨w2.heap.size, 3, none⟩ (.int .i64 A3)) := G3.setCell (by simp <;> omega) _; have qI3' := Q3'.cell; have qR3' := R3'.cell; have qP3' := P3'.cell; have fP3' := P3'.free)))
    refine bodyPost_ret (v := .agg #[.int .i64 (n : Int), .int .i64 A1, .int .i64 A2, .int .i64 A3]) (by simp [results, Tryz.results78, go_sem, qP3']) rfl ⟨rfl, ?_⟩
    exact (((G3'.setCell (by simp) _).setCell (by simp) _).setCell (by simp) _).setCell (by simp) _
  · rw [if_neg hn]
    have h23 : opL (cutL l).1 = 23 := by
      have := List.findIdx_le_length (p := fun r : List UInt8 × Int × Int × Int => decide (r.1 = (cutL l).1)) (xs := shL)
      have z : shL.length = 23 := rfl
      unfold opL at hn ⊢
      omega
    replace cO : ∀ w, Shp w → Calls Tryz.prog 90 #[.string (bL (cutL l).1)] w fun e w' => e = .returned (.int .i64 23) ∧ Below w.heap.size w w' := fun w hS => by
      have h := cO w hS
      rw [h23] at h
      exact h
    clear hn h23 hl hc
    generalize bL (cutL l).1 = SW at *
    generalize bL (cutL l).2 = S0 at *
    generalize bL l = S at *
    go_enter Tryz.func78, Tryz.ntmps78
    go_wp2_with (first | (go_at_call 89; refine (cC _).mono ?_; clear cC; rintro e w1 ⟨rfl, hbb⟩; have B1 := B0.below hbb; have b1 := Below.step0 b0 hbb; clear hbb) | (go_at_call 90; refine (cO _ (hS.below b1)).mono ?_; clear cO; rintro e w2 ⟨rfl, hbb⟩; have B2 := B1.below hbb; have b2 := Below.step0 b1 hbb; clear hbb; have hlt := B2.lt; have q2 := B2.cell; have f2 := B2.free; have hne : ¬ w.heap.size = w2.heap.size := by omega))
    have BF : Box (((((w2.setCell ⟨w.heap.size, 0, none⟩ (.int .i64 23)).setCell ⟨w.heap.size, 1, none⟩ (.int .i64 0)).setCell ⟨w.heap.size, 2, none⟩ (.int .i64 0)).setCell ⟨w.heap.size, 3, none⟩ (.int .i64 0)).alloc (.cells #[.int .i64 23, .int .i64 0, .int .i64 0, .int .i64 0] 43)) w.heap.size #[.int .i64 23, .int .i64 0, .int .i64 0, .int .i64 0] := ((((B2.set 0 _ (by simp)).set 1 _ (by simp)).set 2 _ (by simp)).set 3 _ (by simp)).alloc _
    have qF := BF.cell
    refine bodyPost_ret (v := .agg #[.int .i64 23, .int .i64 0, .int .i64 0, .int .i64 0]) (by simp [results, Tryz.results78, go_sem, qF]) rfl ⟨rfl, ?_⟩
    exact ((((b2.setCell (by simp) _).setCell (by simp) _).setCell (by simp) _).setCell (by simp) _).alloc (by have := b2.size; simpa [World.setCell] using this) _
end Go.Proofs.YtfafkijcejbcpaaGreatDoor
