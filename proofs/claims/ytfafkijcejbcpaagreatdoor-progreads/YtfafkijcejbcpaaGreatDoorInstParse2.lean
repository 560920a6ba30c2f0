/- package inst: Parse, in one def: what chapter 6 says of it; it turns nothing that was in memory. -/
import Derived.Test.YtfafkijcejbcpaaGreatDoorRows
import Derived.Test.YtfafkijcejbcpaaGreatDoorKeyPure
import Derived.Test.YtfafkijcejbcpaaGreatDoorInstShape
import Derived.Test.YtfafkijcejbcpaaGreatDoorInstLaid
import Derived.Test.YtfafkijcejbcpaaGreatDoorInstDev
import Derived.Test.YtfafkijcejbcpaaGreatDoorTextPure
import Derived.Test.YtfafkijcejbcpaaGreatDoorParsePure
import Derived.Test.YtfafkijcejbcpaaGreatDoorInstText
import Derived.Test.YtfafkijcejbcpaaGreatDoorInstOp
import Derived.Test.YtfafkijcejbcpaaGreatDoorInstParse
import Derived.WalkKit
import Derived.ProofKit
namespace Go.Proofs.YtfafkijcejbcpaaGreatDoor
open Go.ChangeShapes Go.WideShapes Go.ChangeAt Go.RowKit
set_option linter.unusedSimpArgs false

/-- P13: Parse. -/
def parseD (l : List UInt8) : ID :=
  if chkD (guessL l).o (guessL l).a (guessL l).b (guessL l).c = 0 ∧ textL (guessL l).o.toNat (guessL l).a (guessL l).b (guessL l).c = l then ⟨(guessL l).o, (guessL l).a, (guessL l).b, (guessL l).c, 0⟩ else ⟨0, 0, 0, 0, 3⟩
set_option maxHeartbeats 4000000 in
set_option maxRecDepth 100000 in
theorem inst_parse (l : List UInt8) (w : World) (hS : Shp w) (hP : Pw w) (hE : Er w) (hl : l.length ≤ 140737488351232) (U : ID) (hU : parseD l = U) :
    Calls Tryz.prog 64 #[.string (bL l)] w fun e w' => e = .returned (.tuple #[.agg #[.int .i64 U.o, .int .i64 U.a, .int .i64 U.b, .int .i64 U.c], .int .i64 U.e]) ∧ Below w.heap.size w w' := by
  subst hU
  have b0 := Below.one w (.cells #[.int .i64 0, .int .i64 0, .int .i64 0, .int .i64 0] 43)
  have B0 := Box.new w #[.int .i64 0, .int .i64 0, .int .i64 0, .int .i64 0] 43
  have cG := fun w hS hE => inst_guess l w hS hE hl
  have cT := fun w hS hP => inst_text (guessL l).o (guessL l).a (guessL l).b (guessL l).c w hS hP
  unfold parseD
  unfold textD at cT
  generalize guessL l = GG at *
  obtain ⟨o, a, b, c⟩ := GG
  dsimp only at cG cT ⊢
  by_cases hc : chkD o a b c = 0
  · rw [if_pos hc, hc] at cT
    by_cases ht : textL o.toNat a b c = l
    · rw [if_pos ⟨hc, ht⟩]
      have e2 := str_same (show bL (textL o.toNat a b c) = bL l by rw [ht])
      generalize bL (textL o.toNat a b c) = T at *
      generalize bL l = S at *
      clear ht hc
      go_enter Tryz.func64, Tryz.ntmps64
      go_wp2_with (first | (go_at_call 78; refine (cG _ (hS.below b0) (hE.below b0)).mono ?_; rintro e w1 ⟨rfl, hbb⟩; have B1 := (B0.below hbb).alloc (.cells #[.int .i64 o, .int .i64 a, .int .i64 b, .int .i64 c] 43); have b1 := (Below.step0 b0 hbb).alloc (Below.step0 b0 hbb).size (.cells #[.int .i64 o, .int .i64 a, .int .i64 b, .int .i64 c] 43); clear hbb) | (go_at_call 79; refine (cT _ (hS.below b1) (hP.below b1)).mono ?_; rintro e w2 ⟨rfl, hbb⟩; have B2 := B1.below hbb; have BI := (Box.new w1 #[.int .i64 o, .int .i64 a, .int .i64 b, .int .i64 c] 43).below hbb; have q2 := B2.cell; have f2 := B2.free; have qI := BI.cell; have b2 := Below.step0 b1 hbb; clear hbb))
      refine bodyPost_ret (v := .tuple #[.agg #[.int .i64 o, .int .i64 a, .int .i64 b, .int .i64 c], .int .i64 0]) (by simp [results, Tryz.results64, go_sem, q2]) rfl ⟨rfl, ?_⟩
      exact (((b2.setCell (by simp) _).setCell (by simp) _).setCell (by simp) _).setCell (by simp) _
    · rw [if_neg (fun h => ht h.2)]
      have e2 := str_differ (fun h : bL (textL o.toNat a b c) = bL l => ht (bL_inj h))
      generalize bL (textL o.toNat a b c) = T at *
      generalize bL l = S at *
      clear ht hc
      go_enter Tryz.func64, Tryz.ntmps64
      go_wp2_with (first | (go_at_call 78; refine (cG _ (hS.below b0) (hE.below b0)).mono ?_; rintro e w1 ⟨rfl, hbb⟩; have B1 := (B0.below hbb).alloc (.cells #[.int .i64 o, .int .i64 a, .int .i64 b, .int .i64 c] 43); have b1 := (Below.step0 b0 hbb).alloc (Below.step0 b0 hbb).size (.cells #[.int .i64 o, .int .i64 a, .int .i64 b, .int .i64 c] 43); clear hbb) | (go_at_call 79; refine (cT _ (hS.below b1) (hP.below b1)).mono ?_; rintro e w2 ⟨rfl, hbb⟩; have B2 := B1.below hbb; have BI := (Box.new w1 #[.int .i64 o, .int .i64 a, .int .i64 b, .int .i64 c] 43).below hbb; have q2 := B2.cell; have f2 := B2.free; have qI := BI.cell; have b2 := Below.step0 b1 hbb; clear hbb))
      refine bodyPost_ret (v := .tuple #[.agg #[.int .i64 0, .int .i64 0, .int .i64 0, .int .i64 0], .int .i64 3]) (by simp [results, Tryz.results64, go_sem, q2]) rfl ⟨rfl, ?_⟩
      exact (((b2.setCell (by simp) _).setCell (by simp) _).setCell (by simp) _).setCell (by simp) _
  · rw [if_neg (fun h => hc h.1)]
    rw [if_neg hc] at cT
    have hc' : (chkD o a b c == 0) = false := by simpa using hc
    generalize chkD o a b c = K at *
    generalize bL [] = T at *
    generalize bL l = S at *
    go_enter Tryz.func64, Tryz.ntmps64
    go_wp2_with (first | (go_at_call 78; refine (cG _ (hS.below b0) (hE.below b0)).mono ?_; rintro e w1 ⟨rfl, hbb⟩; have B1 := (B0.below hbb).alloc (.cells #[.int .i64 o, .int .i64 a, .int .i64 b, .int .i64 c] 43); have b1 := (Below.step0 b0 hbb).alloc (Below.step0 b0 hbb).size (.cells #[.int .i64 o, .int .i64 a, .int .i64 b, .int .i64 c] 43); clear hbb) | (go_at_call 79; refine (cT _ (hS.below b1) (hP.below b1)).mono ?_; rintro e w2 ⟨rfl, hbb⟩; have B2 := B1.below hbb; have BI := (Box.new w1 #[.int .i64 o, .int .i64 a, .int .i64 b, .int .i64 c] 43).below hbb; have q2 := B2.cell; have f2 := B2.free; have qI := BI.cell; have b2 := Below.step0 b1 hbb; clear hbb))
    refine bodyPost_ret (v := .tuple #[.agg #[.int .i64 0, .int .i64 0, .int .i64 0, .int .i64 0], .int .i64 3]) (by simp [results, Tryz.results64, go_sem, q2]) rfl ⟨rfl, ?_⟩
    exact (((b2.setCell (by simp) _).setCell (by simp) _).setCell (by simp) _).setCell (by simp) _
/-- What is told is parsed. -/
theorem parse_text {o a b c : Int} (h : chkD o a b c = 0) : parseD (textL o.toNat a b c) = ⟨o, a, b, c, 0⟩ := by
  obtain ⟨n, rfl⟩ := Int.eq_ofNat_of_zero_le (chkD_ok h).1.1
  have r := chkD_ok h
  have g : guessL (textL (n : Int).toNat a b c) = ⟨n, a, b, c⟩ := guess_text n (by omega) a b c h
  unfold parseD
  rw [g]
  exact if_pos ⟨h, rfl⟩
/-- What is parsed is told so; with an error all is 0. -/
theorem parse_cases (l : List UInt8) : (parseD l = ⟨0, 0, 0, 0, 3⟩ ∧ ∀ o a b c : Int, chkD o a b c = 0 → ¬ textL o.toNat a b c = l) ∨ ((parseD l).e = 0 ∧ chkD (parseD l).o (parseD l).a (parseD l).b (parseD l).c = 0 ∧ textL (parseD l).o.toNat (parseD l).a (parseD l).b (parseD l).c = l) := by
  by_cases h : chkD (guessL l).o (guessL l).a (guessL l).b (guessL l).c = 0 ∧ textL (guessL l).o.toNat (guessL l).a (guessL l).b (guessL l).c = l
  · refine Or.inr ?_
    unfold parseD
    rw [if_pos h]
    exact ⟨rfl, h⟩
  · have e : parseD l = ⟨0, 0, 0, 0, 3⟩ := by unfold parseD; rw [if_neg h]
    refine Or.inl ⟨e, fun o a b c hc ht => ?_⟩
    have := parse_text hc
    rw [ht, e] at this
    cases this
end Go.Proofs.YtfafkijcejbcpaaGreatDoor
