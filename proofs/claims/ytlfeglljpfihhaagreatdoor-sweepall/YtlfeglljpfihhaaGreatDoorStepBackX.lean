/- package step: back. -/
import Derived.Test.YtlfeglljpfihhaaGreatDoorRows
import Derived.Test.YtlfeglljpfihhaaGreatDoorCardBaseX
import Derived.Test.YtlfeglljpfihhaaGreatDoorValArgX
import Derived.Test.YtlfeglljpfihhaaGreatDoorMemPureX
import Derived.Test.YtlfeglljpfihhaaGreatDoorStepRowX
import Derived.Test.YtlfeglljpfihhaaGreatDoorStepOffX
import Derived.Test.YtlfeglljpfihhaaGreatDoorStepOwnedX
import Derived.Test.YtlfeglljpfihhaaGreatDoorStepMidX
import Derived.Test.YtlfeglljpfihhaaGreatDoorStepMid2X
import Derived.WalkKit
import Derived.ProofKit
import Derived.OpenShut
import Derived.WalkLawsBesides
namespace Go.Proofs.YtlfeglljpfihhaaGreatDoor
open Go.ChangeShapes Go.WideShapes Go.ChangeAt Go.RowKit
set_option linter.unusedSimpArgs false
set_option linter.unusedVariables false
set_option maxRecDepth 100000

section
variable {w : World} {S bb : Nat} {x : MC} {q : MA} {i : ID} {n : K5} {k : Nat} {v : MV}
def backM (x : MC) (f : FR) (fs : List FR) : MC := ⟨x.r.set 7 f.d, x.k, x.m, fs, x.o⟩
theorem step_back_no (h : St w S bb x q i n) (hs : x.s = []) :
    Calls Tryz.prog 93 #[.pointer (some ⟨S, 0, none⟩)] w fun r w' => r = thrown .h ∧ w' = w := by
  have hls := h.cells.ls
  rw [hs] at hls
  clear h
  go_enter Tryz.func93, Tryz.ntmps93
  go_wp2
  exact ⟨rfl, rfl, rfl⟩
theorem row_pre {w : World} {a : Option Addr} {cs ds : List Value} (h : RowAt w a (cs ++ ds)) : RowAt w a cs := by
  rcases h with h | ⟨B, off, e, hB, hc⟩
  · exact .inl (List.append_eq_nil_iff.1 h).1
  · exact .inr ⟨B, off, e, hB, fun j u hj => hc j u (by rw [List.getElem?_append_left (List.getElem?_eq_some_iff.1 hj).1]; exact hj)⟩
set_option maxHeartbeats 2000000 in
theorem step_back_yes (h : St w S bb x q i n) (fs : List FR) (f : FR) (hs : x.s = fs ++ [f]) (hl : fs.length < 16) (hf : q.cs = x.s.length) :
    Calls Tryz.prog 93 #[.pointer (some ⟨S, 0, none⟩)] w fun r w' => r = .returned (.tuple #[]) ∧ Off S w w' ∧ ∃ q', St w' S bb (backM x f fs) q' i f.c := by
  have hls := h.cells.ls
  have e1 : x.s.length = fs.length + 1 := by rw [hs]; simp
  rw [hf, e1] at hls
  obtain ⟨v, hv⟩ := h.reg? (k := 7) (by omega)
  obtain ⟨c0, c1, c2, c3, c4, c5, c6⟩ := h.reg hv
  obtain ⟨-, -, -, -, -, -, -, -, -, -, -, -, n0, n1, n2, n3, n4⟩ := h.cells
  have fz := h.box.free
  have hff : x.s[fs.length]? = some f := by rw [hs]; simp
  obtain ⟨B, off, hq, hBl, d0, d1, d2, d3, d4, d5, d6, d7, d8, d9, d10, d11⟩ := FrsAt.at h.at_.s hff
  have hBS : ¬ B = S := fun e => (h.far.s ⟨B, off, none⟩ hq).1 e
  have hSB : ¬ S = B := fun e => hBS e.symm
  rw [hq] at hls
  obtain ⟨a1, a2⟩ := h.setN f.c
  obtain ⟨b1, b2⟩ := a1.put (k := 7) (by omega) f.d
  simp only [Nat.reduceMul, Nat.reduceAdd] at b1 b2 c0 c1 c2 c3 c4 c5 c6
  have HB : Hid (St _ S bb (putR x 7 f.d) q i f.c ∧ Off S w _) := ⟨b1.drew, (a2.trans b2).drew⟩
  have HR : Hid (∀ W, St W S bb (putR x 7 f.d) q i f.c → RowAt W (some ⟨B, off, none⟩) (fs.flatMap frC)) := fun W hW => by
    have : RowAt W q.s (x.s.flatMap frC) := hW.at_.s
    rw [hs, List.flatMap_append, hq] at this
    exact row_pre this
  have cF := fun w hA => fresh_frames (some ⟨B, off, none⟩) (fs.length + 1) fs w hA (by omega)
  have g1 : (fs.length : Int) + 1 - 1 = (fs.length : Int) := by omega
  have g2 : ¬ (fs.length : Int) < 0 := by omega
  have g3 : (fs.length : Int) < (fs.length : Int) + 1 := by omega
  clear a1 a2 b1 b2 hv hff h e1 hf
  go_enter Tryz.func93, Tryz.ntmps93
  go_wp2
  go_region
  all_goals go_wp2_with (go_at_call 47; refine (cF _ (HR.out _ HB.out.1)).mono ?_; rintro e w1 ⟨g, rfl, hbb, hg, hrow⟩; have hst := HB.out.1.below hbb; have hO := HB.out.2.below hbb; have c62 := hst.cells.ls; have f62 := hst.box.free 62; have hFar : Far S bb (some ⟨g, 0, none⟩) := Far.of_le (B := g) (fun y hy => by cases hy; exact Nat.le_refl _) (by have := HB.out.1.box.lt; omega) (by have := HB.out.1.lb; omega); have HF : Hid (St w1 S bb (putR x 7 f.d) q i f.c ∧ Off S w w1 ∧ RowAt w1 (some ⟨g, 0, none⟩) (fs.flatMap frC) ∧ Far S bb (some ⟨g, 0, none⟩)) := ⟨hst, hO, hrow, hFar⟩; clear hst hO hrow hFar hbb cF HB HR d0 d1 d2 d3 d4 d5 d6 d7 d8 d9 d10 d11 c0 c1 c2 c3 c4 c5 c6 n0 n1 n2 n3 n4 fz)
  go_end0
  obtain ⟨s1, s2, s3, s4⟩ := HF.out
  obtain ⟨p1, p2⟩ := s1.setS fs (some ⟨g, 0, none⟩) fs.length s3 s4
  exact ⟨rfl, s2.trans p2, _, p1⟩
end
end Go.Proofs.YtlfeglljpfihhaaGreatDoor
