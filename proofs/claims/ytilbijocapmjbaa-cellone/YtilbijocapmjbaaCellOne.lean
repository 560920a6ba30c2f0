/- For whatever two values, the law CellOne returns true: two values have one text just if they are the same; no condition. -/
import Derived.Test.YtilbijocapmjbaaRows
import Derived.Test.YtilbijocapmjbaaKeyArg
import Derived.Test.YtilbijocapmjbaaValArg
import Derived.Test.YtilbijocapmjbaaBits
import Derived.Test.YtilbijocapmjbaaKeyPure
import Derived.Test.YtilbijocapmjbaaCellPure
import Derived.Test.YtilbijocapmjbaaCellChk
import Derived.Test.YtilbijocapmjbaaCellPack
import Derived.WalkKit
import Derived.ProofKit
import Derived.OpenShut
namespace Go.Proofs.Ytilbijocapmjbaa.cellOne
open Go.ChangeShapes Go.WideShapes Go.ChangeAt Go.RowKit
set_option linter.unusedVariables false

theorem own : ownKnob Try.prog.godebug = none := by kernel_rfl

theorem pack_inj {i : Bool} {n p b l a s : Int} {i' : Bool} {n' p' b' l' a' s' : Int} (h : chkV i n p b l a s = 0) (h' : chkV i' n' p' b' l' a' s' = 0) (e : packB i n p b l a s = packB i' n' p' b' l' a' s') :
    sameB i n p b l a s i' n' p' b' l' a' s' = true := by
  have h1 := read_pack i n p b l a s h
  rw [e, read_pack i' n' p' b' l' a' s' h'] at h1
  injection h1 with e1 e2 e3 e4 e5 e6 e7 e8
  subst e1 e2 e3 e4 e5 e6 e7
  exact same_refl _ _ _ _ _ _ _
theorem pack_size {i : Bool} {n p b l a s : Int} (h : chkV i n p b l a s = 0) : (packB i n p b l a s).size = 10 := by
  unfold packB
  rw [pack_yes h]
  show (fullL i n p b l a s).toArray.size = 10
  rw [List.size_toArray, full_len]
theorem str_same {a b : ByteArray} (h : a = b) : (a.toList == b.toList) = true := by rw [h]; simp
theorem str_other {a b : ByteArray} (h : ¬ a = b) : (a.toList == b.toList) = false := by
  rw [ByteArray.toList_eq, ByteArray.toList_eq]
  rw [beq_eq_false_iff_ne]
  intro e
  apply h
  obtain ⟨⟨x⟩⟩ := a
  obtain ⟨⟨y⟩⟩ := b
  have : x = y := e
  rw [this]
theorem pack_nil {i : Bool} {n p b l a s : Int} (h : ¬ chkV i n p b l a s = 0) : packB i n p b l a s = ⟨#[]⟩ := by unfold packB; rw [pack_no h]

set_option maxHeartbeats 4000000 in
set_option maxRecDepth 1000000 in
theorem walk (a0i : Bool) (a0n a0p a0b a0l a0a a0s : Int) (a1i : Bool) (a1n a1p a1b a1l a1a a1s : Int) (V0 : vb a0n a0p a0b a0l a0a a0s) (V1 : vb a1n a1p a1b a1l a1a a1s) (w : World) :
    Calls Try.prog 8 #[.agg #[.bool a0i, .int .i64 a0n, .int .i64 a0p, .int .i64 a0b, .int .i64 a0l, .int .i64 a0a, .int .i64 a0s], .agg #[.bool a1i, .int .i64 a1n, .int .i64 a1p, .int .i64 a1b, .int .i64 a1l, .int .i64 a1a, .int .i64 a1s]] w fun e w' => e = .returned (.bool true) ∧ Below w.heap.size w w' := by
  by_cases h0 : chkV a0i a0n a0p a0b a0l a0a a0s = 0
  · by_cases h1 : chkV a1i a1n a1p a1b a1l a1a a1s = 0
    · have s0 := pack_size h0
      by_cases he : packB a0i a0n a0p a0b a0l a0a a0s = packB a1i a1n a1p a1b a1l a1a a1s
      · have hs := pack_inj h0 h1 he
        have ht := str_same he
        clear he
        go_enter Try.func8, Try.ntmps8
        go_wp2_with (first | (go_at_call 9; refine (cell_pack _ _ _ _ _ _ _ _ (by first | exact V0 | exact V1)).mono ?_; simp only [h0, h1]; rintro e w1 ⟨rfl, hbb⟩; first | (replace B2 := (B2.alloc _).below hbb; replace B1 := (B1.alloc _).below hbb; have B3 := (Box.new _ _ _).below hbb; clear q1 z1 q2 z2; have q1 := B1.cell; have z1 := B1.lt; have q2 := B2.cell; have z2 := B2.lt; have q3 := B3.cell; have z3 := B3.lt; replace hB := Below.step0 (hB.alloc hB.size _) hbb; clear hbb) | (replace B2 := B2.below hbb; replace B1 := B1.below hbb; clear q1 z1 q2 z2; have q1 := B1.cell; have z1 := B1.lt; have q2 := B2.cell; have z2 := B2.lt; replace hB := Below.step0 hB hbb; clear hbb) | (have B1 := ((Box.new _ _ _).alloc _).below hbb; have B2 := (Box.new1 _ _ _ _).below hbb; have q1 := B1.cell; have z1 := B1.lt; have q2 := B2.cell; have z2 := B2.lt; have hB := Below.step0 (two _ _) hbb; clear hbb)) | (go_at_call 13; refine (cell_same _ _ _ _ _ _ _ _ _ _ _ _ _ _ _).mono ?_; simp only [hs]; rintro e w1 ⟨rfl, hbb⟩; first | (replace B2 := (B2.alloc _).below hbb; replace B1 := (B1.alloc _).below hbb; have B3 := (Box.new _ _ _).below hbb; clear q1 z1 q2 z2; have q1 := B1.cell; have z1 := B1.lt; have q2 := B2.cell; have z2 := B2.lt; have q3 := B3.cell; have z3 := B3.lt; replace hB := Below.step0 (hB.alloc hB.size _) hbb; clear hbb) | (replace B2 := B2.below hbb; replace B1 := B1.below hbb; clear q1 z1 q2 z2; have q1 := B1.cell; have z1 := B1.lt; have q2 := B2.cell; have z2 := B2.lt; replace hB := Below.step0 hB hbb; clear hbb) | (have B1 := ((Box.new _ _ _).alloc _).below hbb; have B2 := (Box.new1 _ _ _ _).below hbb; have q1 := B1.cell; have z1 := B1.lt; have q2 := B2.cell; have z2 := B2.lt; have hB := Below.step0 (two _ _) hbb; clear hbb)))
        go_ret
        exact ⟨rfl, hB⟩
      · have hs : sameB a0i a0n a0p a0b a0l a0a a0s a1i a1n a1p a1b a1l a1a a1s = false := by
          cases hx : sameB a0i a0n a0p a0b a0l a0a a0s a1i a1n a1p a1b a1l a1a a1s
          · rfl
          · obtain ⟨rfl, rfl, rfl, rfl, rfl, rfl, rfl⟩ := (same_iff _ _ _ _ _ _ _ _ _ _ _ _ _ _).1 hx
            exact absurd rfl he
        have ht := str_other he
        clear he
        go_enter Try.func8, Try.ntmps8
        go_wp2_with (first | (go_at_call 9; refine (cell_pack _ _ _ _ _ _ _ _ (by first | exact V0 | exact V1)).mono ?_; simp only [h0, h1]; rintro e w1 ⟨rfl, hbb⟩; first | (replace B2 := (B2.alloc _).below hbb; replace B1 := (B1.alloc _).below hbb; have B3 := (Box.new _ _ _).below hbb; clear q1 z1 q2 z2; have q1 := B1.cell; have z1 := B1.lt; have q2 := B2.cell; have z2 := B2.lt; have q3 := B3.cell; have z3 := B3.lt; replace hB := Below.step0 (hB.alloc hB.size _) hbb; clear hbb) | (replace B2 := B2.below hbb; replace B1 := B1.below hbb; clear q1 z1 q2 z2; have q1 := B1.cell; have z1 := B1.lt; have q2 := B2.cell; have z2 := B2.lt; replace hB := Below.step0 hB hbb; clear hbb) | (have B1 := ((Box.new _ _ _).alloc _).below hbb; have B2 := (Box.new1 _ _ _ _).below hbb; have q1 := B1.cell; have z1 := B1.lt; have q2 := B2.cell; have z2 := B2.lt; have hB := Below.step0 (two _ _) hbb; clear hbb)) | (go_at_call 13; refine (cell_same _ _ _ _ _ _ _ _ _ _ _ _ _ _ _).mono ?_; simp only [hs]; rintro e w1 ⟨rfl, hbb⟩; first | (replace B2 := (B2.alloc _).below hbb; replace B1 := (B1.alloc _).below hbb; have B3 := (Box.new _ _ _).below hbb; clear q1 z1 q2 z2; have q1 := B1.cell; have z1 := B1.lt; have q2 := B2.cell; have z2 := B2.lt; have q3 := B3.cell; have z3 := B3.lt; replace hB := Below.step0 (hB.alloc hB.size _) hbb; clear hbb) | (replace B2 := B2.below hbb; replace B1 := B1.below hbb; clear q1 z1 q2 z2; have q1 := B1.cell; have z1 := B1.lt; have q2 := B2.cell; have z2 := B2.lt; replace hB := Below.step0 hB hbb; clear hbb) | (have B1 := ((Box.new _ _ _).alloc _).below hbb; have B2 := (Box.new1 _ _ _ _).below hbb; have q1 := B1.cell; have z1 := B1.lt; have q2 := B2.cell; have z2 := B2.lt; have hB := Below.step0 (two _ _) hbb; clear hbb)))
        go_ret
        exact ⟨rfl, hB⟩
    · have hp := pack_nil h1
      have h1' : (chkV a1i a1n a1p a1b a1l a1a a1s == 0) = false := by simpa using h1
      clear h1
      go_enter Try.func8, Try.ntmps8
      go_wp2_with (go_at_call 9; refine (cell_pack _ _ _ _ _ _ _ _ (by first | exact V0 | exact V1)).mono ?_; simp only [h0, hp]; rintro e w1 ⟨rfl, hbb⟩; first | (replace B2 := (B2.alloc _).below hbb; replace B1 := (B1.alloc _).below hbb; have B3 := (Box.new _ _ _).below hbb; clear q1 z1 q2 z2; have q1 := B1.cell; have z1 := B1.lt; have q2 := B2.cell; have z2 := B2.lt; have q3 := B3.cell; have z3 := B3.lt; replace hB := Below.step0 (hB.alloc hB.size _) hbb; clear hbb) | (replace B2 := B2.below hbb; replace B1 := B1.below hbb; clear q1 z1 q2 z2; have q1 := B1.cell; have z1 := B1.lt; have q2 := B2.cell; have z2 := B2.lt; replace hB := Below.step0 hB hbb; clear hbb) | (have B1 := ((Box.new _ _ _).alloc _).below hbb; have B2 := (Box.new1 _ _ _ _).below hbb; have q1 := B1.cell; have z1 := B1.lt; have q2 := B2.cell; have z2 := B2.lt; have hB := Below.step0 (two _ _) hbb; clear hbb))
      all_goals go_ret
      all_goals exact ⟨rfl, hB⟩
  · have hp := pack_nil h0
    have h0' : (chkV a0i a0n a0p a0b a0l a0a a0s == 0) = false := by simpa using h0
    clear h0
    go_enter Try.func8, Try.ntmps8
    go_wp2_with (go_at_call 9; refine (cell_pack _ _ _ _ _ _ _ _ (by first | exact V0 | exact V1)).mono ?_; (try simp only [hp]); rintro e w1 ⟨rfl, hbb⟩; first | (replace B2 := (B2.alloc _).below hbb; replace B1 := (B1.alloc _).below hbb; have B3 := (Box.new _ _ _).below hbb; clear q1 z1 q2 z2; have q1 := B1.cell; have z1 := B1.lt; have q2 := B2.cell; have z2 := B2.lt; have q3 := B3.cell; have z3 := B3.lt; replace hB := Below.step0 (hB.alloc hB.size _) hbb; clear hbb) | (replace B2 := B2.below hbb; replace B1 := B1.below hbb; clear q1 z1 q2 z2; have q1 := B1.cell; have z1 := B1.lt; have q2 := B2.cell; have z2 := B2.lt; replace hB := Below.step0 hB hbb; clear hbb) | (have B1 := ((Box.new _ _ _).alloc _).below hbb; have B2 := (Box.new1 _ _ _ _).below hbb; have q1 := B1.cell; have z1 := B1.lt; have q2 := B2.cell; have z2 := B2.lt; have hB := Below.step0 (two _ _) hbb; clear hbb))
    all_goals go_ret
    all_goals exact ⟨rfl, hB⟩

set_option maxRecDepth 100000 in
theorem lifted (os : Os) (started : os.Started) (H : Type) (enc : TypeId × Value → H) :
    ReturnsInHanded {} Try.checked os 8 .any (Rows.cellOneSpec.pre6 enc Try.prog Try.f8 Rows.cellOneRow.domain false) (Rows.cellOneSpec.post enc Try.prog Try.f8 false true false false) := by
  refine returnsInHanded_of_change (C := Try.checked) own started (by kernel_rfl) Try.func8
    (ChangeSpec.witness6 (enc := enc) (C := Try.checked) false ⟨#[], #[.agg #[.bool false, .int .i64 0, .int .i64 0, .int .i64 0, .int .i64 0, .int .i64 0, .int .i64 0], .agg #[.bool false, .int .i64 0, .int .i64 0, .int .i64 0, .int .i64 0, .int .i64 0, .int .i64 0]], []⟩ 8 (by kernel_rfl) (by kernel_rfl) (by kernel_rfl) (by kernel_rfl)) ?_
  intro W base args ds gs before hval0 hW hcnd _
  have hval : ∀ (j : Nat) t v, Try.f8.params[j]? = some t → args[j]? = some v → Value.okWide Try.prog W .any base t v := hval0
  have hW' := hW
  obtain ⟨p, q, hA0, hV, rfl, hfz, hnd⟩ := hW
  have hA : DataW.TrodAll enc Try.prog W 0 (fun _ => true) true Try.f8.params.toList args.toList ds p := hA0
  rw [Try.params8] at hA hval
  obtain ⟨v0, vs0, d0, ds0, p0, q0, hargs, rfl, rfl, h0, r0⟩ := trodAll_cons hA
  obtain ⟨v1, vs1, d1, ds1, p1, q1, rfl, rfl, rfl, h1, r1⟩ := trodAll_cons r0
  obtain ⟨rfl, rfl, rfl⟩ := trodAll_nil r1
  obtain rfl : args = #[v0, v1] := by cases args; simp_all
  obtain ⟨rfl, rfl⟩ := trodVars_none hV
  obtain ⟨a0i, a0n, a0p, a0b, a0l, a0a, a0s, rfl, rfl, rfl, w0n, w0p, w0b, w0l, w0a, w0s⟩ := open_val (hval 0 25 v0 rfl rfl) h0
  obtain ⟨a1i, a1n, a1p, a1b, a1l, a1a, a1s, rfl, rfl, rfl, w1n, w1p, w1b, w1l, w1a, w1s⟩ := open_val (hval 1 25 v1 rfl rfl) h1
  clear hA0 hval0
  refine (walk a0i a0n a0p a0b a0l a0a a0s a1i a1n a1p a1b a1l a1a a1s ⟨bounds_i64 w0n, bounds_i64 w0p, bounds_i64 w0b, bounds_i64 w0l, bounds_i64 w0a, bounds_i64 w0s⟩ ⟨bounds_i64 w1n, bounds_i64 w1p, bounds_i64 w1b, bounds_i64 w1l, bounds_i64 w1a, bounds_i64 w1s⟩ W).mono fun e W' ⟨he, bel⟩ => ?_
  subst he
  exact ⟨_, rfl, _, _, _, [], [], [], hW', trodAll_mk1 (shut_bool Try.underlying4 _), (trodAll_cons_mk (shut_val w0n w0p w0b w0l w0a w0s) (trodAll_cons_mk (shut_val w1n w1p w1b w1l w1a w1s) trodAll_mk0)), rfl, bel.frame _, fun h => by cases h⟩

theorem over : Rows.cellOneRow.holds Try.pinned (OpenSpec.ofChange Rows.cellOneSpec) :=
  OpenClaim.holds_of_wide 8 Try.f8 rfl rfl rfl rfl rfl rfl rfl ⟨rfl, rfl, rfl, rfl, rfl⟩ rfl rfl rfl rfl rfl (by kernel_rfl) Try.func8 (by kernel_rfl)
    (of_decide_eq_true (by kernel_rfl)) (by unfold Func.isWrapper; first | (rw [if_pos (by decide +kernel)]; kernel_rfl) | (rw [if_neg (by decide +kernel)]; exact ⟨rfl, rfl⟩))
    (fun os started H enc _ => lifted os started H enc)

theorem proved : Rows.CellOneSaid :=
  over
#print axioms proved
end Go.Proofs.Ytilbijocapmjbaa.cellOne
