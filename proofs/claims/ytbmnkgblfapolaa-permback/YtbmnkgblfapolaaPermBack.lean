/- For whatever int and whatever text, the law PermBack returns true: what is allowed is read as it was told, and what is read is told so; no condition. -/
import Derived.Test.YtbmnkgblfapolaaRows
import Derived.Test.YtbmnkgblfapolaaNum
import Derived.Test.YtbmnkgblfapolaaBits
import Derived.Test.YtbmnkgblfapolaaPermPure
import Derived.Test.YtbmnkgblfapolaaPerm
import Derived.WalkKit
import Derived.ProofKit
import Derived.OpenShut
import Derived.ShutString
namespace Go.Proofs.Ytbmnkgblfapolaa.permBack
open Go.ChangeShapes Go.WideShapes Go.ChangeAt Go.RowKit
open Go.ChangeMaps (open_string shut_string)
set_option linter.unusedVariables false      -- a walk need not use every 'w<i>' (that an integer argument fits its kind)

theorem own : ownKnob Try.prog.godebug = none := by kernel_rfl

theorem back_facts (q : Int) (h : 0 ≤ q ∧ q ≤ 127) : readN (permB q) = q ∧ readE (permB q) = 0 ∧ (permB q).toList.isEmpty = false := by
  obtain ⟨n, rfl⟩ := Int.eq_ofNat_of_zero_le h.1
  have hn : n < 128 := by omega
  have e : (permB (n : Int)).data.toList = permL (n : Int) := by unfold permB; rw [if_pos h]
  have hf : findP (permB (n : Int)).data.toList = some n := findP_some _ n hn e.symm
  refine ⟨by unfold readN; rw [hf]; rfl, by unfold readE; rw [hf]; rfl, ?_⟩
  cases h0 : ((n : Int) == 0)
  · rw [← permB_in _ h h0]; exact told_ne _ h.1 h.2 h0
  · obtain e0 : (n : Int) = 0 := by simpa using h0
    rw [e0, permB_zero, ByteArray.toList_eq]; rfl
theorem read_facts (s : ByteArray) : (readE s = 0 ∧ permE (readN s) = 0 ∧ ((permB (readN s)).toList == s.toList) = true) ∨ (readE s = 3 ∧ readN s = 0) := by
  cases hf : findP s.data.toList with
  | none => exact .inr ⟨by unfold readE; rw [hf]; rfl, by unfold readN; rw [hf]; rfl⟩
  | some p =>
    obtain ⟨hp, hl⟩ := findP_told _ _ hf
    have e1 : readN s = p := by unfold readN; rw [hf]; rfl
    refine .inl ⟨by unfold readE; rw [hf]; rfl, ?_, ?_⟩
    · rw [e1]; exact permE_in _ (by omega)
    · rw [e1, permB_list p hp, hl, ByteArray.toList_eq]; simp

/-! ### STEP 1: THE WALK: the Go text returns true. 'Grown w w'': the world has at most new blocks (Derived/RowKit3.lean). Part the cases AHEAD of 'go_enter' where a test parts the walk; take each callee by a contract of your own. -/
set_option maxHeartbeats 4000000 in
set_option maxRecDepth 1000000 in
theorem walk (a0 : Int) (a1 : ByteArray) (w0 : (Lit.int .i64 a0).wf = true) (w1 : a1.size ≤ maxLen) (w : World) :
    Calls Try.prog 5 #[.int .i64 a0, .string a1] w fun e w' => e = .returned (.bool true) ∧ Grown w w' := by
  have b0 := bounds_i64 w0
  obtain ⟨q, hq⟩ : ∃ q, a0 % 128 = q := ⟨_, rfl⟩
  have q1 : 0 ≤ q := by omega
  have q2 : q ≤ 127 := by omega
  obtain ⟨f1, f2, f3⟩ := back_facts q ⟨q1, q2⟩
  have f4 := permE_in q ⟨q1, q2⟩
  rcases read_facts a1 with ⟨r1, r2, r3⟩ | ⟨r1, r2⟩
  · go_enter Try.func5, Try.ntmps5
    go_wp2_with (first | (go_at_call 13; refine (ref_rest _ _ _ b0 (by omega)).mono ?_; rintro e w' ⟨rfl, hw⟩; have hw := hw.symm; subst hw) | (go_at_call 7; refine (perm_text _ _).mono ?_; rintro e w1 ⟨rfl, g1⟩) | (go_at_call 9; refine (perm_read _ _).mono ?_; rintro e w3 ⟨rfl, g3⟩))
    go_ret
    refine ⟨rfl, ?_⟩
    repeat (first | assumption | (refine grown_trans ?_ ‹_›))
  · go_enter Try.func5, Try.ntmps5
    go_wp2_with (first | (go_at_call 13; refine (ref_rest _ _ _ b0 (by omega)).mono ?_; rintro e w' ⟨rfl, hw⟩; have hw := hw.symm; subst hw) | (go_at_call 7; refine (perm_text _ _).mono ?_; rintro e w1 ⟨rfl, g1⟩) | (go_at_call 9; refine (perm_read _ _).mono ?_; rintro e w3 ⟨rfl, g3⟩))
    go_ret
    refine ⟨rfl, ?_⟩
    repeat (first | assumption | (refine grown_trans ?_ ‹_›))

/-! ### THE ROW's STEP: WRITTEN OUT: LEAVE IT -/
set_option maxRecDepth 100000 in
theorem lifted (os : Os) (started : os.Started) (H : Type) (enc : TypeId × Value → H) :
    ReturnsInHanded {} Try.checked os 5 .any (Rows.permBackSpec.pre6 enc Try.prog Try.f5 Rows.permBackRow.domain false) (Rows.permBackSpec.post enc Try.prog Try.f5 false true false false) := by
  refine returnsInHanded_of_change (C := Try.checked) own started (by kernel_rfl) Try.func5
    (ChangeSpec.witness6 (enc := enc) (C := Try.checked) false ⟨#[], #[.int .i64 0, .string ByteArray.empty], []⟩ 8 (by kernel_rfl) (by kernel_rfl) (by kernel_rfl) (by kernel_rfl)) ?_
  intro W base args ds gs before hval0 hW hcnd _
  have hval : ∀ (j : Nat) t v, Try.f5.params[j]? = some t → args[j]? = some v → Value.okWide Try.prog W .any base t v := hval0
  have hW' := hW
  obtain ⟨p, q, hA0, hV, rfl, hfz, hnd⟩ := hW
  have hA : DataW.TrodAll enc Try.prog W 0 (fun _ => true) true Try.f5.params.toList args.toList ds p := hA0
  rw [Try.params5] at hA hval
  obtain ⟨v0, vs0, d0, ds0, p0, q0, hargs, rfl, rfl, h0, r0⟩ := trodAll_cons hA
  obtain ⟨v1, vs1, d1, ds1, p1, q1, rfl, rfl, rfl, h1, r1⟩ := trodAll_cons r0
  obtain ⟨rfl, rfl, rfl⟩ := trodAll_nil r1
  obtain rfl : args = #[v0, v1] := by cases args; simp_all
  obtain ⟨rfl, rfl⟩ := trodVars_none hV
  obtain ⟨a0, rfl, rfl, rfl, w0⟩ := open_int Try.underlying3 (hval 0 3 v0 rfl rfl) h0
  obtain ⟨a1, rfl, rfl, rfl, w1⟩ := open_string Try.underlying9 (hval 1 9 v1 rfl rfl) h1
  clear hA0 hval0
  simp only [List.append_nil] at hW'
  refine (walk a0 a1 w0 w1 W).mono fun e W' ⟨he, hg⟩ => ?_
  subst he
  exact ⟨_, rfl, post_of_same (pa := []) (pv := []) hW' (fun _ _ _ => (trodAll_cons_mk (shut_bool Try.underlying4 _) trodAll_mk0)) (fun sp _ => (trodAll_cons_mk (shut_int Try.underlying3 w0) (trodAll_cons_mk (shut_string Try.underlying9 w1) trodAll_mk0))) (fun _ _ => rfl) rfl
    (hg.frame _) hg.2.1 (ok_one (by kernel_rfl) rfl (okWide_bool_mk Try.underlying4 _))⟩

theorem over : Rows.permBackRow.holds Try.pinned (OpenSpec.ofChange Rows.permBackSpec) :=
  OpenClaim.holds_of_wide 5 Try.f5 rfl rfl rfl rfl rfl rfl rfl ⟨rfl, rfl, rfl, rfl, rfl⟩ rfl rfl rfl rfl rfl (by kernel_rfl) Try.func5 (by kernel_rfl)
    (of_decide_eq_true (by kernel_rfl)) (by unfold Func.isWrapper; first | (rw [if_pos (by decide +kernel)]; kernel_rfl) | (rw [if_neg (by decide +kernel)]; exact ⟨rfl, rfl⟩))
    (fun os started H enc _ => lifted os started H enc)

/-- ████ THE STATEMENT ████ -/
theorem proved : Rows.PermBackSaid :=
  over
#print axioms proved
end Go.Proofs.Ytbmnkgblfapolaa.permBack
