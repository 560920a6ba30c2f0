/- Chapter 7: each number is told as a line, and that line is read as it; so is its line with 'word'; what is no number is told as an error: for every number; nothing that was in memory is turned. -/
import Derived.Test.YtekoonpdhadnmabGreatDoorRows
import Derived.Test.YtekoonpdhadnmabGreatDoorCards
import Derived.Test.YtekoonpdhadnmabGreatDoorTie
import Derived.Test.YtekoonpdhadnmabGreatDoorCardBase
import Derived.Test.YtekoonpdhadnmabGreatDoorInstShape
import Derived.Test.YtekoonpdhadnmabGreatDoorInstLaid
import Derived.Test.YtekoonpdhadnmabGreatDoorKeyPure
import Derived.Test.YtekoonpdhadnmabGreatDoorTextPure
import Derived.Test.YtekoonpdhadnmabGreatDoorDig2
import Derived.Test.YtekoonpdhadnmabGreatDoorIntsArg
import Derived.Test.YtekoonpdhadnmabGreatDoorProgPure
import Derived.Test.YtekoonpdhadnmabGreatDoorProgText
import Derived.Test.YtekoonpdhadnmabGreatDoorProgRead
import Derived.Test.YtekoonpdhadnmabGreatDoorProgFacts
import Derived.Test.YtekoonpdhadnmabGreatDoorEqInt
import Derived.WalkKit
import Derived.ProofKit
import Derived.OpenShut
import Derived.Deep.DeepHandedRow
import Derived.Deep.DeepWitnessRowRef
import Derived.Lay
import Derived.MakeChecks
import Derived.SizedLaws
import Derived.Lib.LaidTab
namespace Go.Proofs.YtekoonpdhadnmabGreatDoor.progNumbers
open Go.ChangeShapes Go.WideShapes Go.ChangeAt Go.RowKit
set_option linter.unusedVariables false
set_option linter.unusedSimpArgs false

theorem own : ownKnob Tryz.prog.godebug = none := by kernel_rfl

theorem one_at (w : World) (x : Int) : IntsAt (w.alloc (.cells #[.int .i64 x] 3)) (some ⟨w.heap.size, 0, none⟩) [x] := .inr ⟨w.heap.size, 0, rfl, by simp, fun i hi => by
    rcases i with _ | i
    · exact (Box.new w #[.int .i64 x] 3).cell 0
    · simp at hi⟩
theorem one_at2 (w : World) (x : Int) : IntsAt ((w.alloc (.cells #[.int .i64 x] 3)).alloc (.cells #[.int .i64 x] 3)) (some ⟨w.heap.size + 1, 0, none⟩) [x] := by
  have h := one_at (w.alloc (.cells #[.int .i64 x] 3)) x
  rwa [World.size_alloc] at h
set_option maxHeartbeats 4000000 in
set_option maxRecDepth 1000000 in
theorem walk (a0 : Int) (b0 : -9223372036854775808 ≤ a0 ∧ a0 ≤ 9223372036854775807) (w : World)  (hS : Shp w) (m : Int) (hM : w.cell? ⟨1, 0, none⟩ = some (.int .i64 m)) (zM : 1 < w.heap.size) (hP : Pw w) (hE : Er w) :
    Calls Tryz.prog 3 #[.int .i64 a0] w fun e w' => e = .returned (.bool true) ∧ Below w.heap.size w w' := by
  have b1 := Below.one w (.cells #[.int .i64 a0] 3)
  have cX := prog_text (some ⟨w.heap.size, 0, none⟩) 1 [a0] (w.alloc (.cells #[.int .i64 a0] 3)) (hS.below b1) (hP.below b1) (by intro x hx; simp only [List.mem_cons, List.not_mem_nil, or_false] at hx; subst hx; exact b0) (one_at w a0) (by unfold maxLen; simp)
  have HB0 : Hid (Below w.heap.size w (w.alloc (.cells #[.int .i64 a0] 3))) := b1
  clear b1
  simp only [List.length_singleton] at cX
  by_cases hn : -2147483648 ≤ a0 ∧ a0 ≤ 2147483647
  · have hR1 := read_text [a0] (by intro x hx; simp only [List.mem_cons, List.not_mem_nil, or_false] at hx; subst hx; exact hn) (by simp) (by simp)
    have hR2 := read_word (n := a0) hn
    have hx : textS [a0] = ⟨jn 10 ([a0].map lineN), 0⟩ := by
      unfold textS
      rw [if_neg (by simp), if_pos (by simpa using hn)]
    rw [hx] at cX
    have zl : (jn 10 ([a0].map lineN)).length ≤ 80 := line_len a0 b0
    have zw : (wd ++ Lib.itoa a0).length ≤ 80 := by have := itoa_len a0 b0; simp [wd]; omega
    have zi : (bL (Lib.itoa a0)).size ≤ 21 := by rw [bL_size]; exact itoa_len a0 b0
    have cR := fun w hS hP hE m hM zM => prog_read (jn 10 ([a0].map lineN)) w hS hP hE m hM zM (by omega)
    have cW := fun w hS hP hE m hM zM => prog_read (wd ++ Lib.itoa a0) w hS hP hE m hM zM (by omega)
    rw [hR1] at cR
    rw [hR2] at cW
    have cD := fun w => ref_dig a0 w (by omega)
    have eW : (⟨#[119, 111, 114, 100, 32]⟩ : ByteArray) ++ bL (Lib.itoa a0) = bL (wd ++ Lib.itoa a0) := bL_add wd (Lib.itoa a0)
    have cE := fun w p c q hA hB => ref_eq p q c 1 [a0] [a0] w hA hB (by unfold maxLen; simp) (by unfold maxLen; simp)
    rw [decide_eq_true (rfl : [a0] = [a0])] at cE
    simp only [List.length_singleton] at cE
    obtain ⟨T, hT⟩ : ∃ T, bL (jn 10 ([a0].map lineN)) = T := ⟨_, rfl⟩
    obtain ⟨D, hD⟩ : ∃ D, bL (Lib.itoa a0) = D := ⟨_, rfl⟩
    obtain ⟨U, hU⟩ : ∃ U, bL (wd ++ Lib.itoa a0) = U := ⟨_, rfl⟩
    rw [hT] at cX cR
    rw [hD] at cD eW zi
    rw [hU] at eW cW
    clear hT hD hU hR1 hR2 hx zl zw
    have MM : ∀ w', Below w.heap.size w w' → w'.cell? ⟨1, 0, none⟩ = some (.int .i64 m) ∧ 1 < w'.heap.size := fun w' hb => ⟨by rw [hb.cell (p := ⟨1, 0, none⟩) zM]; exact hM, Nat.lt_of_lt_of_le zM hb.size⟩
    have HM : Hid (∀ w', Below w.heap.size w w' → w'.cell? ⟨1, 0, none⟩ = some (.int .i64 m) ∧ 1 < w'.heap.size) := MM
    clear MM hM
    go_enter Tryz.func3, Tryz.ntmps3
    go_wp2_with (first | (go_at_call 4; refine cX.mono ?_; rintro e w1 ⟨rfl, hbb⟩; have hB1 := Below.step0 HB0.out hbb; clear hbb cX) | (go_at_call 6; refine (cD _).mono ?_; rintro e w4 ⟨rfl, hbb⟩; have hB4 := Below.step0 hB3 hbb; have A4 := A3.below hbb; clear hbb cD) | (go_at_call 5; first | (refine (cR _ (hS.below hB1) (hP.below hB1) (hE.below hB1) m (HM.out _ hB1).1 (HM.out _ hB1).2).mono ?_; rintro e w3 ⟨V1, V2, rfl, o1, o2, hbb⟩; have hB3 := Below.step0 hB1 hbb; obtain ⟨a1, c1, rfl, A3⟩ := own_ints rfl o1; clear hbb cR o1 o2) | (refine (cW _ (hS.below hB4) (hP.below hB4) (hE.below hB4) m (HM.out _ hB4).1 (HM.out _ hB4).2).mono ?_; rintro e w5 ⟨V3, V4, rfl, o1, o2, hbb⟩; have hB5 := (Below.step0 hB4 hbb).alloc (Below.step0 hB4 hbb).size (.cells #[.int .i64 a0] 3); have A5 := (A4.below hbb).below (Below.one w5 (.cells #[.int .i64 a0] 3)); obtain ⟨a2, c2, rfl, A6⟩ := own_ints rfl o1; have A7 := A6.below ((Below.one w5 (.cells #[.int .i64 a0] 3)).alloc (Below.one w5 (.cells #[.int .i64 a0] 3)).size (.cells #[.int .i64 a0] 3)); have A8 : IntsAt ((w5.alloc (.cells #[.int .i64 a0] 3)).alloc (.cells #[.int .i64 a0] 3)) (some ⟨w5.heap.size + 1, 0, none⟩) [a0] := one_at2 w5 a0; clear hbb cW o1 o2 A6)) | (go_at_call 7; first | (refine (cE _ _ _ _ A5 (one_at _ _)).mono ?_; rintro e w' ⟨rfl, hw⟩; replace hw := hw.symm; subst hw; clear A5) | (refine (cE _ _ _ _ A7 A8).mono ?_; rintro e w' ⟨rfl, hw⟩; replace hw := hw.symm; subst hw)))
    go_ret
    exact ⟨rfl, hB5.alloc hB5.size _⟩
  · have hx : textS [a0] = ⟨[], 1⟩ := by
      unfold textS
      rw [if_neg (by simp), if_neg (by simpa using hn)]
    rw [hx] at cX
    have cX' : Calls Tryz.prog 4 #[.slice (some ⟨w.heap.size, 0, none⟩) 1 1] (w.alloc (.cells #[.int .i64 a0] 3)) fun e w' => e = .returned (.tuple #[.string ⟨#[]⟩, .int .i64 1]) ∧ Below (w.alloc (.cells #[.int .i64 a0] 3)).heap.size (w.alloc (.cells #[.int .i64 a0] 3)) w' := cX
    clear cX hx
    by_cases h1 : a0 < -2147483648
    · go_enter Tryz.func3, Tryz.ntmps3
      go_wp2_with (go_at_call 4; refine cX'.mono ?_; rintro e w1 ⟨rfl, hbb⟩; have hB1 := Below.step0 HB0.out hbb; clear hbb cX')
      go_ret
      exact ⟨rfl, hB1⟩
    · have h2 : 2147483647 < a0 := by omega
      have h3 : ¬ a0 < -2147483648 := by omega
      go_enter Tryz.func3, Tryz.ntmps3
      go_wp2_with (go_at_call 4; refine cX'.mono ?_; rintro e w1 ⟨rfl, hbb⟩; have hB1 := Below.step0 HB0.out hbb; clear hbb cX')
      go_ret
      exact ⟨rfl, hB1⟩

set_option maxRecDepth 1000000 in
theorem contract (H : Type) (enc : TypeId × Value → H) (W : World) (base : Nat) (args : Array Value) (ds gs : List (DataW H)) (before : List MemPlace)
    (hval : ∀ (j : Nat) t v, Tryz.f3.params[j]? = some t → args[j]? = some v → Value.okWide Tryz.prog W .any base t v)
    (hW : DataW.Whole enc Tryz.prog Tryz.f3.params.toList Rows.progNumbersSpec.vars false W args.toList ds gs before) (hsh : W.ShapedOpen Tryz.prog) (hz : (DataW.weightsEach Tryz.prog (Tryz.f3.params.toList ++ (OpenSpec.ofChange Rows.progNumbersSpec).bare.plain.varTypes Tryz.prog) (ds ++ gs)).all (· ≤ reachBytes) = true) (hL : laidMet Tryz.prog Rows.progNumbersRow.laid W) :
    Calls Tryz.prog 3 args W fun e W' => ∃ v, e = .returned v ∧ Rows.progNumbersSpec.post enc Tryz.prog Tryz.f3 false true false false W args v W' := by
  have hW' := hW
  obtain ⟨p, q, hA0, hV, rfl, hfz, hnd⟩ := hW
  have hA : DataW.TrodAll enc Tryz.prog W 0 (fun _ => true) true Tryz.f3.params.toList args.toList ds p := hA0
  rw [Tryz.params3] at hA hval
  obtain ⟨v0, vs0, d0, ds0, p0, q0, hargs, rfl, rfl, h0, r0⟩ := trodAll_cons hA
  obtain ⟨rfl, rfl, rfl⟩ := trodAll_nil r0
  obtain rfl : args = #[v0] := by cases args; simp_all
  obtain ⟨rfl, rfl⟩ := trodVars_none hV
  obtain ⟨a0, rfl, rfl, rfl, w0⟩ := open_int Tryz.underlying3 (hval 0 3 v0 rfl rfl) h0
  clear hA0
  obtain ⟨m, hM⟩ : ∃ m, W.cell? ⟨1, 0, none⟩ = some (.int .i64 m) := maxLen_cell W hsh
  have zM : 1 < W.heap.size := by
    rcases Nat.lt_or_ge 1 W.heap.size with h | h
    · exact h
    · rw [World.cell?] at hM; simp [Array.getElem?_eq_none h] at hM
  refine (walk a0 (bounds_i64 w0) W  (shp_of_laid hL (.tail _ (.tail _ (.tail _ (.tail _ (.tail _ (.tail _ (.head _)))))))) m hM zM (pw_of_laid hL (.tail _ (.tail _ (.head _)))) (er_of_laid hL (.tail _ (.tail _ (.tail _ (.tail _ (.tail _ (.head _)))))) (.tail _ (.tail _ (.tail _ (.tail _ (.head _))))))).mono fun e W' ⟨he, bel⟩ => ?_
  subst he
  exact ⟨_, rfl, _, _, _, [], [], [], hW', trodAll_mk1 (shut_bool Tryz.underlying4 _), (trodAll_cons_mk (shut_int Tryz.underlying3 w0) trodAll_mk0), rfl, bel.frame _, fun h => by cases h⟩

theorem reads (os : Os) {H : Type} (enc : TypeId × Value → H) : ∃ places, DataW.whole enc Tryz.prog ((World.laidAll Tryz.prog os Rows.progNumbersRow.laid).forCall (fun _ _ => 0) ⟨#[], #[.int .i64 0], []⟩).memory Tryz.f3.params.toList Rows.progNumbersSpec.vars false (#[.int .i64 0] : Array Value).toList 8 = some ([.lit (.int .i64 0)], [], places) :=
  ⟨[], by kernel_rfl⟩
theorem laid_met (os : Os) : laidMet Tryz.prog Rows.progNumbersRow.laid ((World.laidAll Tryz.prog os Rows.progNumbersRow.laid).forCall (fun _ _ => 0) ⟨#[], #[.int .i64 0], []⟩).memory :=
  laidMet_laidAll _ (by kernel_rfl) (by kernel_rfl)

set_option maxRecDepth 100000 in
theorem lifted (os : Os) (started : os.Started) (H : Type) (enc : TypeId × Value → H) (F : Stop.Interp) :
    ReturnsInHanded {} Tryz.checked os 3 .any ((OpenSpec.ofChange Rows.progNumbersSpec).preRow enc Tryz.prog Tryz.f3 Rows.progNumbersRow.domain false Rows.progNumbersRow.laid) (((OpenSpec.ofChange Rows.progNumbersSpec).at F).post enc Tryz.prog Tryz.f3 false true false false) := by
  obtain ⟨places, hx⟩ := reads os enc
  refine returnsInHanded_of_row (C := Tryz.checked) (s := OpenSpec.ofChange Rows.progNumbersSpec) own started (by kernel_rfl) Tryz.func3
    (witness_row_atRef (enc := enc) (C := Tryz.checked) false (World.laidAll Tryz.prog os Rows.progNumbersRow.laid) #[.int .i64 0] (World.laidAll_os _ _ _) (by kernel_rfl) (by kernel_rfl) (by kernel_rfl)
      (OpenSpec.preRow_of_cond 8 hx (by kernel_rfl) (fun k hk => by cases hk) (by kernel_rfl) (laid_met os))) ?_
  intro W base args ds gs before hval hW _ hcond hz hL hsh _
  exact contract H enc W base args ds gs before hval hW hsh hz hL

theorem said : Rows.ProgNumbersSaid :=
  OpenClaim.holds_of_cond 3 Tryz.f3 rfl rfl rfl rfl rfl rfl rfl ⟨rfl, rfl, rfl, rfl, rfl⟩ rfl rfl rfl rfl rfl (by kernel_rfl) Tryz.func3 (by kernel_rfl)
    (of_decide_eq_true (by kernel_rfl)) (by unfold Func.isWrapper; first | (rw [if_pos (by decide +kernel)]; kernel_rfl) | (rw [if_neg (by decide +kernel)]; exact ⟨rfl, rfl⟩))
    (fun os started H enc _ F => by rw [OpenClaim.pre_eq_preRow]; exact lifted os started H enc F)
theorem plain (f : FuncId) (fn : Func) (hf : Tryz.pinned.checked.prog.funcNamed Rows.progNumbersRow.func = some f) (hfn : Tryz.pinned.checked.prog.funcs[f]? = some fn) :
    true = Tryz.pinned.checked.prog.looks [] ∧ ∀ (j : Nat) t, fn.params[j]? = some t → Tryz.pinned.checked.prog.wantsStandIn t = false := by
  obtain rfl : f = 3 := Option.some.inj ((show Tryz.prog.funcNamed Rows.progNumbersRow.func = some 3 by kernel_rfl).symm.trans hf) |>.symm
  obtain rfl : fn = Tryz.f3 := (Option.some.inj (Tryz.func3.symm.trans hfn)).symm
  refine ⟨by kernel_rfl, fun j t ht => ?_⟩
  rw [Tryz.params3] at ht
  have hm : t ∈ [3] := by simpa using Array.mem_of_getElem? ht
  have hall : ([3].all fun u => !Tryz.prog.wantsStandIn u) = true := by kernel_rfl
  exact (show Tryz.prog.wantsStandIn t = false by simpa using List.all_eq_true.1 hall t hm)
theorem proved : Rows.ProgNumbersCardSaid :=
  Claim7.holds_tied_plain_at .later [] _ _ _ _ said (fun _ h => by cases h) (by kernel_rfl) (fun _ h => by cases h) progNumbers_row_tie rfl ⟨rfl, rfl⟩ (by kernel_rfl) rfl plain (by kernel_rfl)
#print axioms proved
end Go.Proofs.YtekoonpdhadnmabGreatDoor.progNumbers
