/- Chapter 7: a program's text is read as just its cells: for every list of numbers; nothing that was in memory is turned. -/
import Derived.Test.YtekoonpdhadnmaaGreatDoorRows
import Derived.Test.YtekoonpdhadnmaaGreatDoorCards
import Derived.Test.YtekoonpdhadnmaaGreatDoorTie
import Derived.Test.YtekoonpdhadnmaaGreatDoorCardBase
import Derived.Test.YtekoonpdhadnmaaGreatDoorInstShape
import Derived.Test.YtekoonpdhadnmaaGreatDoorInstLaid
import Derived.Test.YtekoonpdhadnmaaGreatDoorIntsArg
import Derived.Carry
import Derived.Test.YtekoonpdhadnmaaGreatDoorKeyPure
import Derived.Test.YtekoonpdhadnmaaGreatDoorTextPure
import Derived.Test.YtekoonpdhadnmaaGreatDoorProgPure
import Derived.Test.YtekoonpdhadnmaaGreatDoorProgText
import Derived.Test.YtekoonpdhadnmaaGreatDoorProgRead
import Derived.Test.YtekoonpdhadnmaaGreatDoorProgFacts
import Derived.Test.YtekoonpdhadnmaaGreatDoorEqInt
import Derived.WalkKit
import Derived.ProofKit
import Derived.OpenShut
import Derived.Deep.DeepHandedRow
import Derived.Deep.DeepWitnessRowRef
import Derived.Lay
import Derived.MakeChecks
import Derived.SizedLaws
import Derived.Lib.LaidTab
namespace Go.Proofs.YtekoonpdhadnmaaGreatDoor.progBack
open Go.ChangeShapes Go.WideShapes Go.ChangeAt Go.RowKit
set_option linter.unusedVariables false
set_option linter.unusedSimpArgs false

theorem own : ownKnob Tryz.prog.godebug = none := by kernel_rfl
theorem laidOut : laidOutB Tryz.prog = true := by kernel_rfl


set_option maxHeartbeats 4000000 in
set_option maxRecDepth 1000000 in
theorem walk (p0 : Option Addr) (c0 : Nat) (a0 : List Int) (z0 : a0.length ≤ maxLen) (n0 : inB64 a0) (w : World) (A0 : IntsAt w p0 a0) (hS : Shp w) (m : Int) (hM : w.cell? ⟨0, 0, none⟩ = some (.int .i64 m)) (zM : 0 < w.heap.size) (hP : Pw w) (hE : Er w) :
    Calls Tryz.prog 4 #[.slice p0 a0.length c0] w fun e w' => e = .returned (.bool true) ∧ Below w.heap.size w w' := by
  have m0 : (a0.length : Int) ≤ 9223372036854775807 := by unfold maxLen at z0; omega
  have b0 := Below.one w (.cells #[.int .i64 0, .int .i64 (-5)] 3)
  have cX := prog_text (some ⟨w.heap.size, 0, none⟩) 2 [0, -5] (w.alloc (.cells #[.int .i64 0, .int .i64 (-5)] 3)) (hS.below b0) (hP.below b0) (by intro x hx; simp at hx; omega) (.inr ⟨w.heap.size, 0, rfl, by simp, fun i hi => by
    rcases i with _ | _ | i
    · exact (Box.new w #[.int .i64 0, .int .i64 (-5)] 3).cell 0
    · exact (Box.new w #[.int .i64 0, .int .i64 (-5)] 3).cell 1
    · simp at hi; omega⟩) (by unfold maxLen; simp)
  rw [text_ex] at cX
  have cT := fun w hS hP hA => prog_text p0 c0 a0 w hS hP n0 hA z0
  have HB0 : Hid (Below w.heap.size w (w.alloc (.cells #[.int .i64 0, .int .i64 (-5)] 3))) := b0
  clear b0
  obtain ⟨X, hX⟩ : ∃ X, bL [119, 111, 114, 100, 32, 48, 10, 119, 111, 114, 100, 32, 45, 53] = X := ⟨_, rfl⟩
  have eX : (X.toList == [119, 111, 114, 100, 32, 48, 10, 119, 111, 114, 100, 32, 45, 53]) = true := by rw [← hX, ByteArray.toList_eq, bL_list]; exact beq_self_eq_true _
  rw [hX] at cX
  clear hX
  rcases text_cases a0 with ⟨he, hlen, hnum, hs⟩ | ⟨he, hs⟩
  · rw [he, hs] at cT
    by_cases h0 : a0 = []
    · subst h0
      have cT' : ∀ w, Shp w → Pw w → IntsAt w p0 [] → Calls Tryz.prog 10 #[.slice p0 ([] : List Int).length c0] w fun e w' => e = .returned (.tuple #[.string ⟨#[]⟩, .int .i64 0]) ∧ Below w.heap.size w w' := cT
      clear cT
      simp only [List.length_nil] at cT' ⊢
      go_enter Tryz.func4, Tryz.ntmps4
      go_wp2_with (go_at_call 10; first | (refine cX.mono ?_; rintro e w1 ⟨rfl, hbb⟩; have hB1 := Below.step0 HB0.out hbb; clear hbb cX) | (refine (cT' _ (hS.below hB1) (hP.below hB1) (A0.below hB1)).mono ?_; rintro e w2 ⟨rfl, hbb⟩; have hB2 := Below.step0 hB1 hbb; clear hbb cT'))
      go_ret
      exact ⟨rfl, hB2⟩
    · obtain ⟨T, hT⟩ : ∃ T, bL (jn 10 (a0.map lineN)) = T := ⟨_, rfl⟩
      have hj := jn_len 10 80 (a0.map lineN) (fun l hl => by obtain ⟨n, hn, rfl⟩ := List.mem_map.1 hl; exact line_len n (n0 n hn))
      rw [List.length_map] at hj
      have hz : (jn 10 (a0.map lineN)).length < 4294967281 := by
        have := Nat.mul_le_mul_right 81 hlen
        omega
      have cR := fun w hS hP hE m hM zM => prog_read (jn 10 (a0.map lineN)) w hS hP hE m hM zM hz
      rw [read_text a0 hnum hlen h0] at cR
      have hne : ¬ ((T.size : Int) = 0) := by
        rw [← hT, bL_size]
        intro h
        exact h0 ((jn_empty a0).1 (List.length_eq_zero_iff.1 (by omega)))
      have hne' : ((T.size : Int) == 0) = false := by simpa using hne
      have hzz : T.size ≤ 4294967281 := by rw [← hT, bL_size]; omega
      rw [hT] at cT cR
      clear hT hs hj hz hne
      have cE := fun w a c hA => ref_eq a p0 c c0 a0 a0 w hA
      rw [decide_eq_true (rfl : a0 = a0)] at cE
      have zM0 := zM
      go_enter Tryz.func4, Tryz.ntmps4
      go_wp2_with (first | (go_at_call 10; first | (refine cX.mono ?_; rintro e w1 ⟨rfl, hbb⟩; have hB1 := Below.step0 HB0.out hbb; clear hbb cX) | (refine (cT _ (hS.below hB1) (hP.below hB1) (A0.below hB1)).mono ?_; rintro e w2 ⟨rfl, hbb⟩; have hB2 := Below.step0 hB1 hbb; clear hbb cT)) | (go_at_call 6; refine (cR _ (hS.below hB2) (hP.below hB2) (hE.below hB2) m (by rw [hB2.cell (p := ⟨0, 0, none⟩) zM]; exact hM) (Nat.lt_of_lt_of_le zM hB2.size)).mono ?_; rintro e w3 ⟨V1, V2, rfl, o1, o2, hbb⟩; have hB3 := Below.step0 hB2 hbb; obtain ⟨a1, c1, rfl, A1⟩ := own_ints rfl o1; obtain ⟨a2, c2, rfl⟩ := own_slice o2; have A3 := A0.below hB3; clear hbb cR o1 o2) | (go_at_call 8; refine (cE _ _ _ A1 A3 z0 z0).mono ?_; rintro e w' ⟨rfl, hw⟩; replace hw := hw.symm; subst hw))
      go_ret
      exact ⟨rfl, hB3⟩
  · rw [hs] at cT
    have he' : ((textS a0).e != 0) = true := by rcases he with h | h <;> rw [h] <;> rfl
    have cT' : ∀ w, Shp w → Pw w → IntsAt w p0 a0 → Calls Tryz.prog 10 #[.slice p0 a0.length c0] w fun e w' => e = .returned (.tuple #[.string ⟨#[]⟩, .int .i64 (textS a0).e]) ∧ Below w.heap.size w w' := cT
    clear cT he hs
    generalize (textS a0).e = E at *
    go_enter Tryz.func4, Tryz.ntmps4
    go_wp2_with (go_at_call 10; first | (refine cX.mono ?_; rintro e w1 ⟨rfl, hbb⟩; have hB1 := Below.step0 HB0.out hbb; clear hbb cX) | (refine (cT' _ (hS.below hB1) (hP.below hB1) (A0.below hB1)).mono ?_; rintro e w2 ⟨rfl, hbb⟩; have hB2 := Below.step0 hB1 hbb; clear hbb cT'))
    go_ret
    exact ⟨rfl, hB2⟩

set_option maxRecDepth 1000000 in
theorem contract (H : Type) (enc : TypeId × Value → H) (W : World) (base : Nat) (args : Array Value) (ds gs : List (DataW H)) (before : List MemPlace)
    (hval : ∀ (j : Nat) t v, Tryz.f4.params[j]? = some t → args[j]? = some v → Value.okWide Tryz.prog W .any base t v)
    (hW : DataW.Whole enc Tryz.prog Tryz.f4.params.toList Rows.progBackSpec.vars false W args.toList ds gs before) (hsh : W.ShapedOpen Tryz.prog) (hz : (DataW.weightsEach Tryz.prog (Tryz.f4.params.toList ++ (OpenSpec.ofChange Rows.progBackSpec).bare.plain.varTypes Tryz.prog) (ds ++ gs)).all (· ≤ reachBytes) = true) (hL : laidMet Tryz.prog Rows.progBackRow.laid W) :
    Calls Tryz.prog 4 args W fun e W' => ∃ v, e = .returned v ∧ Rows.progBackSpec.post enc Tryz.prog Tryz.f4 false true false false W args v W' := by
  have hW' := hW
  obtain ⟨p, q, hA0, hV, rfl, hfz, hnd⟩ := hW
  have hA : DataW.TrodAll enc Tryz.prog W 0 (fun _ => true) true Tryz.f4.params.toList args.toList ds p := hA0
  rw [Tryz.params4] at hA hval
  obtain ⟨v0, vs0, d0, ds0, p0, q0, hargs, rfl, rfl, h0, r0⟩ := trodAll_cons hA
  obtain ⟨rfl, rfl, rfl⟩ := trodAll_nil r0
  obtain rfl : args = #[v0] := by cases args; simp_all
  obtain ⟨rfl, rfl⟩ := trodVars_none hV
  obtain ⟨pp0, ll0, cc0, rfl⟩ := okWide_slice Tryz.underlying22 (hval 0 22 v0 rfl rfl)
  have k0 := h0
  have lt0 : ∀ x ∈ p0, x.block < W.heap.size := by obtain ⟨m, hm⟩ := k0; exact DataW.trod_lt m _ _ _ hm
  obtain ⟨a0, hx0, zz0, nn0, aa0⟩ := open_ints k0
  subst hx0
  clear hA0
  obtain ⟨m, hM⟩ : ∃ m, W.cell? ⟨0, 0, none⟩ = some (.int .i64 m) := maxLen_cell W hsh
  have zM : 0 < W.heap.size := by
    rcases Nat.lt_or_ge 0 W.heap.size with h | h
    · exact h
    · rw [World.cell?] at hM; simp [Array.getElem?_eq_none h] at hM
  refine (walk pp0 cc0 a0 zz0 nn0 W aa0 (shp_of_laid hL (.tail _ (.tail _ (.tail _ (.tail _ (.tail _ (.tail _ (.head _)))))))) m hM zM (pw_of_laid hL (.tail _ (.tail _ (.head _)))) (er_of_laid hL (.tail _ (.tail _ (.tail _ (.tail _ (.tail _ (.head _)))))) (.tail _ (.tail _ (.tail _ (.tail _ (.head _))))))).mono fun e W' ⟨he, bel⟩ => ?_
  subst he
  exact ⟨_, rfl, _, _, _, [], _, [], hW', trodAll_mk1 (shut_bool Tryz.underlying4 _), (trodAll_cons_mk (Below.trod laidOut (by kernel_rfl) (of_decide_eq_true (by kernel_rfl)) k0 bel lt0) trodAll_mk0), rfl, bel.frame _, fun h => by cases h⟩

theorem reads (os : Os) {H : Type} (enc : TypeId × Value → H) : ∃ places, DataW.whole enc Tryz.prog ((World.laidAll Tryz.prog os Rows.progBackRow.laid).forCall (fun _ _ => 0) ⟨#[], #[.slice none 0 0], []⟩).memory Tryz.f4.params.toList Rows.progBackSpec.vars false (#[.slice none 0 0] : Array Value).toList 8 = some ([.nil], [], places) :=
  ⟨[], by kernel_rfl⟩
theorem laid_met (os : Os) : laidMet Tryz.prog Rows.progBackRow.laid ((World.laidAll Tryz.prog os Rows.progBackRow.laid).forCall (fun _ _ => 0) ⟨#[], #[.slice none 0 0], []⟩).memory :=
  laidMet_laidAll _ (by kernel_rfl) (by kernel_rfl)

set_option maxRecDepth 100000 in
theorem lifted (os : Os) (started : os.Started) (H : Type) (enc : TypeId × Value → H) (F : Stop.Interp) :
    ReturnsInHanded {} Tryz.checked os 4 .any ((OpenSpec.ofChange Rows.progBackSpec).preRow enc Tryz.prog Tryz.f4 Rows.progBackRow.domain false Rows.progBackRow.laid) (((OpenSpec.ofChange Rows.progBackSpec).at F).post enc Tryz.prog Tryz.f4 false true false false) := by
  obtain ⟨places, hx⟩ := reads os enc
  refine returnsInHanded_of_row (C := Tryz.checked) (s := OpenSpec.ofChange Rows.progBackSpec) own started (by kernel_rfl) Tryz.func4
    (witness_row_atRef (enc := enc) (C := Tryz.checked) false (World.laidAll Tryz.prog os Rows.progBackRow.laid) #[.slice none 0 0] (World.laidAll_os _ _ _) (by kernel_rfl) (by kernel_rfl) (by kernel_rfl)
      (OpenSpec.preRow_of_cond 8 hx (by kernel_rfl) (fun k hk => by cases hk) (by kernel_rfl) (laid_met os))) ?_
  intro W base args ds gs before hval hW _ hcond hz hL hsh _
  exact contract H enc W base args ds gs before hval hW hsh hz hL

theorem said : Rows.ProgBackSaid :=
  OpenClaim.holds_of_cond 4 Tryz.f4 rfl rfl rfl rfl rfl rfl rfl ⟨rfl, rfl, rfl, rfl, rfl⟩ rfl rfl rfl rfl rfl (by kernel_rfl) Tryz.func4 (by kernel_rfl)
    (of_decide_eq_true (by kernel_rfl)) (by unfold Func.isWrapper; first | (rw [if_pos (by decide +kernel)]; kernel_rfl) | (rw [if_neg (by decide +kernel)]; exact ⟨rfl, rfl⟩))
    (fun os started H enc _ F => by rw [OpenClaim.pre_eq_preRow]; exact lifted os started H enc F)
theorem plain (f : FuncId) (fn : Func) (hf : Tryz.pinned.checked.prog.funcNamed Rows.progBackRow.func = some f) (hfn : Tryz.pinned.checked.prog.funcs[f]? = some fn) :
    true = Tryz.pinned.checked.prog.looks [] ∧ ∀ (j : Nat) t, fn.params[j]? = some t → Tryz.pinned.checked.prog.wantsStandIn t = false := by
  obtain rfl : f = 4 := Option.some.inj ((show Tryz.prog.funcNamed Rows.progBackRow.func = some 4 by kernel_rfl).symm.trans hf) |>.symm
  obtain rfl : fn = Tryz.f4 := (Option.some.inj (Tryz.func4.symm.trans hfn)).symm
  refine ⟨by kernel_rfl, fun j t ht => ?_⟩
  rw [Tryz.params4] at ht
  have hm : t ∈ [22] := by simpa using Array.mem_of_getElem? ht
  have hall : ([22].all fun u => !Tryz.prog.wantsStandIn u) = true := by kernel_rfl
  exact (show Tryz.prog.wantsStandIn t = false by simpa using List.all_eq_true.1 hall t hm)
theorem proved : Rows.ProgBackCardSaid :=
  Claim7.holds_tied_plain_at .later [] _ _ _ _ said (fun _ h => by cases h) (by kernel_rfl) (fun _ h => by cases h) progBack_row_tie rfl ⟨rfl, rfl⟩ (by kernel_rfl) rfl plain (by kernel_rfl)
#print axioms proved
end Go.Proofs.YtekoonpdhadnmaaGreatDoor.progBack
