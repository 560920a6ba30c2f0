/- P15: Text answers what the document says: for every list of numbers; nothing that was in memory is turned. -/
import Derived.Test.YtekoonpdhadnmaaDoorRows
import Derived.Test.YtekoonpdhadnmaaDoorCards
import Derived.Test.YtekoonpdhadnmaaDoorTie
import Derived.Test.YtekoonpdhadnmaaDoorCardBase
import Derived.Test.YtekoonpdhadnmaaDoorInstShape
import Derived.Test.YtekoonpdhadnmaaDoorInstLaid
import Derived.Test.YtekoonpdhadnmaaDoorIntsArg
import Derived.Carry
import Derived.Test.YtekoonpdhadnmaaDoorKeyPure
import Derived.Test.YtekoonpdhadnmaaDoorTextPure
import Derived.Test.YtekoonpdhadnmaaDoorInstOp
import Derived.Test.YtekoonpdhadnmaaDoorProgPure
import Derived.Test.YtekoonpdhadnmaaDoorProgText
import Derived.Test.YtekoonpdhadnmaaDoorProgTextRef
import Derived.WalkKit
import Derived.ProofKit
import Derived.OpenShut
import Derived.Deep.DeepHandedRow
import Derived.Deep.DeepWitnessRowRef
import Derived.Lay
import Derived.MakeChecks
import Derived.SizedLaws
import Derived.Lib.LaidTab
namespace Go.Proofs.YtekoonpdhadnmaaDoor.progTexts
open Go.ChangeShapes Go.WideShapes Go.ChangeAt Go.RowKit
set_option linter.unusedVariables false
set_option linter.unusedSimpArgs false

theorem own : ownKnob Tryd.prog.godebug = none := by kernel_rfl
theorem laidOut : laidOutB Tryd.prog = true := by kernel_rfl


set_option maxHeartbeats 4000000 in
set_option maxRecDepth 1000000 in
theorem walk (p0 : Option Addr) (c0 : Nat) (a0 : List Int) (z0 : a0.length ≤ maxLen) (n0 : inB64 a0) (w : World) (A0 : IntsAt w p0 a0) (hS : Shp w) (m : Int) (hM : w.cell? ⟨1, 0, none⟩ = some (.int .i64 m)) (zM : 1 < w.heap.size) (hP : Pw w) :
    Calls Tryd.prog 3 #[.slice p0 a0.length c0] w fun e w' => e = .returned (.bool true) ∧ Below w.heap.size w w' := by
  have cT := prog_text p0 c0 a0 w hS hP n0 A0 z0
  have cR := fun w m hM zM hA => ref_progtext p0 c0 a0 w m hM zM n0 hA z0
  have eT := str_same (rfl : bL (textS a0).s = bL (textS a0).s)
  generalize bL (textS a0).s = S at *
  generalize (textS a0).e = E at *
  go_enter Tryd.func3, Tryd.ntmps3
  go_wp2_with (first | (go_at_call 6; refine cT.mono ?_; rintro e w1 ⟨rfl, hB1⟩) | (go_at_call 7; refine (cR _ m (by rw [hB1.cell (p := ⟨1, 0, none⟩) zM]; exact hM) (Nat.lt_of_lt_of_le zM hB1.size) (A0.below hB1)).mono ?_; rintro e w2 ⟨rfl, hbb⟩; have hB2 := Below.step0 hB1 hbb))
  go_ret
  exact ⟨rfl, hB2⟩

set_option maxRecDepth 1000000 in
theorem contract (H : Type) (enc : TypeId × Value → H) (W : World) (base : Nat) (args : Array Value) (ds gs : List (DataW H)) (before : List MemPlace)
    (hval : ∀ (j : Nat) t v, Tryd.f3.params[j]? = some t → args[j]? = some v → Value.okWide Tryd.prog W .any base t v)
    (hW : DataW.Whole enc Tryd.prog Tryd.f3.params.toList Rows.progTextsSpec.vars false W args.toList ds gs before) (hsh : W.ShapedOpen Tryd.prog) (hz : (DataW.weightsEach Tryd.prog (Tryd.f3.params.toList ++ (OpenSpec.ofChange Rows.progTextsSpec).bare.plain.varTypes Tryd.prog) (ds ++ gs)).all (· ≤ reachBytes) = true) (hL : laidMet Tryd.prog Rows.progTextsRow.laid W) :
    Calls Tryd.prog 3 args W fun e W' => ∃ v, e = .returned v ∧ Rows.progTextsSpec.post enc Tryd.prog Tryd.f3 false true false false W args v W' := by
  have hW' := hW
  obtain ⟨p, q, hA0, hV, rfl, hfz, hnd⟩ := hW
  have hA : DataW.TrodAll enc Tryd.prog W 0 (fun _ => true) true Tryd.f3.params.toList args.toList ds p := hA0
  rw [Tryd.params3] at hA hval
  obtain ⟨v0, vs0, d0, ds0, p0, q0, hargs, rfl, rfl, h0, r0⟩ := trodAll_cons hA
  obtain ⟨rfl, rfl, rfl⟩ := trodAll_nil r0
  obtain rfl : args = #[v0] := by cases args; simp_all
  obtain ⟨rfl, rfl⟩ := trodVars_none hV
  obtain ⟨pp0, ll0, cc0, rfl⟩ := okWide_slice Tryd.underlying22 (hval 0 22 v0 rfl rfl)
  have k0 := h0
  have lt0 : ∀ x ∈ p0, x.block < W.heap.size := by obtain ⟨m, hm⟩ := k0; exact DataW.trod_lt m _ _ _ hm
  obtain ⟨a0, hx0, zz0, nn0, aa0⟩ := open_ints k0
  subst hx0
  clear hA0
  obtain ⟨m, hM⟩ : ∃ m, W.cell? ⟨1, 0, none⟩ = some (.int .i64 m) := maxLen_cell W hsh
  have zM : 1 < W.heap.size := by
    rcases Nat.lt_or_ge 1 W.heap.size with h | h
    · exact h
    · rw [World.cell?] at hM; simp [Array.getElem?_eq_none h] at hM
  refine (walk pp0 cc0 a0 zz0 nn0 W aa0 (shp_of_laid hL (.tail _ (.tail _ (.tail _ (.tail _ (.head _)))))) m hM zM (pw_of_laid hL (.tail _ (.tail _ (.head _))))).mono fun e W' ⟨he, bel⟩ => ?_
  subst he
  exact ⟨_, rfl, _, _, _, [], _, [], hW', trodAll_mk1 (shut_bool Tryd.underlying4 _), (trodAll_cons_mk (Below.trod laidOut (by kernel_rfl) (of_decide_eq_true (by kernel_rfl)) k0 bel lt0) trodAll_mk0), rfl, bel.frame _, fun h => by cases h⟩

theorem reads (os : Os) {H : Type} (enc : TypeId × Value → H) : ∃ places, DataW.whole enc Tryd.prog ((World.laidAll Tryd.prog os Rows.progTextsRow.laid).forCall (fun _ _ => 0) ⟨#[], #[.slice none 0 0], []⟩).memory Tryd.f3.params.toList Rows.progTextsSpec.vars false (#[.slice none 0 0] : Array Value).toList 8 = some ([.nil], [], places) :=
  ⟨[], by kernel_rfl⟩
theorem laid_met (os : Os) : laidMet Tryd.prog Rows.progTextsRow.laid ((World.laidAll Tryd.prog os Rows.progTextsRow.laid).forCall (fun _ _ => 0) ⟨#[], #[.slice none 0 0], []⟩).memory :=
  laidMet_laidAll _ (by kernel_rfl) (by kernel_rfl)

set_option maxRecDepth 100000 in
theorem lifted (os : Os) (started : os.Started) (H : Type) (enc : TypeId × Value → H) (F : Stop.Interp) :
    ReturnsInHanded {} Tryd.checked os 3 .any ((OpenSpec.ofChange Rows.progTextsSpec).preRow enc Tryd.prog Tryd.f3 Rows.progTextsRow.domain false Rows.progTextsRow.laid) (((OpenSpec.ofChange Rows.progTextsSpec).at F).post enc Tryd.prog Tryd.f3 false true false false) := by
  obtain ⟨places, hx⟩ := reads os enc
  refine returnsInHanded_of_row (C := Tryd.checked) (s := OpenSpec.ofChange Rows.progTextsSpec) own started (by kernel_rfl) Tryd.func3
    (witness_row_at (enc := enc) (C := Tryd.checked) false (World.laidAll Tryd.prog os Rows.progTextsRow.laid) #[.slice none 0 0] (World.laidAll_os _ _ _) (by kernel_rfl) (by kernel_rfl) (by kernel_rfl)
      (OpenSpec.preRow_of_cond 8 hx (by kernel_rfl) (fun k hk => by cases hk) (by kernel_rfl) (laid_met os))) ?_
  intro W base args ds gs before hval hW _ hcond hz hL hsh _
  exact contract H enc W base args ds gs before hval hW hsh hz hL

theorem said : Rows.ProgTextsSaid :=
  OpenClaim.holds_of_cond 3 Tryd.f3 rfl rfl rfl rfl rfl rfl rfl ⟨rfl, rfl, rfl, rfl, rfl⟩ rfl rfl rfl rfl rfl (by kernel_rfl) Tryd.func3 (by kernel_rfl)
    (of_decide_eq_true (by kernel_rfl)) (by unfold Func.isWrapper; first | (rw [if_pos (by decide +kernel)]; kernel_rfl) | (rw [if_neg (by decide +kernel)]; exact ⟨rfl, rfl⟩))
    (fun os started H enc _ F => by rw [OpenClaim.pre_eq_preRow]; exact lifted os started H enc F)
theorem plain (f : FuncId) (fn : Func) (hf : Tryd.pinned.checked.prog.funcNamed Rows.progTextsRow.func = some f) (hfn : Tryd.pinned.checked.prog.funcs[f]? = some fn) :
    true = Tryd.pinned.checked.prog.looks [] ∧ ∀ (j : Nat) t, fn.params[j]? = some t → Tryd.pinned.checked.prog.wantsStandIn t = false := by
  obtain rfl : f = 3 := Option.some.inj ((show Tryd.prog.funcNamed Rows.progTextsRow.func = some 3 by kernel_rfl).symm.trans hf) |>.symm
  obtain rfl : fn = Tryd.f3 := (Option.some.inj (Tryd.func3.symm.trans hfn)).symm
  refine ⟨by kernel_rfl, fun j t ht => ?_⟩
  rw [Tryd.params3] at ht
  have hm : t ∈ [22] := by simpa using Array.mem_of_getElem? ht
  have hall : ([22].all fun u => !Tryd.prog.wantsStandIn u) = true := by kernel_rfl
  exact (show Tryd.prog.wantsStandIn t = false by simpa using List.all_eq_true.1 hall t hm)
theorem proved : Rows.ProgTextsCardSaid :=
  Claim7.holds_tied_plain_at .later [] _ _ _ _ said (fun _ h => by cases h) (by kernel_rfl) (fun _ h => by cases h) progTexts_row_tie rfl ⟨rfl, rfl⟩ (by kernel_rfl) rfl plain (by kernel_rfl)
#print axioms proved
end Go.Proofs.YtekoonpdhadnmaaDoor.progTexts
