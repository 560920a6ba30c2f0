/- Chapter 7, P14: Read answers what the document says, for whatever text (with what is read in all of bulk at most 1048576); nothing that was in memory is turned. -/
import Derived.Test.YtfafkijcejbcpaaGreatDoorRows
import Derived.Test.YtfafkijcejbcpaaGreatDoorCards
import Derived.Test.YtfafkijcejbcpaaGreatDoorTie
import Derived.Test.YtfafkijcejbcpaaGreatDoorCardBase
import Derived.Test.YtfafkijcejbcpaaGreatDoorInstShape
import Derived.Test.YtfafkijcejbcpaaGreatDoorInstLaid
import Derived.ChangeMaps5
import Derived.Test.YtfafkijcejbcpaaGreatDoorKeyPure
import Derived.Test.YtfafkijcejbcpaaGreatDoorTextPure
import Derived.Test.YtfafkijcejbcpaaGreatDoorSplitPure
import Derived.Test.YtfafkijcejbcpaaGreatDoorProgPure
import Derived.Test.YtfafkijcejbcpaaGreatDoorProgState
import Derived.Test.YtfafkijcejbcpaaGreatDoorProgLabel
import Derived.Test.YtfafkijcejbcpaaGreatDoorProgRead
import Derived.Test.YtfafkijcejbcpaaGreatDoorProgReadAll
import Derived.Test.YtfafkijcejbcpaaGreatDoorLinesAll
import Derived.Test.YtfafkijcejbcpaaGreatDoorEqInt
import Derived.Test.YtfafkijcejbcpaaGreatDoorEqLab
import Derived.WalkKit
import Derived.ProofKit
import Derived.OpenShut
import Derived.Deep.DeepHandedRow
import Derived.Deep.DeepWitnessRowRef
import Derived.Lay
import Derived.MakeChecks
import Derived.SizedLaws
import Derived.Lib.LaidTab
namespace Go.Proofs.YtfafkijcejbcpaaGreatDoor.progReads
open Go.ChangeShapes Go.WideShapes Go.ChangeAt Go.RowKit
open Go.ChangeMaps
set_option linter.unusedVariables false
set_option linter.unusedSimpArgs false

theorem own : ownKnob Tryz.prog.godebug = none := by kernel_rfl


set_option maxHeartbeats 4000000 in
set_option maxRecDepth 1000000 in
theorem walk (a0 : ByteArray) (z0 : a0.size ≤ maxLen) (s0 : a0.size ≤ 1048576) (w : World)  (hS : Shp w) (m : Int) (hM : w.cell? ⟨0, 0, none⟩ = some (.int .i64 m)) (zM : 0 < w.heap.size) (hP : Pw w) (hE : Er w) :
    Calls Tryz.prog 3 #[.string a0] w fun e w' => e = .returned (.bool true) ∧ Below w.heap.size w w' := by
  obtain ⟨l, rfl⟩ : ∃ l, a0 = bL l := ⟨_, bL_of a0⟩
  have ll : l.length ≤ 1048576 := by rw [bL_size] at s0; exact s0
  have cR := fun w hS hP hE m hM zM => prog_read l w hS hP hE m hM zM (by omega)
  have cD := fun w m hM zM => ref_progread l w m hM zM ll
  have HM : Hid (∀ w', Below w.heap.size w w' → w'.cell? ⟨0, 0, none⟩ = some (.int .i64 m) ∧ 0 < w'.heap.size) := fun w' hb => ⟨by rw [hb.cell (p := ⟨0, 0, none⟩) zM]; exact hM, Nat.lt_of_lt_of_le zM hb.size⟩
  obtain ⟨cm, lm⟩ : (readS l).cells.length ≤ 150 ∧ (readS l).labels.length ≤ 150 := by
    by_cases he : (readS l).e = 0
    · obtain ⟨h1, h2⟩ := read_both l he
      obtain ⟨h3, _⟩ := read_short l he
      have h4 := ga_len (sp 10 l) (sp 10 l).length
      have h5 := gc_len (sp 10 l) (sp 10 l).length
      have h6 := sp_len 10 l
      omega
    · obtain ⟨h1, h2⟩ := read_err l he
      rw [h1, h2]
      simp
  clear hM
  generalize readS l = RL at *
  obtain ⟨C, L, rn, re⟩ := RL
  dsimp only at *
  have cEi := fun a b c d w hA hB => ref_eq a b c d C C w hA hB (by unfold maxLen; omega) (by unfold maxLen; omega)
  rw [decide_eq_true (rfl : C = C)] at cEi
  have cEl := fun a b c d w hA hB => ref_eqlab a b c d L L w hA hB (by omega)
  rw [lbSame_self] at cEl
  generalize bL l = TXT at *
  go_enter Tryz.func3, Tryz.ntmps3
  go_wp2_with (first | (go_at_call 4; refine (cR _ hS hP hE m (HM.out _ (Below.refl _ _)).1 (HM.out _ (Below.refl _ _)).2).mono ?_; rintro e w1 ⟨V1, V2, rfl, ⟨o1, o2, hB1⟩⟩; dsimp only at o1 o2; obtain ⟨xc, xd, rfl, A1⟩ := own_ints rfl o1; obtain ⟨xl, xm, rfl, A2⟩ := own_labs rfl o2; clear cR o1 o2) | (go_at_call 5; refine (cD _ m (HM.out _ hB1).1 (HM.out _ hB1).2).mono ?_; rintro e w2 ⟨V3, V4, rfl, ⟨o3, o4, hbb⟩⟩; dsimp only at o3 o4; obtain ⟨yc, yd, rfl, A3⟩ := own_ints rfl o3; obtain ⟨yl, ym, rfl, A4⟩ := own_labs rfl o4; have hB2 := Below.step0 hB1 hbb; replace A1 := A1.below hbb; replace A2 := A2.below hbb; clear cD o3 o4 hbb) | (go_at_call 6; refine (cEi _ _ _ _ _ A1 A3).mono ?_; rintro e w7 ⟨rfl, rfl⟩; clear cEi) | (go_at_call 7; refine (cEl _ _ _ _ _ A2 A4).mono ?_; rintro e w8 ⟨rfl, hbb⟩; have hB8 := Below.step0 hB2 hbb; clear hbb cEl))
  go_ret
  exact ⟨rfl, hB8⟩

set_option maxRecDepth 1000000 in
theorem contract (H : Type) (enc : TypeId × Value → H) (W : World) (base : Nat) (args : Array Value) (ds gs : List (DataW H)) (before : List MemPlace)
    (hval : ∀ (j : Nat) t v, Tryz.f3.params[j]? = some t → args[j]? = some v → Value.okWide Tryz.prog W .any base t v)
    (hW : DataW.Whole enc Tryz.prog Tryz.f3.params.toList Rows.progReadsSpec.vars false W args.toList ds gs before) (hsh : W.ShapedOpen Tryz.prog) (hz : (DataW.weightsEach Tryz.prog (Tryz.f3.params.toList ++ (Rows.OpenSpec.upto Rows.progReadsSpec).bare.plain.varTypes Tryz.prog) (ds ++ gs)).all (· ≤ reachBytes) = true) (hL : laidMet Tryz.prog Rows.progReadsUptoRow.laid W) (hk : decide (Rows.uptoBulkAll (ds ++ gs) ≤ 1048576) = true) :
    Calls Tryz.prog 3 args W fun e W' => ∃ v, e = .returned v ∧ Rows.progReadsSpec.post enc Tryz.prog Tryz.f3 false true false false W args v W' := by
  have hW' := hW
  obtain ⟨p, q, hA0, hV, rfl, hfz, hnd⟩ := hW
  have hA : DataW.TrodAll enc Tryz.prog W 0 (fun _ => true) true Tryz.f3.params.toList args.toList ds p := hA0
  rw [Tryz.params3] at hA hval
  obtain ⟨v0, vs0, d0, ds0, p0, q0, hargs, rfl, rfl, h0, r0⟩ := trodAll_cons hA
  obtain ⟨rfl, rfl, rfl⟩ := trodAll_nil r0
  obtain rfl : args = #[v0] := by cases args; simp_all
  obtain ⟨rfl, rfl⟩ := trodVars_none hV
  obtain ⟨a0, rfl, rfl, rfl, z0⟩ := open_string Tryz.underlying9 (hval 0 9 v0 rfl rfl) h0
  clear hA0
  obtain ⟨m, hM⟩ : ∃ m, W.cell? ⟨0, 0, none⟩ = some (.int .i64 m) := maxLen_cell W hsh
  have zM : 0 < W.heap.size := by
    rcases Nat.lt_or_ge 0 W.heap.size with h | h
    · exact h
    · rw [World.cell?] at hM; simp [Array.getElem?_eq_none h] at hM
  refine (walk a0 z0 (by have h := of_decide_eq_true hk; simp only [List.cons_append, List.nil_append, List.append_nil, Rows.uptoBulkAll, Rows.uptoBulk] at h; have e : a0.size = a0.data.toList.length := (by simp); omega) W  (shp_of_laid hL (.tail _ (.tail _ (.tail _ (.tail _ (.tail _ (.tail _ (.head _)))))))) m hM zM (pw_of_laid hL (.tail _ (.tail _ (.head _)))) (er_of_laid hL (.tail _ (.tail _ (.tail _ (.tail _ (.tail _ (.head _)))))) (.tail _ (.tail _ (.tail _ (.tail _ (.head _))))))).mono fun e W' ⟨he, bel⟩ => ?_
  subst he
  exact ⟨_, rfl, _, _, _, [], [], [], hW', trodAll_mk1 (shut_bool Tryz.underlying4 _), (trodAll_cons_mk (shut_string Tryz.underlying9 z0) trodAll_mk0), rfl, bel.frame _, fun h => by cases h⟩

theorem reads (os : Os) {H : Type} (enc : TypeId × Value → H) : ∃ places, DataW.whole enc Tryz.prog ((World.laidAll Tryz.prog os Rows.progReadsUptoRow.laid).forCall (fun _ _ => 0) ⟨#[], #[.string ⟨#[]⟩], []⟩).memory Tryz.f3.params.toList Rows.progReadsSpec.vars false (#[.string ⟨#[]⟩] : Array Value).toList 8 = some ([.lit (.string [])], [], places) :=
  ⟨[], by kernel_rfl⟩
theorem laid_met (os : Os) : laidMet Tryz.prog Rows.progReadsUptoRow.laid ((World.laidAll Tryz.prog os Rows.progReadsUptoRow.laid).forCall (fun _ _ => 0) ⟨#[], #[.string ⟨#[]⟩], []⟩).memory :=
  laidMet_laidAll _ (by kernel_rfl) (by kernel_rfl)

set_option maxRecDepth 100000 in
theorem lifted (os : Os) (started : os.Started) (H : Type) (enc : TypeId × Value → H) (F : Stop.Interp) :
    ReturnsInHanded {} Tryz.checked os 3 .any ((Rows.OpenSpec.upto Rows.progReadsSpec).preRow enc Tryz.prog Tryz.f3 Rows.progReadsUptoRow.domain false Rows.progReadsUptoRow.laid) (((Rows.OpenSpec.upto Rows.progReadsSpec).at F).post enc Tryz.prog Tryz.f3 false true false false) := by
  obtain ⟨places, hx⟩ := reads os enc
  refine returnsInHanded_of_row (C := Tryz.checked) (s := Rows.OpenSpec.upto Rows.progReadsSpec) own started (by kernel_rfl) Tryz.func3
    (witness_row_atRef (enc := enc) (C := Tryz.checked) false (World.laidAll Tryz.prog os Rows.progReadsUptoRow.laid) #[.string ⟨#[]⟩] (World.laidAll_os _ _ _) (by kernel_rfl) (by kernel_rfl) (by kernel_rfl)
      (OpenSpec.preRow_of_cond 8 hx (by kernel_rfl) (fun k hk => by cases hk; kernel_rfl) (by kernel_rfl) (laid_met os))) ?_
  intro W base args ds gs before hval hW _ hcond hz hL hsh _
  exact contract H enc W base args ds gs before hval hW hsh hz hL (hcond _ rfl)

theorem said : Rows.ProgReadsUptoSaid :=
  OpenClaim.holds_of_cond 3 Tryz.f3 rfl rfl rfl rfl rfl rfl rfl ⟨rfl, rfl, rfl, rfl, rfl⟩ rfl rfl rfl rfl rfl (by kernel_rfl) Tryz.func3 (by kernel_rfl)
    (of_decide_eq_true (by kernel_rfl)) (by unfold Func.isWrapper; first | (rw [if_pos (by decide +kernel)]; kernel_rfl) | (rw [if_neg (by decide +kernel)]; exact ⟨rfl, rfl⟩))
    (fun os started H enc _ F => by rw [OpenClaim.pre_eq_preRow]; exact lifted os started H enc F)
theorem plain (f : FuncId) (fn : Func) (hf : Tryz.pinned.checked.prog.funcNamed Rows.progReadsUptoRow.func = some f) (hfn : Tryz.pinned.checked.prog.funcs[f]? = some fn) :
    true = Tryz.pinned.checked.prog.looks [] ∧ ∀ (j : Nat) t, fn.params[j]? = some t → Tryz.pinned.checked.prog.wantsStandIn t = false := by
  obtain rfl : f = 3 := Option.some.inj ((show Tryz.prog.funcNamed Rows.progReadsUptoRow.func = some 3 by kernel_rfl).symm.trans hf) |>.symm
  obtain rfl : fn = Tryz.f3 := (Option.some.inj (Tryz.func3.symm.trans hfn)).symm
  refine ⟨by kernel_rfl, fun j t ht => ?_⟩
  rw [Tryz.params3] at ht
  have hm : t ∈ [9] := by simpa using Array.mem_of_getElem? ht
  have hall : ([9].all fun u => !Tryz.prog.wantsStandIn u) = true := by kernel_rfl
  exact (show Tryz.prog.wantsStandIn t = false by simpa using List.all_eq_true.1 hall t hm)
theorem proved : Rows.ProgReadsUptoCardSaid :=
  Claim7.holds_tied_plain_at .later [] _ _ _ _ said (fun _ h => by cases h) (by kernel_rfl) (fun _ h => by cases h) progReadsUpto_row_tie rfl ⟨rfl, rfl⟩ (by kernel_rfl) rfl plain (by kernel_rfl)
#print axioms proved
end Go.Proofs.YtfafkijcejbcpaaGreatDoor.progReads
