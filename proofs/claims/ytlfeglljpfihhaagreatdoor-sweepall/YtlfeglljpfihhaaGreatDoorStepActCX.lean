/- step.act: keys that are sealed and opened; calls. -/
import Derived.Test.YtlfeglljpfihhaaGreatDoorRows
import Derived.Test.YtlfeglljpfihhaaGreatDoorCardBaseX
import Derived.Test.YtlfeglljpfihhaaGreatDoorKeyCovX
import Derived.Test.YtlfeglljpfihhaaGreatDoorKeySealX
import Derived.Test.YtlfeglljpfihhaaGreatDoorValArgX
import Derived.Test.YtlfeglljpfihhaaGreatDoorMemPureX
import Derived.Test.YtlfeglljpfihhaaGreatDoorMemChkX
import Derived.Test.YtlfeglljpfihhaaGreatDoorStepOffX
import Derived.Test.YtlfeglljpfihhaaGreatDoorStepRowX
import Derived.Test.YtlfeglljpfihhaaGreatDoorStepOwnedX
import Derived.Test.YtlfeglljpfihhaaGreatDoorStepMidX
import Derived.Test.YtlfeglljpfihhaaGreatDoorStepMid2X
import Derived.Test.YtlfeglljpfihhaaGreatDoorStepBackX
import Derived.Test.YtlfeglljpfihhaaGreatDoorStepCallX
import Derived.Test.YtlfeglljpfihhaaGreatDoorStepActX
import Derived.WalkKit
import Derived.ProofKit
import Derived.OpenShut
import Derived.WalkLawsBesides
import Derived.Deep.RegionHeld3
namespace Go.Proofs.YtlfeglljpfihhaaGreatDoor
open Go.ChangeShapes Go.WideShapes Go.ChangeAt Go.RowKit
set_option linter.unusedSimpArgs false
set_option linter.unusedVariables false
set_option maxRecDepth 100000

section
variable {w : World} {S bb : Nat} {x : MC} {q : MA} {n : K5} {o e c : Int} {a b k : Nat} {u v : MV}
set_option maxHeartbeats 2000000 in
theorem act_seal (h : St w S bb x q ⟨15, a, b, k, e⟩ n) (la : a < 8) (vb : x.r[b]? = some u) (vc : x.r[k]? = some v) (hub : mvOk u) (hvb : mvOk v) :
    Calls Tryz.prog 51 #[.pointer (some ⟨S, 0, none⟩)] w fun r w' => Acts w S bb ⟨15, a, b, k, e⟩ (if u.i = true then (if v.i = true then keyR x (a : Int) (sealK u.p u.b u.l u.a u.s v.p v.b v.l v.a v.s) n else .no .u) else .no .u) r w' := by
  have hio : w.cell? ⟨S, 64, none⟩ = some (.int .i64 15) := h.cells.io
  have H : Hid (St w S bb x q ⟨15, a, b, k, e⟩ n) := h
  obtain ⟨Z, hZ⟩ : ∃ Z : AR, Z = (if u.i = true then (if v.i = true then keyR x (a : Int) (sealK u.p u.b u.l u.a u.s v.p v.b v.l v.a v.s) n else .no .u) else .no .u) := ⟨_, rfl⟩
  rw [← hZ]
  have HZ : Hid (Z = (if u.i = true then (if v.i = true then keyR x (a : Int) (sealK u.p u.b u.l u.a u.s v.p v.b v.l v.a v.s) n else .no .u) else .no .u)) := hZ
  clear h hZ
  go_enter Tryz.func51, Tryz.ntmps51
  go_wp2
  refine wp_region_held_drew (S := Ist S (a : Int) (b : Int) (k : Int)) (by kernel_rfl) (Ist.of H.out.drew) (fun hHeld => ?_)
  refine wpAnyH_take (i := 0) (v := .pointer (some ⟨S, 0, none⟩)) rfl (by kernel_rfl) (by kernel_rfl) (by kernel_rfl) (fun _ _ _ h => h) (Or.inl ⟨by rfl, fun w hSw => by go_simp⟩) (by assumption) ?_
  try simp only [Act.put, List.getElem_toArray, List.getElem_cons_zero, List.getElem_cons_succ, List.setIfInBounds_toArray, List.set_cons_zero, List.set_cons_succ]
  refine wpAnyH_take (i := 1) (v := .pointer (some ⟨S, 0, none⟩)) rfl (by kernel_rfl) (by kernel_rfl) (by kernel_rfl) (fun _ _ _ h => h) (Or.inl ⟨by rfl, fun w hSw => by go_simp⟩) (by assumption) ?_
  try simp only [Act.put, List.getElem_toArray, List.getElem_cons_zero, List.getElem_cons_succ, List.setIfInBounds_toArray, List.set_cons_zero, List.set_cons_succ]
  refine wpAnyH_take (i := 2) (v := .pointer (some ⟨S, 0, none⟩)) rfl (by kernel_rfl) (by kernel_rfl) (by kernel_rfl) (fun _ _ _ h => h) (Or.inl ⟨by rfl, fun w hSw => by go_simp⟩) (by assumption) ?_
  try simp only [Act.put, List.getElem_toArray, List.getElem_cons_zero, List.getElem_cons_succ, List.setIfInBounds_toArray, List.set_cons_zero, List.set_cons_succ]
  refine wpAnyH_take (i := 3) (v := .pointer (some ⟨S, 0, none⟩)) rfl (by kernel_rfl) (by kernel_rfl) (by kernel_rfl) (fun _ _ _ h => h) (Or.inl ⟨by rfl, fun w hSw => by go_simp⟩) (by assumption) ?_
  try simp only [Act.put, List.getElem_toArray, List.getElem_cons_zero, List.getElem_cons_succ, List.setIfInBounds_toArray, List.set_cons_zero, List.set_cons_succ]
  refine wpAnyH_take (i := 4) (v := .pointer (some ⟨S, 64, none⟩)) rfl (by kernel_rfl) (by kernel_rfl) (by kernel_rfl) (fun _ _ _ h => h) (Or.inl ⟨by rfl, fun w hSw => by go_simp⟩) (by assumption) ?_
  try simp only [Act.put, List.getElem_toArray, List.getElem_cons_zero, List.getElem_cons_succ, List.setIfInBounds_toArray, List.set_cons_zero, List.set_cons_succ]
  refine wpAnyH_take (i := 5) (v := .pointer (some ⟨S, 66, none⟩)) rfl (by kernel_rfl) (by kernel_rfl) (by kernel_rfl) (fun _ _ _ h => h) (Or.inl ⟨by rfl, fun w hSw => by go_simp⟩) (by assumption) ?_
  try simp only [Act.put, List.getElem_toArray, List.getElem_cons_zero, List.getElem_cons_succ, List.setIfInBounds_toArray, List.set_cons_zero, List.set_cons_succ]
  refine wpAnyH_take (i := 6) (v := .int .i64 (b : Int)) rfl (by kernel_rfl) (by kernel_rfl) (by kernel_rfl) (fun _ _ _ h => h) (Or.inl ⟨by rfl, fun w hSw => by have q := hSw.2.1; go_simp⟩) (by assumption) ?_
  try simp only [Act.put, List.getElem_toArray, List.getElem_cons_zero, List.getElem_cons_succ, List.setIfInBounds_toArray, List.set_cons_zero, List.set_cons_succ]
  refine wpAnyH_take (i := 8) (v := .pointer (some ⟨S, 0, none⟩)) rfl (by kernel_rfl) (by kernel_rfl) (by kernel_rfl) (fun _ _ _ h => h) (Or.inl ⟨by rfl, fun w hSw => by go_simp⟩) (by assumption) ?_
  try simp only [Act.put, List.getElem_toArray, List.getElem_cons_zero, List.getElem_cons_succ, List.setIfInBounds_toArray, List.set_cons_zero, List.set_cons_succ]
  refine wpAnyH_take (i := 9) (v := .pointer (some ⟨S, 0, none⟩)) rfl (by kernel_rfl) (by kernel_rfl) (by kernel_rfl) (fun _ _ _ h => h) (Or.inl ⟨by rfl, fun w hSw => by go_simp⟩) (by assumption) ?_
  try simp only [Act.put, List.getElem_toArray, List.getElem_cons_zero, List.getElem_cons_succ, List.setIfInBounds_toArray, List.set_cons_zero, List.set_cons_succ]
  refine wpAnyH_take (i := 10) (v := .pointer (some ⟨S, 0, none⟩)) rfl (by kernel_rfl) (by kernel_rfl) (by kernel_rfl) (fun _ _ _ h => h) (Or.inl ⟨by rfl, fun w hSw => by go_simp⟩) (by assumption) ?_
  try simp only [Act.put, List.getElem_toArray, List.getElem_cons_zero, List.getElem_cons_succ, List.setIfInBounds_toArray, List.set_cons_zero, List.set_cons_succ]
  refine wpAnyH_take (i := 11) (v := .pointer (some ⟨S, 64, none⟩)) rfl (by kernel_rfl) (by kernel_rfl) (by kernel_rfl) (fun _ _ _ h => h) (Or.inl ⟨by rfl, fun w hSw => by go_simp⟩) (by assumption) ?_
  try simp only [Act.put, List.getElem_toArray, List.getElem_cons_zero, List.getElem_cons_succ, List.setIfInBounds_toArray, List.set_cons_zero, List.set_cons_succ]
  refine wpAnyH_take (i := 12) (v := .pointer (some ⟨S, 67, none⟩)) rfl (by kernel_rfl) (by kernel_rfl) (by kernel_rfl) (fun _ _ _ h => h) (Or.inl ⟨by rfl, fun w hSw => by go_simp⟩) (by assumption) ?_
  try simp only [Act.put, List.getElem_toArray, List.getElem_cons_zero, List.getElem_cons_succ, List.setIfInBounds_toArray, List.set_cons_zero, List.set_cons_succ]
  refine wpAnyH_take (i := 13) (v := .int .i64 (k : Int)) rfl (by kernel_rfl) (by kernel_rfl) (by kernel_rfl) (fun _ _ _ h => h) (Or.inl ⟨by rfl, fun w hSw => by have q := hSw.2.2; go_simp⟩) (by assumption) ?_
  try simp only [Act.put, List.getElem_toArray, List.getElem_cons_zero, List.getElem_cons_succ, List.setIfInBounds_toArray, List.set_cons_zero, List.set_cons_succ]
  refine wpAnyH_ready (rs := [7]) (by kernel_rfl) (by simp) (AllReadyH.cons rfl (fun K hK => ?_) AllReadyH.nil)
  go_simp
  cases hu : u.i
  case' false =>
    refine (step_key_no H.out.drew vb hu).mono ?_
    unfold thrown
    rintro e1 wz ⟨rfl, hw⟩
    refine ⟨rfl, ?_⟩
    rw [show Z = .no .u from HZ.out.trans (by rw [if_neg (by rw [hu]; decide)])]
    exact ⟨rfl, (Off.refl S w).drew.below hw⟩
  refine (step_key_yes H.out.drew vb hu).mono ?_
  rintro e1 w1 ⟨rfl, hbb⟩
  have H1 : Hid (St w1 S bb x q ⟨15, a, b, k, e⟩ n) := H.out.drew.below hbb
  have O1 : Hid (Off S w w1) := (Off.refl S w).drew.below hbb
  refine hK.out _ _ (Ist.of H1.out) (fun hHeld => ?_)
  clear hK K hbb
  try simp only [Act.put, List.getElem_toArray, List.getElem_cons_zero, List.getElem_cons_succ, List.setIfInBounds_toArray, List.set_cons_zero, List.set_cons_succ]
  refine wpAnyH_ready (rs := [14]) (by kernel_rfl) (by simp) (AllReadyH.cons rfl (fun K hK => ?_) AllReadyH.nil)
  go_simp
  cases hv : v.i
  case' false =>
    refine (step_key_no H1.out vc hv).mono ?_
    unfold thrown
    rintro e1 wz ⟨rfl, hw⟩
    refine ⟨rfl, ?_⟩
    rw [show Z = .no .u from HZ.out.trans (by rw [if_pos hu, if_neg (by rw [hv]; decide)])]
    exact ⟨rfl, O1.out.below hw⟩
  refine (step_key_yes H1.out vc hv).mono ?_
  rintro e1 w2 ⟨rfl, hbb⟩
  have H2 : Hid (St w2 S bb x q ⟨15, a, b, k, e⟩ n) := H1.out.below hbb
  have O2 : Hid (Off S w w2) := O1.out.below hbb
  refine hK.out _ _ (Ist.of H2.out) (fun hHeld => ?_)
  clear hK K hbb
  try simp only [Act.put, List.getElem_toArray, List.getElem_cons_zero, List.getElem_cons_succ, List.setIfInBounds_toArray, List.set_cons_zero, List.set_cons_succ]
  refine wpAnyH_ready (rs := [15]) (by kernel_rfl) (by simp) (AllReadyH.cons rfl (fun K hK => ?_) AllReadyH.nil)
  go_simp
  refine (keys_seal u.p u.b u.l u.a u.s v.p v.b v.l v.a v.s _ hub.2 hvb.2).mono ?_
  rintro e1 w3 ⟨rfl, hbb⟩
  have H3 : Hid (St w3 S bb x q ⟨15, a, b, k, e⟩ n) := H2.out.below hbb
  have O3 : Hid (Off S w w3) := O2.out.below hbb
  refine hK.out _ _ (Ist.of H3.out) (fun hHeld => ?_)
  clear hK K hbb
  try simp only [Act.put, List.getElem_toArray, List.getElem_cons_zero, List.getElem_cons_succ, List.setIfInBounds_toArray, List.set_cons_zero, List.set_cons_succ]
  refine wpAnyH_take (i := 16) (v := .agg #[.int .i64 (sealK u.p u.b u.l u.a u.s v.p v.b v.l v.a v.s).p, .int .i64 (sealK u.p u.b u.l u.a u.s v.p v.b v.l v.a v.s).b, .int .i64 (sealK u.p u.b u.l u.a u.s v.p v.b v.l v.a v.s).l, .int .i64 (sealK u.p u.b u.l u.a u.s v.p v.b v.l v.a v.s).a, .int .i64 (sealK u.p u.b u.l u.a u.s v.p v.b v.l v.a v.s).s]) rfl (by kernel_rfl) (by kernel_rfl) (by kernel_rfl) (fun _ _ _ h => h) (Or.inl ⟨by rfl, fun w hSw => by go_simp⟩) (by assumption) ?_
  try simp only [Act.put, List.getElem_toArray, List.getElem_cons_zero, List.getElem_cons_succ, List.setIfInBounds_toArray, List.set_cons_zero, List.set_cons_succ]
  refine wpAnyH_take (i := 17) (v := .int .i64 (sealK u.p u.b u.l u.a u.s v.p v.b v.l v.a v.s).e) rfl (by kernel_rfl) (by kernel_rfl) (by kernel_rfl) (fun _ _ _ h => h) (Or.inl ⟨by rfl, fun w hSw => by go_simp⟩) (by assumption) ?_
  try simp only [Act.put, List.getElem_toArray, List.getElem_cons_zero, List.getElem_cons_succ, List.setIfInBounds_toArray, List.set_cons_zero, List.set_cons_succ]
  refine wpAnyH_ready (rs := [18]) (by kernel_rfl) (by simp) (AllReadyH.cons rfl (fun K hK => ?_) AllReadyH.nil)
  go_simp
  by_cases he : (sealK u.p u.b u.l u.a u.s v.p v.b v.l v.a v.s).e = 0
  case' neg =>
    refine (sure_key_no _ _ _ _ _ _ he _).mono ?_
    unfold thrown
    rintro e1 wz ⟨rfl, hw⟩
    refine ⟨rfl, ?_⟩
    rw [show Z = .no (.e (sealK u.p u.b u.l u.a u.s v.p v.b v.l v.a v.s).e) from HZ.out.trans (by rw [if_pos hu, if_pos hv]; unfold keyR; rw [if_neg he])]
    exact ⟨rfl, O3.out.below hw⟩
  rw [he]
  refine (sure_key_yes _ _ _ _ _ _).mono ?_
  rintro e1 w4 ⟨rfl, hbb⟩
  have H4 : Hid (St w4 S bb x q ⟨15, a, b, k, e⟩ n) := H3.out.below hbb
  have O4 : Hid (Off S w w4) := O3.out.below hbb
  refine hK.out _ _ (Ist.of H4.out) (fun hHeld => ?_)
  clear hK K hbb
  try simp only [Act.put, List.getElem_toArray, List.getElem_cons_zero, List.getElem_cons_succ, List.setIfInBounds_toArray, List.set_cons_zero, List.set_cons_succ]
  refine wpAnyH_ready (rs := [19]) (by kernel_rfl) (by simp) (AllReadyH.cons rfl (fun K hK => ?_) AllReadyH.nil)
  go_simp
  refine (step_putkey H4.out rfl la ⟨(sealK u.p u.b u.l u.a u.s v.p v.b v.l v.a v.s).p, (sealK u.p u.b u.l u.a u.s v.p v.b v.l v.a v.s).b, (sealK u.p u.b u.l u.a u.s v.p v.b v.l v.a v.s).l, (sealK u.p u.b u.l u.a u.s v.p v.b v.l v.a v.s).a, (sealK u.p u.b u.l u.a u.s v.p v.b v.l v.a v.s).s⟩).mono ?_
  rintro e1 wf ⟨rfl, hO, hst⟩
  refine hK.out _ _ (Ist.of hst) (fun hHeld => ?_)
  clear hK K
  try simp only [Act.put, List.getElem_toArray, List.getElem_cons_zero, List.getElem_cons_succ, List.setIfInBounds_toArray, List.set_cons_zero, List.set_cons_succ]
  refine wpAnyH_done (by kernel_rfl) ?_ _
  go_wp2
  go_end0
  rw [show Z = .ok (putR x a (kV ⟨(sealK u.p u.b u.l u.a u.s v.p v.b v.l v.a v.s).p, (sealK u.p u.b u.l u.a u.s v.p v.b v.l v.a v.s).b, (sealK u.p u.b u.l u.a u.s v.p v.b v.l v.a v.s).l, (sealK u.p u.b u.l u.a u.s v.p v.b v.l v.a v.s).a, (sealK u.p u.b u.l u.a u.s v.p v.b v.l v.a v.s).s⟩)) n from HZ.out.trans (by rw [if_pos hu, if_pos hv]; unfold keyR; rw [if_pos he]; rfl)]
  exact ⟨rfl, O4.out.trans hO, _, hst⟩
set_option maxHeartbeats 2000000 in
theorem act_open (h : St w S bb x q ⟨16, a, b, k, e⟩ n) (la : a < 8) (vb : x.r[b]? = some u) (vc : x.r[k]? = some v) (hub : mvOk u) (hvb : mvOk v) :
    Calls Tryz.prog 51 #[.pointer (some ⟨S, 0, none⟩)] w fun r w' => Acts w S bb ⟨16, a, b, k, e⟩ (if u.i = true then (if v.i = true then keyR x (a : Int) (openK u.p u.b u.l u.a u.s v.p v.b v.l v.a v.s) n else .no .u) else .no .u) r w' := by
  have hio : w.cell? ⟨S, 64, none⟩ = some (.int .i64 16) := h.cells.io
  have H : Hid (St w S bb x q ⟨16, a, b, k, e⟩ n) := h
  obtain ⟨Z, hZ⟩ : ∃ Z : AR, Z = (if u.i = true then (if v.i = true then keyR x (a : Int) (openK u.p u.b u.l u.a u.s v.p v.b v.l v.a v.s) n else .no .u) else .no .u) := ⟨_, rfl⟩
  rw [← hZ]
  have HZ : Hid (Z = (if u.i = true then (if v.i = true then keyR x (a : Int) (openK u.p u.b u.l u.a u.s v.p v.b v.l v.a v.s) n else .no .u) else .no .u)) := hZ
  clear h hZ
  go_enter Tryz.func51, Tryz.ntmps51
  go_wp2
  refine wp_region_held_drew (S := Ist S (a : Int) (b : Int) (k : Int)) (by kernel_rfl) (Ist.of H.out.drew) (fun hHeld => ?_)
  refine wpAnyH_take (i := 0) (v := .pointer (some ⟨S, 0, none⟩)) rfl (by kernel_rfl) (by kernel_rfl) (by kernel_rfl) (fun _ _ _ h => h) (Or.inl ⟨by rfl, fun w hSw => by go_simp⟩) (by assumption) ?_
  try simp only [Act.put, List.getElem_toArray, List.getElem_cons_zero, List.getElem_cons_succ, List.setIfInBounds_toArray, List.set_cons_zero, List.set_cons_succ]
  refine wpAnyH_take (i := 1) (v := .pointer (some ⟨S, 0, none⟩)) rfl (by kernel_rfl) (by kernel_rfl) (by kernel_rfl) (fun _ _ _ h => h) (Or.inl ⟨by rfl, fun w hSw => by go_simp⟩) (by assumption) ?_
  try simp only [Act.put, List.getElem_toArray, List.getElem_cons_zero, List.getElem_cons_succ, List.setIfInBounds_toArray, List.set_cons_zero, List.set_cons_succ]
  refine wpAnyH_take (i := 2) (v := .pointer (some ⟨S, 0, none⟩)) rfl (by kernel_rfl) (by kernel_rfl) (by kernel_rfl) (fun _ _ _ h => h) (Or.inl ⟨by rfl, fun w hSw => by go_simp⟩) (by assumption) ?_
  try simp only [Act.put, List.getElem_toArray, List.getElem_cons_zero, List.getElem_cons_succ, List.setIfInBounds_toArray, List.set_cons_zero, List.set_cons_succ]
  refine wpAnyH_take (i := 3) (v := .pointer (some ⟨S, 0, none⟩)) rfl (by kernel_rfl) (by kernel_rfl) (by kernel_rfl) (fun _ _ _ h => h) (Or.inl ⟨by rfl, fun w hSw => by go_simp⟩) (by assumption) ?_
  try simp only [Act.put, List.getElem_toArray, List.getElem_cons_zero, List.getElem_cons_succ, List.setIfInBounds_toArray, List.set_cons_zero, List.set_cons_succ]
  refine wpAnyH_take (i := 4) (v := .pointer (some ⟨S, 64, none⟩)) rfl (by kernel_rfl) (by kernel_rfl) (by kernel_rfl) (fun _ _ _ h => h) (Or.inl ⟨by rfl, fun w hSw => by go_simp⟩) (by assumption) ?_
  try simp only [Act.put, List.getElem_toArray, List.getElem_cons_zero, List.getElem_cons_succ, List.setIfInBounds_toArray, List.set_cons_zero, List.set_cons_succ]
  refine wpAnyH_take (i := 5) (v := .pointer (some ⟨S, 66, none⟩)) rfl (by kernel_rfl) (by kernel_rfl) (by kernel_rfl) (fun _ _ _ h => h) (Or.inl ⟨by rfl, fun w hSw => by go_simp⟩) (by assumption) ?_
  try simp only [Act.put, List.getElem_toArray, List.getElem_cons_zero, List.getElem_cons_succ, List.setIfInBounds_toArray, List.set_cons_zero, List.set_cons_succ]
  refine wpAnyH_take (i := 6) (v := .int .i64 (b : Int)) rfl (by kernel_rfl) (by kernel_rfl) (by kernel_rfl) (fun _ _ _ h => h) (Or.inl ⟨by rfl, fun w hSw => by have q := hSw.2.1; go_simp⟩) (by assumption) ?_
  try simp only [Act.put, List.getElem_toArray, List.getElem_cons_zero, List.getElem_cons_succ, List.setIfInBounds_toArray, List.set_cons_zero, List.set_cons_succ]
  refine wpAnyH_take (i := 8) (v := .pointer (some ⟨S, 0, none⟩)) rfl (by kernel_rfl) (by kernel_rfl) (by kernel_rfl) (fun _ _ _ h => h) (Or.inl ⟨by rfl, fun w hSw => by go_simp⟩) (by assumption) ?_
  try simp only [Act.put, List.getElem_toArray, List.getElem_cons_zero, List.getElem_cons_succ, List.setIfInBounds_toArray, List.set_cons_zero, List.set_cons_succ]
  refine wpAnyH_take (i := 9) (v := .pointer (some ⟨S, 0, none⟩)) rfl (by kernel_rfl) (by kernel_rfl) (by kernel_rfl) (fun _ _ _ h => h) (Or.inl ⟨by rfl, fun w hSw => by go_simp⟩) (by assumption) ?_
  try simp only [Act.put, List.getElem_toArray, List.getElem_cons_zero, List.getElem_cons_succ, List.setIfInBounds_toArray, List.set_cons_zero, List.set_cons_succ]
  refine wpAnyH_take (i := 10) (v := .pointer (some ⟨S, 0, none⟩)) rfl (by kernel_rfl) (by kernel_rfl) (by kernel_rfl) (fun _ _ _ h => h) (Or.inl ⟨by rfl, fun w hSw => by go_simp⟩) (by assumption) ?_
  try simp only [Act.put, List.getElem_toArray, List.getElem_cons_zero, List.getElem_cons_succ, List.setIfInBounds_toArray, List.set_cons_zero, List.set_cons_succ]
  refine wpAnyH_take (i := 11) (v := .pointer (some ⟨S, 64, none⟩)) rfl (by kernel_rfl) (by kernel_rfl) (by kernel_rfl) (fun _ _ _ h => h) (Or.inl ⟨by rfl, fun w hSw => by go_simp⟩) (by assumption) ?_
  try simp only [Act.put, List.getElem_toArray, List.getElem_cons_zero, List.getElem_cons_succ, List.setIfInBounds_toArray, List.set_cons_zero, List.set_cons_succ]
  refine wpAnyH_take (i := 12) (v := .pointer (some ⟨S, 67, none⟩)) rfl (by kernel_rfl) (by kernel_rfl) (by kernel_rfl) (fun _ _ _ h => h) (Or.inl ⟨by rfl, fun w hSw => by go_simp⟩) (by assumption) ?_
  try simp only [Act.put, List.getElem_toArray, List.getElem_cons_zero, List.getElem_cons_succ, List.setIfInBounds_toArray, List.set_cons_zero, List.set_cons_succ]
  refine wpAnyH_take (i := 13) (v := .int .i64 (k : Int)) rfl (by kernel_rfl) (by kernel_rfl) (by kernel_rfl) (fun _ _ _ h => h) (Or.inl ⟨by rfl, fun w hSw => by have q := hSw.2.2; go_simp⟩) (by assumption) ?_
  try simp only [Act.put, List.getElem_toArray, List.getElem_cons_zero, List.getElem_cons_succ, List.setIfInBounds_toArray, List.set_cons_zero, List.set_cons_succ]
  refine wpAnyH_ready (rs := [7]) (by kernel_rfl) (by simp) (AllReadyH.cons rfl (fun K hK => ?_) AllReadyH.nil)
  go_simp
  cases hu : u.i
  case' false =>
    refine (step_key_no H.out.drew vb hu).mono ?_
    unfold thrown
    rintro e1 wz ⟨rfl, hw⟩
    refine ⟨rfl, ?_⟩
    rw [show Z = .no .u from HZ.out.trans (by rw [if_neg (by rw [hu]; decide)])]
    exact ⟨rfl, (Off.refl S w).drew.below hw⟩
  refine (step_key_yes H.out.drew vb hu).mono ?_
  rintro e1 w1 ⟨rfl, hbb⟩
  have H1 : Hid (St w1 S bb x q ⟨16, a, b, k, e⟩ n) := H.out.drew.below hbb
  have O1 : Hid (Off S w w1) := (Off.refl S w).drew.below hbb
  refine hK.out _ _ (Ist.of H1.out) (fun hHeld => ?_)
  clear hK K hbb
  try simp only [Act.put, List.getElem_toArray, List.getElem_cons_zero, List.getElem_cons_succ, List.setIfInBounds_toArray, List.set_cons_zero, List.set_cons_succ]
  refine wpAnyH_ready (rs := [14]) (by kernel_rfl) (by simp) (AllReadyH.cons rfl (fun K hK => ?_) AllReadyH.nil)
  go_simp
  cases hv : v.i
  case' false =>
    refine (step_key_no H1.out vc hv).mono ?_
    unfold thrown
    rintro e1 wz ⟨rfl, hw⟩
    refine ⟨rfl, ?_⟩
    rw [show Z = .no .u from HZ.out.trans (by rw [if_pos hu, if_neg (by rw [hv]; decide)])]
    exact ⟨rfl, O1.out.below hw⟩
  refine (step_key_yes H1.out vc hv).mono ?_
  rintro e1 w2 ⟨rfl, hbb⟩
  have H2 : Hid (St w2 S bb x q ⟨16, a, b, k, e⟩ n) := H1.out.below hbb
  have O2 : Hid (Off S w w2) := O1.out.below hbb
  refine hK.out _ _ (Ist.of H2.out) (fun hHeld => ?_)
  clear hK K hbb
  try simp only [Act.put, List.getElem_toArray, List.getElem_cons_zero, List.getElem_cons_succ, List.setIfInBounds_toArray, List.set_cons_zero, List.set_cons_succ]
  refine wpAnyH_ready (rs := [15]) (by kernel_rfl) (by simp) (AllReadyH.cons rfl (fun K hK => ?_) AllReadyH.nil)
  go_simp
  refine (keys_open u.p u.b u.l u.a u.s v.p v.b v.l v.a v.s _ hub.2 hvb.2).mono ?_
  rintro e1 w3 ⟨rfl, hbb⟩
  have H3 : Hid (St w3 S bb x q ⟨16, a, b, k, e⟩ n) := H2.out.below hbb
  have O3 : Hid (Off S w w3) := O2.out.below hbb
  refine hK.out _ _ (Ist.of H3.out) (fun hHeld => ?_)
  clear hK K hbb
  try simp only [Act.put, List.getElem_toArray, List.getElem_cons_zero, List.getElem_cons_succ, List.setIfInBounds_toArray, List.set_cons_zero, List.set_cons_succ]
  refine wpAnyH_take (i := 16) (v := .agg #[.int .i64 (openK u.p u.b u.l u.a u.s v.p v.b v.l v.a v.s).p, .int .i64 (openK u.p u.b u.l u.a u.s v.p v.b v.l v.a v.s).b, .int .i64 (openK u.p u.b u.l u.a u.s v.p v.b v.l v.a v.s).l, .int .i64 (openK u.p u.b u.l u.a u.s v.p v.b v.l v.a v.s).a, .int .i64 (openK u.p u.b u.l u.a u.s v.p v.b v.l v.a v.s).s]) rfl (by kernel_rfl) (by kernel_rfl) (by kernel_rfl) (fun _ _ _ h => h) (Or.inl ⟨by rfl, fun w hSw => by go_simp⟩) (by assumption) ?_
  try simp only [Act.put, List.getElem_toArray, List.getElem_cons_zero, List.getElem_cons_succ, List.setIfInBounds_toArray, List.set_cons_zero, List.set_cons_succ]
  refine wpAnyH_take (i := 17) (v := .int .i64 (openK u.p u.b u.l u.a u.s v.p v.b v.l v.a v.s).e) rfl (by kernel_rfl) (by kernel_rfl) (by kernel_rfl) (fun _ _ _ h => h) (Or.inl ⟨by rfl, fun w hSw => by go_simp⟩) (by assumption) ?_
  try simp only [Act.put, List.getElem_toArray, List.getElem_cons_zero, List.getElem_cons_succ, List.setIfInBounds_toArray, List.set_cons_zero, List.set_cons_succ]
  refine wpAnyH_ready (rs := [18]) (by kernel_rfl) (by simp) (AllReadyH.cons rfl (fun K hK => ?_) AllReadyH.nil)
  go_simp
  by_cases he : (openK u.p u.b u.l u.a u.s v.p v.b v.l v.a v.s).e = 0
  case' neg =>
    refine (sure_key_no _ _ _ _ _ _ he _).mono ?_
    unfold thrown
    rintro e1 wz ⟨rfl, hw⟩
    refine ⟨rfl, ?_⟩
    rw [show Z = .no (.e (openK u.p u.b u.l u.a u.s v.p v.b v.l v.a v.s).e) from HZ.out.trans (by rw [if_pos hu, if_pos hv]; unfold keyR; rw [if_neg he])]
    exact ⟨rfl, O3.out.below hw⟩
  rw [he]
  refine (sure_key_yes _ _ _ _ _ _).mono ?_
  rintro e1 w4 ⟨rfl, hbb⟩
  have H4 : Hid (St w4 S bb x q ⟨16, a, b, k, e⟩ n) := H3.out.below hbb
  have O4 : Hid (Off S w w4) := O3.out.below hbb
  refine hK.out _ _ (Ist.of H4.out) (fun hHeld => ?_)
  clear hK K hbb
  try simp only [Act.put, List.getElem_toArray, List.getElem_cons_zero, List.getElem_cons_succ, List.setIfInBounds_toArray, List.set_cons_zero, List.set_cons_succ]
  refine wpAnyH_ready (rs := [19]) (by kernel_rfl) (by simp) (AllReadyH.cons rfl (fun K hK => ?_) AllReadyH.nil)
  go_simp
  refine (step_putkey H4.out rfl la ⟨(openK u.p u.b u.l u.a u.s v.p v.b v.l v.a v.s).p, (openK u.p u.b u.l u.a u.s v.p v.b v.l v.a v.s).b, (openK u.p u.b u.l u.a u.s v.p v.b v.l v.a v.s).l, (openK u.p u.b u.l u.a u.s v.p v.b v.l v.a v.s).a, (openK u.p u.b u.l u.a u.s v.p v.b v.l v.a v.s).s⟩).mono ?_
  rintro e1 wf ⟨rfl, hO, hst⟩
  refine hK.out _ _ (Ist.of hst) (fun hHeld => ?_)
  clear hK K
  try simp only [Act.put, List.getElem_toArray, List.getElem_cons_zero, List.getElem_cons_succ, List.setIfInBounds_toArray, List.set_cons_zero, List.set_cons_succ]
  refine wpAnyH_done (by kernel_rfl) ?_ _
  go_wp2
  go_end0
  rw [show Z = .ok (putR x a (kV ⟨(openK u.p u.b u.l u.a u.s v.p v.b v.l v.a v.s).p, (openK u.p u.b u.l u.a u.s v.p v.b v.l v.a v.s).b, (openK u.p u.b u.l u.a u.s v.p v.b v.l v.a v.s).l, (openK u.p u.b u.l u.a u.s v.p v.b v.l v.a v.s).a, (openK u.p u.b u.l u.a u.s v.p v.b v.l v.a v.s).s⟩)) n from HZ.out.trans (by rw [if_pos hu, if_pos hv]; unfold keyR; rw [if_pos he]; rfl)]
  exact ⟨rfl, O4.out.trans hO, _, hst⟩
set_option maxHeartbeats 2000000 in
theorem act_call (h : St w S bb x q ⟨18, a, b, c, e⟩ n) {y : MV} (va : x.r[a]? = some u) (vb : x.r[b]? = some v) (vy : x.r[7]? = some y) (hf : q.cs = x.s.length) :
    Calls Tryz.prog 51 #[.pointer (some ⟨S, 0, none⟩)] w fun r w' => Acts w S bb ⟨18, a, b, c, e⟩ (if u.i = true then (if v.i = true then (if callE (kOf u) (kOf v) x.s.length = 0 then .ok (callM x n (kOf v) y) (open5 (kOf u)) else .no (.e (callE (kOf u) (kOf v) x.s.length))) else .no .u) else .no .u) r w' := by
  have hio : w.cell? ⟨S, 64, none⟩ = some (.int .i64 18) := h.cells.io
  have H : Hid (St w S bb x q ⟨18, a, b, c, e⟩ n) := h
  obtain ⟨Z, hZ⟩ : ∃ Z : AR, Z = (if u.i = true then (if v.i = true then (if callE (kOf u) (kOf v) x.s.length = 0 then .ok (callM x n (kOf v) y) (open5 (kOf u)) else .no (.e (callE (kOf u) (kOf v) x.s.length))) else .no .u) else .no .u) := ⟨_, rfl⟩
  rw [← hZ]
  have HZ : Hid (Z = (if u.i = true then (if v.i = true then (if callE (kOf u) (kOf v) x.s.length = 0 then .ok (callM x n (kOf v) y) (open5 (kOf u)) else .no (.e (callE (kOf u) (kOf v) x.s.length))) else .no .u) else .no .u)) := hZ
  clear h hZ
  go_enter Tryz.func51, Tryz.ntmps51
  go_wp2
  refine wp_region_held_drew (S := Ist S (a : Int) (b : Int) c) (by kernel_rfl) (Ist.of H.out.drew) (fun hHeld => ?_)
  refine wpAnyH_take (i := 0) (v := .pointer (some ⟨S, 0, none⟩)) rfl (by kernel_rfl) (by kernel_rfl) (by kernel_rfl) (fun _ _ _ h => h) (Or.inl ⟨by rfl, fun w hSw => by go_simp⟩) (by assumption) ?_
  try simp only [Act.put, List.getElem_toArray, List.getElem_cons_zero, List.getElem_cons_succ, List.setIfInBounds_toArray, List.set_cons_zero, List.set_cons_succ]
  refine wpAnyH_take (i := 1) (v := .pointer (some ⟨S, 0, none⟩)) rfl (by kernel_rfl) (by kernel_rfl) (by kernel_rfl) (fun _ _ _ h => h) (Or.inl ⟨by rfl, fun w hSw => by go_simp⟩) (by assumption) ?_
  try simp only [Act.put, List.getElem_toArray, List.getElem_cons_zero, List.getElem_cons_succ, List.setIfInBounds_toArray, List.set_cons_zero, List.set_cons_succ]
  refine wpAnyH_take (i := 2) (v := .pointer (some ⟨S, 0, none⟩)) rfl (by kernel_rfl) (by kernel_rfl) (by kernel_rfl) (fun _ _ _ h => h) (Or.inl ⟨by rfl, fun w hSw => by go_simp⟩) (by assumption) ?_
  try simp only [Act.put, List.getElem_toArray, List.getElem_cons_zero, List.getElem_cons_succ, List.setIfInBounds_toArray, List.set_cons_zero, List.set_cons_succ]
  refine wpAnyH_take (i := 3) (v := .pointer (some ⟨S, 0, none⟩)) rfl (by kernel_rfl) (by kernel_rfl) (by kernel_rfl) (fun _ _ _ h => h) (Or.inl ⟨by rfl, fun w hSw => by go_simp⟩) (by assumption) ?_
  try simp only [Act.put, List.getElem_toArray, List.getElem_cons_zero, List.getElem_cons_succ, List.setIfInBounds_toArray, List.set_cons_zero, List.set_cons_succ]
  refine wpAnyH_take (i := 4) (v := .pointer (some ⟨S, 64, none⟩)) rfl (by kernel_rfl) (by kernel_rfl) (by kernel_rfl) (fun _ _ _ h => h) (Or.inl ⟨by rfl, fun w hSw => by go_simp⟩) (by assumption) ?_
  try simp only [Act.put, List.getElem_toArray, List.getElem_cons_zero, List.getElem_cons_succ, List.setIfInBounds_toArray, List.set_cons_zero, List.set_cons_succ]
  refine wpAnyH_take (i := 5) (v := .pointer (some ⟨S, 65, none⟩)) rfl (by kernel_rfl) (by kernel_rfl) (by kernel_rfl) (fun _ _ _ h => h) (Or.inl ⟨by rfl, fun w hSw => by go_simp⟩) (by assumption) ?_
  try simp only [Act.put, List.getElem_toArray, List.getElem_cons_zero, List.getElem_cons_succ, List.setIfInBounds_toArray, List.set_cons_zero, List.set_cons_succ]
  refine wpAnyH_take (i := 6) (v := .int .i64 (a : Int)) rfl (by kernel_rfl) (by kernel_rfl) (by kernel_rfl) (fun _ _ _ h => h) (Or.inl ⟨by rfl, fun w hSw => by have q := hSw.1; go_simp⟩) (by assumption) ?_
  try simp only [Act.put, List.getElem_toArray, List.getElem_cons_zero, List.getElem_cons_succ, List.setIfInBounds_toArray, List.set_cons_zero, List.set_cons_succ]
  refine wpAnyH_take (i := 8) (v := .pointer (some ⟨S, 0, none⟩)) rfl (by kernel_rfl) (by kernel_rfl) (by kernel_rfl) (fun _ _ _ h => h) (Or.inl ⟨by rfl, fun w hSw => by go_simp⟩) (by assumption) ?_
  try simp only [Act.put, List.getElem_toArray, List.getElem_cons_zero, List.getElem_cons_succ, List.setIfInBounds_toArray, List.set_cons_zero, List.set_cons_succ]
  refine wpAnyH_take (i := 9) (v := .pointer (some ⟨S, 0, none⟩)) rfl (by kernel_rfl) (by kernel_rfl) (by kernel_rfl) (fun _ _ _ h => h) (Or.inl ⟨by rfl, fun w hSw => by go_simp⟩) (by assumption) ?_
  try simp only [Act.put, List.getElem_toArray, List.getElem_cons_zero, List.getElem_cons_succ, List.setIfInBounds_toArray, List.set_cons_zero, List.set_cons_succ]
  refine wpAnyH_take (i := 10) (v := .pointer (some ⟨S, 0, none⟩)) rfl (by kernel_rfl) (by kernel_rfl) (by kernel_rfl) (fun _ _ _ h => h) (Or.inl ⟨by rfl, fun w hSw => by go_simp⟩) (by assumption) ?_
  try simp only [Act.put, List.getElem_toArray, List.getElem_cons_zero, List.getElem_cons_succ, List.setIfInBounds_toArray, List.set_cons_zero, List.set_cons_succ]
  refine wpAnyH_take (i := 11) (v := .pointer (some ⟨S, 64, none⟩)) rfl (by kernel_rfl) (by kernel_rfl) (by kernel_rfl) (fun _ _ _ h => h) (Or.inl ⟨by rfl, fun w hSw => by go_simp⟩) (by assumption) ?_
  try simp only [Act.put, List.getElem_toArray, List.getElem_cons_zero, List.getElem_cons_succ, List.setIfInBounds_toArray, List.set_cons_zero, List.set_cons_succ]
  refine wpAnyH_take (i := 12) (v := .pointer (some ⟨S, 66, none⟩)) rfl (by kernel_rfl) (by kernel_rfl) (by kernel_rfl) (fun _ _ _ h => h) (Or.inl ⟨by rfl, fun w hSw => by go_simp⟩) (by assumption) ?_
  try simp only [Act.put, List.getElem_toArray, List.getElem_cons_zero, List.getElem_cons_succ, List.setIfInBounds_toArray, List.set_cons_zero, List.set_cons_succ]
  refine wpAnyH_take (i := 13) (v := .int .i64 (b : Int)) rfl (by kernel_rfl) (by kernel_rfl) (by kernel_rfl) (fun _ _ _ h => h) (Or.inl ⟨by rfl, fun w hSw => by have q := hSw.2.1; go_simp⟩) (by assumption) ?_
  try simp only [Act.put, List.getElem_toArray, List.getElem_cons_zero, List.getElem_cons_succ, List.setIfInBounds_toArray, List.set_cons_zero, List.set_cons_succ]
  refine wpAnyH_ready (rs := [7]) (by kernel_rfl) (by simp) (AllReadyH.cons rfl (fun K hK => ?_) AllReadyH.nil)
  go_simp
  cases hu : u.i
  case' false =>
    refine (step_key_no H.out.drew va hu).mono ?_
    unfold thrown
    rintro e1 wz ⟨rfl, hw⟩
    refine ⟨rfl, ?_⟩
    rw [show Z = .no .u from HZ.out.trans (by rw [if_neg (by rw [hu]; decide)])]
    exact ⟨rfl, (Off.refl S w).drew.below hw⟩
  refine (step_key_yes H.out.drew va hu).mono ?_
  rintro e1 w1 ⟨rfl, hbb⟩
  have H1 : Hid (St w1 S bb x q ⟨18, a, b, c, e⟩ n) := H.out.drew.below hbb
  have O1 : Hid (Off S w w1) := (Off.refl S w).drew.below hbb
  refine hK.out _ _ (Ist.of H1.out) (fun hHeld => ?_)
  clear hK K hbb
  try simp only [Act.put, List.getElem_toArray, List.getElem_cons_zero, List.getElem_cons_succ, List.setIfInBounds_toArray, List.set_cons_zero, List.set_cons_succ]
  refine wpAnyH_ready (rs := [14]) (by kernel_rfl) (by simp) (AllReadyH.cons rfl (fun K hK => ?_) AllReadyH.nil)
  go_simp
  cases hv : v.i
  case' false =>
    refine (step_key_no H1.out vb hv).mono ?_
    unfold thrown
    rintro e1 wz ⟨rfl, hw⟩
    refine ⟨rfl, ?_⟩
    rw [show Z = .no .u from HZ.out.trans (by rw [if_pos hu, if_neg (by rw [hv]; decide)])]
    exact ⟨rfl, O1.out.below hw⟩
  refine (step_key_yes H1.out vb hv).mono ?_
  rintro e1 w2 ⟨rfl, hbb⟩
  have H2 : Hid (St w2 S bb x q ⟨18, a, b, c, e⟩ n) := H1.out.below hbb
  have O2 : Hid (Off S w w2) := O1.out.below hbb
  refine hK.out _ _ (Ist.of H2.out) (fun hHeld => ?_)
  clear hK K hbb
  try simp only [Act.put, List.getElem_toArray, List.getElem_cons_zero, List.getElem_cons_succ, List.setIfInBounds_toArray, List.set_cons_zero, List.set_cons_succ]
  refine wpAnyH_ready (rs := [15]) (by kernel_rfl) (by simp) (AllReadyH.cons rfl (fun K hK => ?_) AllReadyH.nil)
  go_simp
  by_cases he : callE (kOf u) (kOf v) x.s.length = 0
  case' neg =>
    refine (step_call_no H2.out (kOf u) (kOf v) he).mono ?_
    unfold thrown
    rintro e1 wz ⟨rfl, hw⟩
    refine ⟨rfl, ?_⟩
    rw [show Z = .no (.e (callE (kOf u) (kOf v) x.s.length)) from HZ.out.trans (by rw [if_pos hu, if_pos hv, if_neg he])]
    exact ⟨rfl, O2.out.below hw⟩
  refine (step_call_yes H2.out (kOf u) (kOf v) he vy hf).mono ?_
  rintro e1 wf ⟨rfl, hO, q', hst⟩
  refine hK.out _ _ (Ist.of hst) (fun hHeld => ?_)
  clear hK K
  try simp only [Act.put, List.getElem_toArray, List.getElem_cons_zero, List.getElem_cons_succ, List.setIfInBounds_toArray, List.set_cons_zero, List.set_cons_succ]
  refine wpAnyH_done (by kernel_rfl) ?_ _
  go_wp2
  go_end0
  rw [show Z = .ok (callM x n (kOf v) y) (open5 (kOf u)) from HZ.out.trans (by rw [if_pos hu, if_pos hv, if_pos he])]
  exact ⟨rfl, O2.out.trans hO, _, hst⟩
end
end Go.Proofs.YtlfeglljpfihhaaGreatDoor
