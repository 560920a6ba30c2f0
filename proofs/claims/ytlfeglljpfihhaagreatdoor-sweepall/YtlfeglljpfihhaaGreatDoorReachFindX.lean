/- package reach: find, findIn, seek: all that is come to is held. -/
import Derived.Test.YtlfeglljpfihhaaGreatDoorRows
import Derived.Test.YtlfeglljpfihhaaGreatDoorCardBaseX
import Derived.Test.YtlfeglljpfihhaaGreatDoorValArgX
import Derived.Test.YtlfeglljpfihhaaGreatDoorCellChkX
import Derived.Test.YtlfeglljpfihhaaGreatDoorMemPureX
import Derived.Test.YtlfeglljpfihhaaGreatDoorStepRowX
import Derived.Test.YtlfeglljpfihhaaGreatDoorStepChkX
import Derived.Test.YtlfeglljpfihhaaGreatDoorRunTopX
import Derived.Test.YtlfeglljpfihhaaGreatDoorSweepPureX
import Derived.Test.YtlfeglljpfihhaaGreatDoorReachAddX
import Derived.WalkKit
import Derived.ProofKit
import Derived.OpenShut
import Derived.OwnWalk
import Derived.Maps.OwnOps
import Derived.Deep.MidRow
import Derived.Deep.CutBlock
import Derived.Deep.RegionHeld3
namespace Go.Proofs.YtlfeglljpfihhaaGreatDoor
open Go.ChangeShapes Go.WideShapes Go.ChangeAt Go.RowKit
set_option linter.unusedSimpArgs false
set_option linter.unusedVariables false
set_option maxRecDepth 100000


theorem off_drew {S : Nat} {a b : World} (h : Off S a b) : Off S a b.drew := h.drew
theorem kys_take {vs : List MV} {k : Nat} {v : MV} (hv : vs[k]? = some v) (j : K5) : j ∈ kysL (vs.take (k + 1)) ↔ j ∈ kysL (vs.take k) ∨ (v.i = true ∧ j = vK v) := by
  rw [mem_kys, mem_kys, List.take_add_one, hv]
  simp only [Option.toList_some, List.mem_append, List.mem_singleton]
  constructor
  · rintro ⟨u, hu | rfl, h1, h2⟩
    · exact .inl ⟨u, hu, h1, h2⟩
    · exact .inr ⟨h1, h2⟩
  · rintro (⟨u, hu, h1, h2⟩ | ⟨h1, h2⟩)
    · exact ⟨u, .inl hu, h1, h2⟩
    · exact ⟨v, .inr rfl, h1, h2⟩
/-- What stands behind a search: of s comes s', T being looked for; the map alone is another one. -/
def FPost (M : List MV) (d : Bool) (U : List K5) (B N : Nat) (s : K5 → Bool) (T : K5 → Prop) (w w' : World) : Prop :=
  ∃ n' s', KMap w' B n' s' ∧ n' + cntN s' U ≤ N ∧ Gr M d (fun k => s k = true) (fun k => s' k = true) T ∧ Off B w w'
/-- A machine's memory, and all its keys. -/
structure RCtx (M : List MV) (U : List K5) (cm N : Nat) : Prop where
  ok : ∀ k ∈ U, ok5 k
  mem : ∀ k ∈ kysL M, k ∈ U
  lm : M.length ≤ cm
  cm : cm ≤ maxLen
  N : N < maxLen
def FindC (M : List MV) (d : Bool) (U : List K5) (B N : Nat) (sm : Option Addr) (cm m : Nat) : Prop :=
  ∀ (k : K5) (w : World) (n : Nat) (s : K5 → Bool), k ∈ U → cntN s U ≤ m → n + cntN s U ≤ N → KMap w B n s → (∀ W, Off B w W → ValsAt W sm M) →
    Calls Tryz.prog 28 #[.agg #[.map (some B), .slice sm M.length cm, .bool d], kV5 k] w fun e w' => e = .returned (.tuple #[]) ∧ FPost M d U B N s (fun j => j = k) w w'
def FindInC (M : List MV) (d : Bool) (U : List K5) (B N : Nat) (sm : Option Addr) (cm m : Nat) : Prop :=
  ∀ (vs : List MV) (p : Option Addr) (cp : Nat) (w : World) (n : Nat) (s : K5 → Bool), (∀ k ∈ kysL vs, k ∈ U) → vs.length ≤ maxLen → cntN s U ≤ m → n + cntN s U ≤ N → KMap w B n s → (∀ W, Off B w W → ValsAt W sm M) → (∀ W, Off B w W → ValsAt W p vs) →
    Calls Tryz.prog 27 #[.agg #[.map (some B), .slice sm M.length cm, .bool d], .slice p vs.length cp] w fun e w' => e = .returned (.tuple #[]) ∧ FPost M d U B N s (fun j => j ∈ kysL vs) w w'
theorem kmap_below {w w' : World} {B n : Nat} {s : K5 → Bool} (h : KMap w B n s) (hb : Below w.heap.size w w') : KMap w' B n s := h.below hb
theorem off_of_below {S : Nat} {w w' : World} (hb : Below w.heap.size w w') : Off S w w' := (Off.refl _ _).below hb
theorem ok5_b {k : K5} (h : ok5 k) : k5b k := by
  have := ok5_lit h
  unfold k5b kb
  omega
set_option maxHeartbeats 4000000 in
theorem fin_of (M : List MV) (d : Bool) (U : List K5) (B N : Nat) (sm : Option Addr) (cm m : Nat) (hC : RCtx M U cm N) (hF : FindC M d U B N sm cm m) : FindInC M d U B N sm cm m := by
  intro vs p cp w n s hvs hlen hc hN hM hS hV
  have HF : Hid (FindC M d U B N sm cm m) := hF
  have HV : Hid (∀ W, Off B w W → ValsAt W p vs) := hV
  have HS : Hid (∀ W, Off B w W → ValsAt W sm M) := hS
  have HU : Hid (∀ k ∈ kysL vs, k ∈ U) := hvs
  have hBl := hM.lt
  have bS := Box.new w #[.map (some B), .slice sm M.length cm, .bool d] 53
  have hO1 : Off B w (w.alloc (.cells #[.map (some B), .slice sm M.length cm, .bool d] 53)) := (Off.refl _ _).alloc _
  have hM1 : KMap (w.alloc (.cells #[.map (some B), .slice sm M.length cm, .bool d] 53)) B n s := hM.below ((Below.refl _ _).alloc (Nat.le_refl _) _)
  have hlm : M.length ≤ maxLen := Nat.le_trans hC.lm hC.cm
  unfold maxLen at hlen hlm
  clear hF hV hS hvs hM hC
  go_enter Tryz.func27, Tryz.ntmps27
  go_upto_region 2 with fail
  obtain ⟨w0, hw0⟩ : ∃ w0, w0 = w.alloc (.cells #[.map (some B), .slice sm M.length cm, .bool d] 53) := ⟨_, rfl⟩
  have hsz0 : w.heap.size < w0.heap.size := by rw [hw0]; simp
  rw [← hw0] at bS hO1 hM1 ⊢
  clear hw0
  go_loopw [8] (fun i wr => ∃ k : Nat, k ≤ vs.length ∧ i = .int .i64 (k : Int) ∧ Off B w wr ∧ Box wr w.heap.size #[.map (some B), .slice sm M.length cm, .bool d] ∧ ∃ n' s', KMap wr B n' s' ∧ n' + cntN s' U ≤ N ∧ cntN s' U ≤ m ∧ Gr M d (fun k => s k = true) (fun k => s' k = true) (fun j => j ∈ kysL (vs.take k))) (fun i _ => vs.length - (intOf i).toNat)
  case atStart => exact ⟨0, Nat.zero_le _, rfl, hO1, bS, n, s, hM1, hN, hc, .refl (fun k hk => by rw [List.take_zero] at hk; cases hk)⟩
  case round =>
    clear hM1 hO1 bS hN hc
    obtain ⟨k, hk, rfl, hO, bS, n', s', hM, hN, hc, hG⟩ := hrel
    have HG : Hid (Gr M d (fun k => s k = true) (fun k => s' k = true) (fun j => j ∈ kysL (vs.take k))) := hG
    clear hG
    have qS := bS.cell
    have dS : w.heap.size ≠ B := by omega
    have lS := bS.lt
    by_cases hlt : k < vs.length
    · have gk : (k : Int) < (vs.length : Int) := by omega
      have hw1 : IntKind.i64.wrap ((k : Int) + 1) = (k : Int) + 1 := by rw [IntKind.wrap_i64]; omega
      obtain ⟨v, hv⟩ : ∃ v, vs[k]? = some v := ⟨_, List.getElem?_eq_getElem hlt⟩
      obtain ⟨BB, off, rfl, hBl2, c0, c1, c2, c3, c4, c5, c6⟩ := (HV.out _ hO).at hv
      obtain ⟨VI, vn, vp, vbb, vl, va, vs5⟩ := v
      dsimp only at c0 c1 c2 c3 c4 c5 c6
      have hB1 : ∀ x, Below wr.heap.size wr (wr.alloc x) := fun x => (Below.refl _ _).alloc (Nat.le_refl _) _
      have Ht : Hid (vs[k]? = some ⟨VI, vn, vp, vbb, vl, va, vs5⟩) := hv
      clear hv
      cases VI
      · have hO2 : ∀ x, Off B w (wr.alloc x) := fun x => hO.alloc _
        have hM2 : ∀ x, KMap (wr.alloc x) B n' s' := fun x => hM.below (hB1 x)
        have b2 : ∀ x, Box (wr.alloc x) w.heap.size #[.map (some B), .slice sm M.length cm, .bool d] := fun x => bS.alloc x
        clear hM hO bS hB1
        go_wp2
        go_roundw
        case rel => exact ⟨k + 1, by omega, rfl, hO2 _, b2 _, n', s', hM2 _, hN, hc, HG.out.cast (fun j => by rw [kys_take Ht.out]; simp)⟩
        case measure => simp [intOf]; omega
      · have cF := fun W (hM' : KMap W B n' s') (hO' : Off B w W) => HF.out ⟨vp, vbb, vl, va, vs5⟩ W n' s' (HU.out _ (mem_kys.2 ⟨_, List.mem_of_getElem? Ht.out, rfl, rfl⟩)) hc hN hM' (fun W' h' => HS.out W' (hO'.trans h'))
        unfold kV5 at cF
        dsimp only at cF
        have hO2 : ∀ x, Off B w (wr.alloc x) := fun x => hO.alloc _
        have hM2 : ∀ x, KMap (wr.alloc x) B n' s' := fun x => hM.below (hB1 x)
        have b2 : ∀ x, Box (wr.alloc x) w.heap.size #[.map (some B), .slice sm M.length cm, .bool d] := fun x => bS.alloc x
        clear hM hO bS hB1
        go_wp2_with (go_at_call 28; refine (cF _ (hM2 _) (hO2 _)).mono ?_; rintro e w2 ⟨rfl, hP⟩; have HP : Hid (FPost M d U B N s' (fun j => j = ⟨vp, vbb, vl, va, vs5⟩) _ w2) := hP; clear hP)
        obtain ⟨n2, s2, g1, g2, g3, g4⟩ := HP.out
        go_roundw
        case rel =>
          refine ⟨k + 1, by omega, rfl, (hO2 _).trans g4, g4.box (b2 _) dS, n2, s2, g1, g2, Nat.le_trans (cnt_le g3.sub U) hc, HG.out.trans g3 (fun j => ?_)⟩
          rw [kys_take Ht.out]
          simp [vK]
        case measure => simp [intOf]; omega
    · obtain rfl : k = vs.length := by omega
      have gk : ¬ (vs.length : Int) < (vs.length : Int) := by omega
      clear HF HS HU
      go_wp2
      go_end0
      exact ⟨rfl, n', s', hM, hN, HG.out.cast (fun j => by rw [List.take_length]), hO⟩
set_option maxHeartbeats 4000000 in
theorem find_of (M : List MV) (d : Bool) (U : List K5) (B N : Nat) (sm : Option Addr) (cm m : Nat) (hC : RCtx M U cm N) (hI : ∀ m', m' < m → FindInC M d U B N sm cm m') : FindC M d U B N sm cm m := by
  intro k w n s hk hc hN hM hS
  have hok := hC.ok k hk
  have hkb := ok5_b hok
  have hBl := hM.lt
  have bS := Box.new w #[.map (some B), .slice sm M.length cm, .bool d] 53
  have hOk : ∀ x y, Off B w ((w.alloc x).alloc y) := fun x y => ((Off.refl _ _).alloc _).alloc _
  have hM1 : ∀ x y, KMap ((w.alloc x).alloc y) B n s := fun x y => hM.below (two x y)
  have hn : n < maxLen := by have := hC.N; omega
  have bK := Box.new1 w (.cells #[.map (some B), .slice sm M.length cm, .bool d] 53) #[.int .i64 k.p, .int .i64 k.b, .int .i64 k.l, .int .i64 k.a, .int .i64 k.s] 23
  replace bS := bS.alloc (.cells #[.int .i64 k.p, .int .i64 k.b, .int .i64 k.l, .int .i64 k.a, .int .i64 k.s] 23)
  have hO1 := hOk (.cells #[.map (some B), .slice sm M.length cm, .bool d] 53) (.cells #[.int .i64 k.p, .int .i64 k.b, .int .i64 k.l, .int .i64 k.a, .int .i64 k.s] 23)
  have hM2 := hM1 (.cells #[.map (some B), .slice sm M.length cm, .bool d] 53) (.cells #[.int .i64 k.p, .int .i64 k.b, .int .i64 k.l, .int .i64 k.a, .int .i64 k.s] 23)
  have hlm : M.length ≤ maxLen := Nat.le_trans hC.lm hC.cm
  clear hOk hM1
  have HW : Hid (((w.alloc (.cells #[.map (some B), .slice sm M.length cm, .bool d] 53)).alloc (.cells #[.int .i64 k.p, .int .i64 k.b, .int .i64 k.l, .int .i64 k.a, .int .i64 k.s] 23)).heap.size = w.heap.size + 1 + 1) := by simp [Hid]
  cases hsk : s k
  · have cA := fun W hMW => reach_add_new k B n s W hMW hkb hsk hn
    have cV := fun W => reach_serves (.map (some B)) sm M.length cm d k 9 W
    unfold kV5 at cA cV ⊢
    have HC : Hid (RCtx M U cm N) := hC
    have HI : Hid (∀ m', m' < m → FindInC M d U B N sm cm m') := hI
    have HS : Hid (∀ W, Off B w W → ValsAt W sm M) := hS
    cases hsv : srvB d k 9
    · rw [hsv] at cV
      clear hC hI hS hM hlm
      go_enter Tryz.func28, Tryz.ntmps28
      go_wp2_with (first | (go_at_call 52; refine (cA _ hM2).mono ?_; rintro e w2 ⟨rfl, hP⟩; have HP : Hid (∃ s', KMap w2 B (n + 1) s' ∧ (∀ j, s' j = true ↔ s j = true ∨ j = k) ∧ Off B _ w2) := hP; have b2 : Box w2 w.heap.size _ := (by obtain ⟨_, _, _, g⟩ := HP.out; exact g.box bS (by omega)); have bk2 : Box w2 (w.heap.size + 1) _ := (by obtain ⟨_, _, _, g⟩ := HP.out; exact g.box bK (by omega)); have q2 := b2.cell; have qk2 := bk2.cell; clear hP) | (go_at_call 53; refine (cV _).mono ?_; rintro e w3 ⟨rfl, hbb⟩))
      go_end0
      obtain ⟨s2, g1, g2, g3⟩ := HP.out
      have hle : cntN s2 U < cntN s U := cnt_lt (fun j hj => (g2 j).2 (.inl hj)) hsk ((g2 k).2 (.inr rfl)) U hk
      refine ⟨rfl, n + 1, s2, g1.below hbb, by omega, Gr.leaf g2 (fun c hc => ?_), hO1.trans (g3.below hbb)⟩
      have hno : ¬ (srvB d k 9 = true) := by rw [hsv]; decide
      refine hno ?_
      unfold srvB
      rcases hc.1 with h1 | h1 <;> simp [h1, hc.2.1]
    · rw [hsv] at cV
      go_enter Tryz.func28, Tryz.ntmps28
      go_upto_region 2 with (first | (go_at_call 52; refine (cA _ hM2).mono ?_; rintro e w2 ⟨rfl, hP⟩; have HP : Hid (∃ s', KMap w2 B (n + 1) s' ∧ (∀ j, s' j = true ↔ s j = true ∨ j = k) ∧ Off B _ w2) := hP; have b2 : Box w2 w.heap.size _ := (by obtain ⟨_, _, _, g⟩ := HP.out; exact g.box bS (by omega)); have bk2 : Box w2 (w.heap.size + 1) _ := (by obtain ⟨_, _, _, g⟩ := HP.out; exact g.box bK (by omega)); have q2 := b2.cell; have qk2 := bk2.cell; clear hP) | (go_at_call 53; refine (cV _).mono ?_; rintro e w3 ⟨rfl, hbb⟩))
      obtain ⟨s2, g1, g2, g3⟩ := HP.out
      have hle : cntN s2 U < cntN s U := cnt_lt (fun j hj => (g2 j).2 (.inl hj)) hsk ((g2 k).2 (.inr rfl)) U hk
      replace b2 := b2.below hbb
      replace bk2 := bk2.below hbb
      replace hM2 := g1.below hbb
      have hOw : Off B w w3 := hO1.trans (g3.below hbb)
      have hsrv : Cnt d k ∧ inB 9 k.p = true := by
        unfold srvB at hsv
        rw [Bool.and_eq_true, Bool.or_eq_true] at hsv
        exact ⟨hsv.1.imp (fun h => by simpa using h) id, hsv.2⟩
      have hk' := ok5_lit hok
      have hS3 : ∀ W, Off B w W → ValsAt W sm M := HS.out
      have cC := fun W hV => reach_cut (.map (some B)) sm cm d M k W hok hV HC.out.lm HC.out.cm
      have cI := fun a c' W (hM' : KMap W B (n + 1) s2) (hO' : Off B w W) (hcut : ∀ W, ValsAt W sm M → ValsAt W a (cutL M k)) => HI.out (cntN s2 U) (by omega) (cutL M k) a c' W (n + 1) s2 (fun j hj => by
        obtain ⟨v, hv, h1, h2⟩ := mem_kys.1 hj
        obtain ⟨jj, hj1, hj2⟩ := (mem_cut hk'.2.2.2.1 hk'.2.2.1).1 hv
        exact HC.out.mem _ (mem_kys.2 ⟨v, List.mem_of_getElem? hj2, h1, h2⟩)) (by rw [cut_len M k hk'.2.2.2.1 hk'.2.2.1]; unfold maxLen; omega) (Nat.le_refl _) (by omega) hM' (fun W' h' => HS.out W' (hO'.trans h')) (fun W' h' => hcut W' (HS.out W' (hO'.trans h')))
      unfold kV5 at cC
      clear HP g1 g3 hbb cA cV q2 qk2 hS hI hC HI bS bK hO1 hlm
      refine wp_region_held_drew (S := fun w' => Box w' w.heap.size #[.map (some B), .slice sm M.length cm, .bool d] ∧ Box w' (w.heap.size + 1) #[.int .i64 k.p, .int .i64 k.b, .int .i64 k.l, .int .i64 k.a, .int .i64 k.s]) (by kernel_rfl) ⟨b2.drew, bk2.drew⟩ (fun hHeld => ?_)
      refine wpAnyH_take (i := 0) (v := ?_) rfl (by kernel_rfl) (by kernel_rfl) (by kernel_rfl) (fun _ _ _ h => h) (Or.inl ⟨by rfl, ?_⟩) (by assumption) ?_
      rotate_left 1
      · intro wz hSw; obtain ⟨⟨_, q1, _⟩, ⟨_, q2, _⟩⟩ := hSw; go_simp; try with_reducible rfl
      try simp only [Act.put, List.getElem_toArray, List.getElem_cons_zero, List.getElem_cons_succ, List.setIfInBounds_toArray, List.set_cons_zero, List.set_cons_succ]
      refine wpAnyH_take (i := 1) (v := ?_) rfl (by kernel_rfl) (by kernel_rfl) (by kernel_rfl) (fun _ _ _ h => h) (Or.inl ⟨by rfl, ?_⟩) (by assumption) ?_
      rotate_left 1
      · intro wz hSw; obtain ⟨⟨_, q1, _⟩, ⟨_, q2, _⟩⟩ := hSw; go_simp; try with_reducible rfl
      try simp only [Act.put, List.getElem_toArray, List.getElem_cons_zero, List.getElem_cons_succ, List.setIfInBounds_toArray, List.set_cons_zero, List.set_cons_succ]
      refine wpAnyH_take (i := 2) (v := ?_) rfl (by kernel_rfl) (by kernel_rfl) (by kernel_rfl) (fun _ _ _ h => h) (Or.inl ⟨by rfl, ?_⟩) (by assumption) ?_
      rotate_left 1
      · intro wz hSw; obtain ⟨⟨_, q1, _⟩, ⟨_, q2, _⟩⟩ := hSw; go_simp; try with_reducible rfl
      try simp only [Act.put, List.getElem_toArray, List.getElem_cons_zero, List.getElem_cons_succ, List.setIfInBounds_toArray, List.set_cons_zero, List.set_cons_succ]
      refine wpAnyH_ready (rs := [3]) (by kernel_rfl) (by simp) (AllReadyH.cons rfl (fun K hK => ?_) AllReadyH.nil)
      go_simp
      go_at_call 54
      refine (cC _ (hS3 _ (hOw.drew))).mono ?_
      rintro e w4 ⟨⟨a, c', rfl, hcut⟩, hbb⟩
      have b4 := b2.drew.below hbb
      have k4 := bk2.drew.below hbb
      have hM4 := hM2.below (Below.step0 (below_drew _) hbb)
      have hO4 := hOw.below (Below.step0 (below_drew _) hbb)
      clear hbb
      refine hK.out _ _ ⟨b4, k4⟩ (fun hHeld => ?_)
      try simp only [Act.put, List.getElem_toArray, List.getElem_cons_zero, List.getElem_cons_succ, List.setIfInBounds_toArray, List.set_cons_zero, List.set_cons_succ]
      refine wpAnyH_ready (rs := [4]) (by kernel_rfl) (by simp) (AllReadyH.cons rfl (fun K hK => ?_) AllReadyH.nil)
      go_simp
      go_at_call 27
      refine (cI a c' w4 hM4 hO4 hcut).mono ?_
      rintro e w5 ⟨rfl, hP⟩
      have HP : Hid (FPost M d U B N s2 (fun j => j ∈ kysL (cutL M k)) w4 w5) := hP
      have HS5 : Box w5 w.heap.size _ ∧ Box w5 (w.heap.size + 1) _ := (by obtain ⟨_, _, _, _, _, g4⟩ := HP.out; exact ⟨g4.box b4 (by omega), g4.box k4 (by omega)⟩)
      clear hP
      refine hK.out _ _ HS5 (fun hHeld => ?_)
      try simp only [Act.put, List.getElem_toArray, List.getElem_cons_zero, List.getElem_cons_succ, List.setIfInBounds_toArray, List.set_cons_zero, List.set_cons_succ]
      refine wpAnyH_done (by kernel_rfl) ?_ _
      go_wp2
      go_end0
      obtain ⟨n5, s5, f1, f2, f3, f4⟩ := HP.out
      refine ⟨rfl, n5, s5, f1, f2, Gr.node g2 (f3.cast (fun j => chd_cut hk'.2.2.2.1 hk'.2.2.1 hsrv.1 hsrv.2 j)), hO4.trans f4⟩
  · have cA := fun W hMW => reach_add_old k B n s W hMW hkb hsk
    unfold kV5 at cA ⊢
    have HC : Hid (RCtx M U cm N) := hC
    clear hC hI hS hM hlm
    go_enter Tryz.func28, Tryz.ntmps28
    go_wp2_with (go_at_call 52; refine (cA _ hM2).mono ?_; rintro e w2 ⟨rfl, hbb⟩)
    go_end0
    exact ⟨rfl, n, s, hM2.below hbb, hN, .refl (fun j hj => by rw [hj]; exact hsk), hO1.below hbb⟩
theorem find_all (M : List MV) (d : Bool) (U : List K5) (B N : Nat) (sm : Option Addr) (cm : Nat) (hC : RCtx M U cm N) (m : Nat) : FindC M d U B N sm cm m := by
  induction m using Nat.strongRecOn with
  | ind m ih => exact find_of M d U B N sm cm m hC fun m' h => fin_of M d U B N sm cm m' hC (ih m' h)
theorem fin_all (M : List MV) (d : Bool) (U : List K5) (B N : Nat) (sm : Option Addr) (cm : Nat) (hC : RCtx M U cm N) (m : Nat) : FindInC M d U B N sm cm m := fin_of M d U B N sm cm m hC (find_all M d U B N sm cm hC m)
end Go.Proofs.YtlfeglljpfihhaaGreatDoor
