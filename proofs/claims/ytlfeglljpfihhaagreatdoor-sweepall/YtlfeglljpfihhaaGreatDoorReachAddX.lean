/- package reach: a key is held, whether it serves, its cells, how two are ordered. -/
import Derived.Test.YtlfeglljpfihhaaGreatDoorRows
import Derived.Test.YtlfeglljpfihhaaGreatDoorCardBaseX
import Derived.Test.YtlfeglljpfihhaaGreatDoorValArgX
import Derived.Test.YtlfeglljpfihhaaGreatDoorCellChkX
import Derived.Test.YtlfeglljpfihhaaGreatDoorMemPureX
import Derived.Test.YtlfeglljpfihhaaGreatDoorStepRowX
import Derived.Test.YtlfeglljpfihhaaGreatDoorRunTopX
import Derived.Test.YtlfeglljpfihhaaGreatDoorSweepPureX
import Derived.WalkKit
import Derived.ProofKit
import Derived.OpenShut
import Derived.OwnWalk
import Derived.Maps.OwnOps
import Derived.Deep.MidRow
import Derived.Deep.CutBlock
import Derived.Deep.RegionHeld3
namespace Go.Proofs.YtlfeglljpfihhaaGreatDoor
open Go.ChangeShapes Go.WideShapes Go.ChangeAt Go.RowKit
set_option linter.unusedSimpArgs false
set_option linter.unusedVariables false
set_option maxRecDepth 100000

theorem zero_unit (w : World) : (zeroValue 100).run Tryz.prog w = .ok (.agg #[]) w := by kernel_rfl
set_option maxHeartbeats 1000000 in
theorem reach_add_old (k : K5) (B n : Nat) (s : K5 → Bool) (w : World) (h : KMap w B n s) (hk : k5b k) (hs : s k = true) :
    Calls Tryz.prog 52 #[.map (some B), kV5 k] w fun e w' => e = .returned (.bool false) ∧ Below w.heap.size w w' := by
  have h1 : KMap (w.alloc (.cells #[.int .i64 k.p, .int .i64 k.b, .int .i64 k.l, .int .i64 k.a, .int .i64 k.s] 23)) B n s := h.below ((Below.refl _ _).alloc (Nat.le_refl _) _)
  unfold kV5
  go_enter Tryz.func52, Tryz.ntmps52
  go_wp2_with (at_lookup; refine wpK_look _ rfl _ _ 51 rfl 100 Tryz.underlying51 (zero_unit _) B n s k rfl h1 rfl hk ?_; rw [hs])
  go_ret
  exact ⟨rfl, two _ _⟩
set_option maxHeartbeats 1000000 in
theorem reach_add_new (k : K5) (B n : Nat) (s : K5 → Bool) (w : World) (h : KMap w B n s) (hk : k5b k) (hs : s k = false) (hn : n < maxLen) :
    Calls Tryz.prog 52 #[.map (some B), kV5 k] w fun e w' => e = .returned (.bool true) ∧ ∃ s', KMap w' B (n + 1) s' ∧ (∀ j, s' j = true ↔ s j = true ∨ j = k) ∧ Off B w w' := by
  have h1 : KMap (w.alloc (.cells #[.int .i64 k.p, .int .i64 k.b, .int .i64 k.l, .int .i64 k.a, .int .i64 k.s] 23)) B n s := h.below ((Below.refl _ _).alloc (Nat.le_refl _) _)
  have h2 : ∀ o, KMap ((w.alloc (.cells #[.int .i64 k.p, .int .i64 k.b, .int .i64 k.l, .int .i64 k.a, .int .i64 k.s] 23)).alloc o) B n s := fun o => h1.below ((Below.refl _ _).alloc (Nat.le_refl _) _)
  have ho : ∀ o, Off B w ((w.alloc (.cells #[.int .i64 k.p, .int .i64 k.b, .int .i64 k.l, .int .i64 k.a, .int .i64 k.s] 23)).alloc o) := fun o => ((Off.refl _ _).alloc _).alloc _
  unfold kV5
  go_enter Tryz.func52, Tryz.ntmps52
  go_wp2_with (first | (at_lookup; refine wpK_look _ rfl _ _ 51 rfl 100 Tryz.underlying51 (zero_unit _) B n s k rfl h1 rfl hk ?_; rw [hs]) | (at_mapUpdate; refine wpK_put _ rfl _ _ _ 51 rfl 100 Tryz.underlying51 B n s k rfl (h2 _) hn rfl rfl hk ?_; intro w1 s' g1 g2 g3))
  go_ret
  exact ⟨rfl, s', g1, g2, (ho _).trans g3⟩
/-- All of p may be done by it. -/
def srvB (d : Bool) (k : K5) (p : Int) : Bool := (k.s == 0 || d) && inB p k.p
set_option maxHeartbeats 1000000 in
theorem reach_serves (mp : Value) (s : Option Addr) (n c : Nat) (d : Bool) (k : K5) (p : Int) (w : World) :
    Calls Tryz.prog 53 #[.agg #[mp, .slice s n c, .bool d], kV5 k, .int .i64 p] w fun e w' => e = .returned (.bool (srvB d k p)) ∧ Below w.heap.size w w' := by
  have cW := fun w => perm_within p k.p w
  unfold kV5 srvB
  generalize inB p k.p = R at *
  by_cases hs : k.s = 0
  · rw [hs]
    go_enter Tryz.func53, Tryz.ntmps53
    go_wp2_with (go_at_call 35; refine (cW _).mono ?_; rintro e w1 ⟨rfl, rfl⟩)
    go_ret
    exact ⟨rfl, two _ _⟩
  · have hs' : (k.s == 0) = false := by simpa using hs
    rw [hs']
    cases d
    · go_enter Tryz.func53, Tryz.ntmps53
      go_wp2_with (go_at_call 35; refine (cW _).mono ?_; rintro e w1 ⟨rfl, rfl⟩)
      go_ret
      exact ⟨rfl, two _ _⟩
    · go_enter Tryz.func53, Tryz.ntmps53
      go_wp2_with (go_at_call 35; refine (cW _).mono ?_; rintro e w1 ⟨rfl, rfl⟩)
      go_ret
      exact ⟨rfl, two _ _⟩
/-- Which part of the memory it is. -/
def CutP (k : K5) (n off m a : Nat) : Prop := m = min (k.b + k.l).toNat n - min k.b.toNat n ∧ (m = 0 ∨ a = off + min k.b.toNat n * 7)
set_option maxHeartbeats 1000000 in
theorem reach_cells (mp : Value) (B off n c : Nat) (d : Bool) (k : K5) (w : World) (hk : ok5 k) (hn : n ≤ c) (hc : c ≤ maxLen) :
    Calls Tryz.prog 54 #[.agg #[mp, .slice (some ⟨B, off, none⟩) n c, .bool d], kV5 k] w fun e w' => (∃ a m c', e = .returned (.slice (some ⟨B, a, none⟩) m c') ∧ CutP k n off m a) ∧ Below w.heap.size w w' := by
  obtain ⟨k1, k2, k3, k4, k5, k6, k7, k8, k9⟩ := ok5_lit hk
  unfold kV5 maxLen at *
  have hw : IntKind.i64.wrap (k.b + k.l) = k.b + k.l := by rw [IntKind.wrap_i64]; omega
  by_cases h1 : (n : Int) < k.b
  · have h2 : (n : Int) < k.b + k.l := by omega
    by_cases h3 : c = (n : Int).toNat
    all_goals
      go_enter Tryz.func54, Tryz.ntmps54
      go_wp2
      go_ret
      first | exact ⟨⟨_, _, ⟨_, rfl⟩, by unfold CutP; omega⟩, two _ _⟩ | exact ⟨⟨_, _, _, rfl, by unfold CutP; omega⟩, two _ _⟩
  · by_cases h2 : (n : Int) < k.b + k.l
    · by_cases h3 : c = k.b.toNat
      all_goals
        go_enter Tryz.func54, Tryz.ntmps54
        go_wp2
        go_ret
        first | exact ⟨⟨_, _, ⟨_, rfl⟩, by unfold CutP; omega⟩, two _ _⟩ | exact ⟨⟨_, _, _, rfl, by unfold CutP; omega⟩, two _ _⟩
    · by_cases h3 : c = k.b.toNat
      all_goals
        go_enter Tryz.func54, Tryz.ntmps54
        go_wp2
        go_ret
        first | exact ⟨⟨_, _, ⟨_, rfl⟩, by unfold CutP; omega⟩, two _ _⟩ | exact ⟨⟨_, _, _, rfl, by unfold CutP; omega⟩, two _ _⟩
set_option maxHeartbeats 1000000 in
theorem reach_cells_nil (mp : Value) (s : Option Addr) (c : Nat) (d : Bool) (k : K5) (w : World) (hk : ok5 k) (hc : c ≤ maxLen) :
    Calls Tryz.prog 54 #[.agg #[mp, .slice s 0 c, .bool d], kV5 k] w fun e w' => (∃ a c', e = .returned (.slice a 0 c')) ∧ Below w.heap.size w w' := by
  obtain ⟨k1, k2, k3, k4, k5, k6, k7, k8, k9⟩ := ok5_lit hk
  unfold kV5 maxLen at *
  have hw : IntKind.i64.wrap (k.b + k.l) = k.b + k.l := by rw [IntKind.wrap_i64]; omega
  have h0 : ¬ k.b < 0 := by omega
  cases s
  all_goals
    by_cases h1 : (0 : Int) < k.b
    · have h2 : (0 : Int) < k.b + k.l := by omega
      by_cases h3 : c = 0
      all_goals
        go_enter Tryz.func54, Tryz.ntmps54
        go_wp2
        go_ret
        exact ⟨⟨_, _, rfl⟩, two _ _⟩
    · have h0 : k.b = 0 := by omega
      by_cases h2 : (0 : Int) < k.b + k.l
      · by_cases h3 : c = 0
        all_goals
          go_enter Tryz.func54, Tryz.ntmps54
          go_wp2
          go_ret
          exact ⟨⟨_, _, rfl⟩, two _ _⟩
      · have h4 : k.l = 0 := by omega
        by_cases h3 : c = 0
        all_goals
          go_enter Tryz.func54, Tryz.ntmps54
          go_wp2
          go_ret
          exact ⟨⟨_, _, rfl⟩, two _ _⟩
theorem cut_len (M : List MV) (k : K5) (hb : 0 ≤ k.b) (hl : 0 ≤ k.l) : (cutL M k).length = min (k.b + k.l).toNat M.length - min k.b.toNat M.length := by
  unfold cutL
  rw [List.length_take, List.length_drop]
  omega
/-- The cells of a key, wherever the memory lies. -/
theorem reach_cut (mp : Value) (s : Option Addr) (c : Nat) (d : Bool) (M : List MV) (k : K5) (w : World) (hk : ok5 k) (hM : ValsAt w s M) (hn : M.length ≤ c) (hc : c ≤ maxLen) :
    Calls Tryz.prog 54 #[.agg #[mp, .slice s M.length c, .bool d], kV5 k] w fun e w' => (∃ a c', e = .returned (.slice a (cutL M k).length c') ∧ ∀ W, ValsAt W s M → ValsAt W a (cutL M k)) ∧ Below w.heap.size w w' := by
  obtain ⟨k1, k2, k3, k4, k5, k6, k7, k8, k9⟩ := ok5_lit hk
  rcases Nat.eq_zero_or_pos M.length with h0 | hpos
  · obtain rfl := List.length_eq_zero_iff.1 h0
    have hcut : cutL [] k = [] := by unfold cutL; simp
    rw [hcut]
    exact (reach_cells_nil mp s c d k w hk hc).mono fun e w' ⟨⟨a, c', he⟩, hb⟩ => ⟨⟨a, c', he, fun _ _ => .inl rfl⟩, hb⟩
  · have hne : M ≠ [] := fun e => by rw [e] at hpos; exact absurd hpos (by decide)
    obtain ⟨B, off, rfl, hB, hcell⟩ := hM.resolve_left hne
    refine (reach_cells mp B off M.length c d k w hk hn hc).mono fun e w' ⟨⟨a, m, c', he, hm, ha⟩, hb⟩ => ⟨?_, hb⟩
    have hl := cut_len M k k4 k3
    rw [← hm] at hl
    rw [hl]
    refine ⟨_, c', he, fun W hW => ?_⟩
    rcases ha with h0 | rfl
    · rw [h0] at hl
      exact .inl (List.length_eq_zero_iff.1 hl)
    · rcases hW with h1 | ⟨B', off', e1, hB', hc'⟩
      · exact absurd h1 hne
      · injection e1 with e1
        injection e1 with e2 e3
        subst e2
        subst e3
        refine .inr ⟨B, _, rfl, hB', fun j u hj => ?_⟩
        have h7 : j < (cutL M k).length * 7 := by
          have := (List.getElem?_eq_some_iff.1 hj).1
          rwa [mv_len] at this
        obtain ⟨v, hv⟩ : ∃ v, (cutL M k)[j / 7]? = some v := ⟨_, List.getElem?_eq_getElem (by omega)⟩
        have hjj : j = j / 7 * 7 + j % 7 := by omega
        rw [hjj, mv_cell _ _ v _ hv (by omega)] at hj
        have hv' : M[min k.b.toNat M.length + j / 7]? = some v := by
          unfold cutL at hv
          rw [List.getElem?_take] at hv
          split at hv
          · rwa [List.getElem?_drop] at hv
          · cases hv
        have := hc' ((min k.b.toNat M.length + j / 7) * 7 + j % 7) u (by rw [mv_cell _ _ v _ hv' (by omega)]; exact hj)
        rw [show off + min k.b.toNat M.length * 7 + j = off + ((min k.b.toNat M.length + j / 7) * 7 + j % 7) by omega]
        exact this
end Go.Proofs.YtlfeglljpfihhaaGreatDoor
