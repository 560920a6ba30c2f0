/- custodianref.Copy: a list of its own; custodianref.MachineCopy: a machine of its own. -/
import Derived.Test.YthijebhhbflclaaRows
import Derived.Test.YthijebhhbflclaaKeyPure
import Derived.Test.YthijebhhbflclaaCellPure
import Derived.Test.YthijebhhbflclaaValsArg
import Derived.Test.YthijebhhbflclaaMemPure
import Derived.Test.YthijebhhbflclaaMachArg
import Derived.Test.YthijebhhbflclaaStepChk
import Derived.Test.YthijebhhbflclaaStepChk2
import Derived.Test.YthijebhhbflclaaStepRow
import Derived.Test.YthijebhhbflclaaMachMid
import Derived.Test.YthijebhhbflclaaRowApp
import Derived.WalkKit
import Derived.ProofKit
import Derived.OpenShut
import Derived.Deep.MidRow
import Derived.Deep.AppendLies
import Derived.Deep.RegionLaw
import Derived.ArgAppend
namespace Go.Proofs.Ythijebhhbflclaa
open Go.ChangeShapes Go.WideShapes Go.ChangeAt Go.RowKit
set_option linter.unusedSimpArgs false
set_option linter.unusedVariables false
set_option maxRecDepth 100000

set_option maxHeartbeats 2000000 in
theorem copy_nums (s : Option Addr) (c : Nat) (vs : List Int) (w : World) (hA : RowAt w s (vs.map nmC)) (hl : vs.length * 8 ≤ 140737488355328) :
    Calls Try.prog 24 #[.slice s vs.length c] w fun e w' => ∃ a c', e = .returned (.slice a vs.length c') ∧ Below w.heap.size w w' ∧ (vs.length ≤ c' ∧ c' ≤ maxLen) ∧ RowAt w' a (vs.map nmC) ∧ (∀ y ∈ a, w.heap.size ≤ y.block ∧ y.block < w'.heap.size) := by
  obtain ⟨i0, hi, hz0, hz1, hz2⟩ := info_ints
  have zl : (vs.map nmC).length = vs.length * 1 := by rw [List.length_map, Nat.mul_one]
  have h1 : ∀ u ∈ vs.map nmC, u.oneCell' = true := nm_one vs
  have hn : (vs.map nmC) = [] → vs.length = 0 := fun h => by rw [h] at zl; simp at zl; omega
  generalize vs.map nmC = L at *
  generalize vs.length = n at *
  rcases hA with h0 | ⟨B, off, rfl, hB, hc⟩
  · obtain rfl := hn h0
    subst h0
    clear hl hi hz0 hz1 hz2 hn h1 zl
    cases s
    all_goals
      go_enter Try.func24, Try.ntmps24
      go_wp2
      go_ret
      exact ⟨none, 0, rfl, Below.refl _ _, ⟨Nat.le_refl _, Nat.zero_le _⟩, .inl rfl, fun y hy => by cases hy⟩
  · rcases Nat.eq_zero_or_pos n with h0 | hp
    · subst h0
      obtain rfl : L = [] := List.length_eq_zero_iff.1 (by simpa using zl)
      clear hl hi hz0 hz1 hz2 hn h1 zl hc hB
      go_enter Try.func24, Try.ntmps24
      go_wp2
      go_ret
      exact ⟨none, 0, rfl, Below.refl _ _, ⟨Nat.le_refl _, Nat.zero_le _⟩, .inl rfl, fun y hy => by cases hy⟩
    · have hnews : ∀ j u, L[j]? = some u → w.cell? ((⟨B, off, none⟩ : Addr).add j) = some u := fun j u hj => by rw [addr_add]; exact hc j u hj
      have hmx : 0 + n ≤ maxLen := by unfold maxLen; omega
      have hby : (0 + n) * 8 ≤ 140737488355328 := by omega
      have HZ : Hid (L.length = n * 1) := zl
      have HN : Hid (∀ j u, L[j]? = some u → w.cell? ((⟨B, off, none⟩ : Addr).add j) = some u) := hnews
      clear hc zl hnews hn
      go_enter Try.func24, Try.ntmps24
      go_wp2_with (at_builtin; refine wpList_append_grows _ rfl _ _ _ rfl 3 i0 _ 1 8 Try.underlying29 hi hz0 hz1 hz2 rfl (by decide) none 0 0 [] rfl (fun _ => ⟨rfl, rfl⟩) rfl (fun b hb => by cases hb) ⟨B, off, none⟩ n c L rfl HZ.out HN.out h1 (by omega) hmx hby ?_; intro V w1 hown hgrow; rw [Nat.zero_add, List.nil_append] at hown; obtain ⟨a, c', hV, hcap, hrow, hfar⟩ := own_row2 hown; rw [hV]; have hb := Below.grown (Below.refl _ _) hgrow (Nat.le_refl _) (fun k e => by cases e); have HO : Hid (Below w.heap.size w w1 ∧ (n ≤ c' ∧ c' ≤ maxLen) ∧ RowAt w1 a L ∧ (∀ y ∈ a, w.heap.size ≤ y.block ∧ y.block < w1.heap.size)) := ⟨hb, hcap, hrow, hfar⟩; clear hown hgrow hcap hrow hfar hb hV)
      go_ret
      exact ⟨a, c', rfl, HO.out.1, HO.out.2.1, HO.out.2.2.1, HO.out.2.2.2⟩
end Go.Proofs.Ythijebhhbflclaa
