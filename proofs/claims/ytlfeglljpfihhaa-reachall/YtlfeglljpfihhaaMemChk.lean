/- mem.Check and mem.place, and the document's own, answer what chapter 8 says of them, for whatever memory and key, and turn nothing that was in memory. -/
import Derived.Test.YtlfeglljpfihhaaRows
import Derived.Test.YtlfeglljpfihhaaBits
import Derived.Test.YtlfeglljpfihhaaKeyPure
import Derived.Test.YtlfeglljpfihhaaKeyChk
import Derived.Test.YtlfeglljpfihhaaCellPure
import Derived.Test.YtlfeglljpfihhaaCellChk
import Derived.Test.YtlfeglljpfihhaaValsArg
import Derived.Test.YtlfeglljpfihhaaMemPure
import Derived.WalkKit
import Derived.ProofKit
import Derived.OpenShut
namespace Go.Proofs.Ytlfeglljpfihhaa
open Go.ChangeShapes Go.WideShapes Go.ChangeAt Go.RowKit
set_option linter.unusedSimpArgs false

theorem drop_mv {vs : List MV} {k : Nat} {v : MV} (h : vs[k]? = some v) : vs.drop k = v :: vs.drop (k + 1) := by
  obtain ⟨hk, e⟩ := List.getElem?_eq_some_iff.1 h
  rw [List.drop_eq_getElem_cons hk, e]
/-- A memory that is too large is told so at once, whatever lies there. -/
theorem mem_check_large (s : Option Addr) (n c : Nat) (w : World) (h : 400 < n) :
    Calls Try.prog 37 #[.slice s n c] w fun e w' => e = .returned (.int .i64 2) ∧ w' = w := by
  have g : (400 : Int) < (n : Int) := by omega
  go_enter Try.func37, Try.ntmps37
  go_wp2
  go_ret
  exact ⟨rfl, rfl⟩
set_option maxRecDepth 100000 in
set_option maxHeartbeats 2000000 in
theorem mem_check (s : Option Addr) (c : Nat) (vs : List MV) (w : World) (hA : ValsAt w s vs) (hn : mvsOk vs) :
    Calls Try.prog 37 #[.slice s vs.length c] w fun e w' => e = .returned (.int .i64 (memE vs)) ∧ Below w.heap.size w w' := by
  by_cases hl : 400 < vs.length
  · rw [mem_big hl]
    exact (mem_check_large s vs.length c w hl).mono fun e w' ⟨he, hw⟩ => ⟨he, by rw [hw]; exact Below.refl _ _⟩
  · obtain ⟨R, hR⟩ : ∃ R, chkL vs = R := ⟨_, rfl⟩
    rw [mem_not hl, hR]
    have HR : Hid (chkL vs = R) := hR
    have HA : Hid (ValsAt w s vs) := hA
    have HN : Hid (mvsOk vs) := hn
    have g : ¬ (400 : Int) < (vs.length : Int) := by omega
    clear hR hA hn
    go_enter Try.func37, Try.ntmps37
    go_wp2
    go_loopw [11] (fun i wr => ∃ k : Nat, k ≤ vs.length ∧ i = .int .i64 (k : Int) ∧ Below w.heap.size w wr ∧ chkL (vs.drop k) = R) (fun i _ => vs.length - (intOf i).toNat)
    case atStart => exact ⟨0, Nat.zero_le _, rfl, Below.refl _ _, HR.out⟩
    case round =>
      obtain ⟨k, hk, rfl, hB, hs⟩ := hrel
      by_cases hlt : k < vs.length
      · have gk : (k : Int) < (vs.length : Int) := by omega
        obtain ⟨v, hv⟩ : ∃ v, vs[k]? = some v := ⟨_, List.getElem?_eq_getElem hlt⟩
        obtain ⟨B, off, rfl, hBl, c0, c1, c2, c3, c4, c5, c6⟩ := (HA.out.below hB).at hv
        have hok : mvOk v := mvs_at HN.out hv
        rw [drop_mv hv, chkL] at hs
        have cC := fun w => cell_check v.i v.n v.p v.b v.l v.a v.s w hok
        have kb : k ≤ 400 := by omega
        by_cases h1 : chk1 v = 0
        · rw [if_pos h1] at hs
          have HS : Hid (chkL (vs.drop (k + 1)) = R) := hs
          have h1' : chkV v.i v.n v.p v.b v.l v.a v.s = 0 := h1
          rw [h1'] at cC
          clear hs hv h1 h1' hok HN HA HR
          go_wp2_with (go_at_call 35; refine (cC _).mono ?_; rintro e w' ⟨rfl, hbb⟩; have hB1 := Below.step0 (hB.alloc hB.size _) hbb)
          go_roundw
          case rel => exact ⟨k + 1, by omega, rfl, hB1, HS.out⟩
          case measure => simp [intOf]; omega
        · rw [if_neg h1] at hs
          have h1' : ¬ chkV v.i v.n v.p v.b v.l v.a v.s = 0 := h1
          have hs' : chkV v.i v.n v.p v.b v.l v.a v.s = R := hs
          rw [hs'] at cC h1'
          have gR : (R != 0) = true := by simpa using h1'
          clear hs hs' hv h1 h1' hok HN HA HR
          go_wp2_with (go_at_call 35; refine (cC _).mono ?_; rintro e w' ⟨rfl, hbb⟩; have hB1 := Below.step0 (hB.alloc hB.size _) hbb)
          go_ret
          exact ⟨rfl, hB1⟩
      · obtain rfl : k = vs.length := by omega
        have gk : ¬ (vs.length : Int) < (vs.length : Int) := by omega
        rw [List.drop_length] at hs
        have hs' : R = 0 := hs.symm
        subst hs'
        clear hs HR
        go_wp2
        go_ret
        exact ⟨rfl, hB⟩
end Go.Proofs.Ytlfeglljpfihhaa
