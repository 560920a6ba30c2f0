/- step.Check answers what chapter 9 says of a machine, for whatever machine, and turns nothing that was in memory. -/
import Derived.Test.YtlfeglljpfihhaaRows
import Derived.Test.YtlfeglljpfihhaaBits
import Derived.Test.YtlfeglljpfihhaaKeyPure
import Derived.Test.YtlfeglljpfihhaaKeyChk
import Derived.Test.YtlfeglljpfihhaaCellPure
import Derived.Test.YtlfeglljpfihhaaCellChk
import Derived.Test.YtlfeglljpfihhaaValsArg
import Derived.Test.YtlfeglljpfihhaaMemPure
import Derived.Test.YtlfeglljpfihhaaMemChk
import Derived.Test.YtlfeglljpfihhaaNum
import Derived.Test.YtlfeglljpfihhaaMachArg
import Derived.WalkKit
import Derived.ProofKit
import Derived.OpenShut
namespace Go.Proofs.Ytlfeglljpfihhaa
open Go.ChangeShapes Go.WideShapes Go.ChangeAt Go.RowKit
set_option linter.unusedSimpArgs false

def frE (f : FR) : Int := if chk5 f.c = 0 then chk1 f.d else chk5 f.c
def frsE : List FR → Int
  | [] => 0
  | f :: fs => if frE f = 0 then frsE fs else frE f
def stkE (fs : List FR) : Int := if 16 < fs.length then 2 else frsE fs
def toldE : List Int → Int
  | [] => 0
  | n :: ns => if wrap32 n = n then toldE ns else 1
def outE (ns : List Int) : Int := if 100 < ns.length then 2 else toldE ns
/-- P18. -/
def mcE (x : MC) : Int := if chkL x.r = 0 then (if chk5 x.k = 0 then (if memE x.m = 0 then (if stkE x.s = 0 then outE x.o else stkE x.s) else memE x.m) else chk5 x.k) else chkL x.r
theorem drop_one {α : Type} {vs : List α} {k : Nat} {v : α} (h : vs[k]? = some v) : vs.drop k = v :: vs.drop (k + 1) := by
  obtain ⟨hk, e⟩ := List.getElem?_eq_some_iff.1 h
  rw [List.drop_eq_getElem_cons hk, e]
def At12 (w : World) (B o : Nat) (f : FR) : Prop :=
  w.cell? ⟨B, o, none⟩ = some (.int .i64 f.c.p) ∧ w.cell? ⟨B, o + 1, none⟩ = some (.int .i64 f.c.b) ∧ w.cell? ⟨B, o + 2, none⟩ = some (.int .i64 f.c.l) ∧ w.cell? ⟨B, o + 3, none⟩ = some (.int .i64 f.c.a) ∧ w.cell? ⟨B, o + 4, none⟩ = some (.int .i64 f.c.s) ∧
  w.cell? ⟨B, o + 5, none⟩ = some (.bool f.d.i) ∧ w.cell? ⟨B, o + 6, none⟩ = some (.int .i64 f.d.n) ∧ w.cell? ⟨B, o + 7, none⟩ = some (.int .i64 f.d.p) ∧ w.cell? ⟨B, o + 8, none⟩ = some (.int .i64 f.d.b) ∧
  w.cell? ⟨B, o + 9, none⟩ = some (.int .i64 f.d.l) ∧ w.cell? ⟨B, o + 10, none⟩ = some (.int .i64 f.d.a) ∧ w.cell? ⟨B, o + 11, none⟩ = some (.int .i64 f.d.s)
theorem FrsAt.at {w : World} {a : Option Addr} {fs : List FR} {k : Nat} {f : FR} (h : FrsAt w a fs) (hk : fs[k]? = some f) : ∃ B off : Nat, a = some ⟨B, off, none⟩ ∧ B < w.heap.size ∧ At12 w B (off + k * 12) f := by
  rcases h with h | ⟨B, off, e, hB, hc⟩
  · cases fs with
    | nil => simp at hk
    | cons v vs => cases h
  · refine ⟨B, off, e, hB, ?_⟩
    have g : ∀ (j : Nat) (u : Value), j < 12 → (frC f)[j]? = some u → w.cell? ⟨B, off + k * 12 + j, none⟩ = some u := fun j u hj hu => by
      rw [Nat.add_assoc]
      exact hc _ _ (by rw [flat_cell frC_len fs k f j hk hj]; exact hu)
    exact ⟨g 0 _ (by omega) rfl, g 1 _ (by omega) rfl, g 2 _ (by omega) rfl, g 3 _ (by omega) rfl, g 4 _ (by omega) rfl, g 5 _ (by omega) rfl, g 6 _ (by omega) rfl, g 7 _ (by omega) rfl, g 8 _ (by omega) rfl, g 9 _ (by omega) rfl, g 10 _ (by omega) rfl, g 11 _ (by omega) rfl⟩
theorem NumsAt.at {w : World} {a : Option Addr} {ns : List Int} {k : Nat} {n : Int} (h : NumsAt w a ns) (hk : ns[k]? = some n) : ∃ B off : Nat, a = some ⟨B, off, none⟩ ∧ B < w.heap.size ∧ w.cell? ⟨B, off + k, none⟩ = some (.int .i64 n) := by
  rcases h with h | ⟨B, off, e, hB, hc⟩
  · cases ns with
    | nil => simp at hk
    | cons v vs => cases h
  · exact ⟨B, off, e, hB, hc k _ (by rw [List.getElem?_map, hk]; rfl)⟩
set_option maxRecDepth 100000 in
set_option maxHeartbeats 2000000 in
theorem step_frames (s : Option Addr) (c : Nat) (fs : List FR) (w : World) (hA : FrsAt w s fs) (hn : ∀ f ∈ fs, frOk f) :
    Calls Try.prog 38 #[.slice s fs.length c] w fun e w' => e = .returned (.int .i64 (stkE fs)) ∧ Below w.heap.size w w' := by
  by_cases hl : 16 < fs.length
  · have e : stkE fs = 2 := by unfold stkE; exact if_pos hl
    have g : (16 : Int) < (fs.length : Int) := by omega
    rw [e]
    clear e
    go_enter Try.func38, Try.ntmps38
    go_wp2
    go_ret
    exact ⟨rfl, Below.refl _ _⟩
  · have e : stkE fs = frsE fs := by unfold stkE; exact if_neg hl
    obtain ⟨R, hR⟩ : ∃ R, frsE fs = R := ⟨_, rfl⟩
    rw [e, hR]
    have HR : Hid (frsE fs = R) := hR
    have HA : Hid (FrsAt w s fs) := hA
    have HN : Hid (∀ f ∈ fs, frOk f) := hn
    have g : ¬ (16 : Int) < (fs.length : Int) := by omega
    clear hR hA hn e
    go_enter Try.func38, Try.ntmps38
    go_wp2
    go_loopw [12] (fun i wr => ∃ k : Nat, k ≤ fs.length ∧ i = .int .i64 (k : Int) ∧ Below w.heap.size w wr ∧ frsE (fs.drop k) = R) (fun i _ => fs.length - (intOf i).toNat)
    case atStart => exact ⟨0, Nat.zero_le _, rfl, Below.refl _ _, HR.out⟩
    case round =>
      obtain ⟨k, hk, rfl, hB, hs⟩ := hrel
      by_cases hlt : k < fs.length
      · have gk : (k : Int) < (fs.length : Int) := by omega
        obtain ⟨f, hv⟩ : ∃ f, fs[k]? = some f := ⟨_, List.getElem?_eq_getElem hlt⟩
        obtain ⟨B, off, rfl, hBl, c0, c1, c2, c3, c4, c5, c6, c7, c8, c9, c10, c11⟩ := (HA.out.below hB).at hv
        obtain ⟨hok1, hok2⟩ : frOk f := HN.out f (List.mem_of_getElem? hv)
        rw [drop_one hv, frsE] at hs
        have cK := fun w => keys_check f.c.p f.c.b f.c.l f.c.a f.c.s w hok1
        have cC := fun w => cell_check f.d.i f.d.n f.d.p f.d.b f.d.l f.d.a f.d.s w hok2
        have kb : k ≤ 16 := by omega
        by_cases h1 : chk5 f.c = 0
        · have h1' : chkE f.c.p f.c.b f.c.l f.c.a f.c.s = 0 := h1
          rw [h1'] at cK
          have e1 : frE f = chk1 f.d := by unfold frE; exact if_pos h1
          by_cases h2 : chk1 f.d = 0
          · rw [if_pos (by rw [e1]; exact h2)] at hs
            have HS : Hid (frsE (fs.drop (k + 1)) = R) := hs
            have h2' : chkV f.d.i f.d.n f.d.p f.d.b f.d.l f.d.a f.d.s = 0 := h2
            rw [h2'] at cC
            clear hs hv h1 h1' h2 h2' e1 hok1 hok2 HN HA HR
            go_wp2_with (first | (go_at_call 36; refine (cK _).mono ?_; rintro e w1 ⟨rfl, hbb⟩; have B1 := (Box.new _ _ _).below hbb; have q1 := B1.cell; have hB1 := Below.step0 (hB.alloc hB.size _) hbb; clear hbb) | (go_at_call 35; refine (cC _).mono ?_; rintro e w2 ⟨rfl, hbb⟩; have hB2 := Below.step0 hB1 hbb; clear hbb))
            go_roundw
            case rel => exact ⟨k + 1, by omega, rfl, hB2, HS.out⟩
            case measure => simp [intOf]; omega
          · rw [if_neg (by rw [e1]; exact h2)] at hs
            have h2' : ¬ chkV f.d.i f.d.n f.d.p f.d.b f.d.l f.d.a f.d.s = 0 := h2
            have hs' : chkV f.d.i f.d.n f.d.p f.d.b f.d.l f.d.a f.d.s = R := by rw [e1] at hs; exact hs
            rw [hs'] at cC h2'
            have gR : (R != 0) = true := by simpa using h2'
            clear hs hs' hv h1 h1' h2 h2' e1 hok1 hok2 HN HA HR
            go_wp2_with (first | (go_at_call 36; refine (cK _).mono ?_; rintro e w1 ⟨rfl, hbb⟩; have B1 := (Box.new _ _ _).below hbb; have q1 := B1.cell; have hB1 := Below.step0 (hB.alloc hB.size _) hbb; clear hbb) | (go_at_call 35; refine (cC _).mono ?_; rintro e w2 ⟨rfl, hbb⟩; have hB2 := Below.step0 hB1 hbb; clear hbb))
            go_ret
            exact ⟨rfl, hB2⟩
        · have e1 : frE f = chk5 f.c := by unfold frE; exact if_neg h1
          rw [if_neg (by rw [e1]; exact h1)] at hs
          have h1' : ¬ chkE f.c.p f.c.b f.c.l f.c.a f.c.s = 0 := h1
          have hs' : chkE f.c.p f.c.b f.c.l f.c.a f.c.s = R := by rw [e1] at hs; exact hs
          rw [hs'] at cK h1'
          have gR : (R != 0) = true := by simpa using h1'
          clear hs hs' hv h1 h1' e1 hok1 hok2 HN HA HR
          go_wp2_with (first | (go_at_call 36; refine (cK _).mono ?_; rintro e w1 ⟨rfl, hbb⟩; have B1 := (Box.new _ _ _).below hbb; have q1 := B1.cell; have hB1 := Below.step0 (hB.alloc hB.size _) hbb; clear hbb) | (go_at_call 35; refine (cC _).mono ?_; rintro e w2 ⟨rfl, hbb⟩; have hB2 := Below.step0 hB1 hbb; clear hbb))
          go_ret
          exact ⟨rfl, hB1⟩
      · obtain rfl : k = fs.length := by omega
        have gk : ¬ (fs.length : Int) < (fs.length : Int) := by omega
        rw [List.drop_length] at hs
        have hs' : R = 0 := hs.symm
        subst hs'
        clear hs HR
        go_wp2
        go_ret
        exact ⟨rfl, hB⟩
set_option maxRecDepth 100000 in
set_option maxHeartbeats 2000000 in
theorem step_told (s : Option Addr) (c : Nat) (ns : List Int) (w : World) (hA : NumsAt w s ns) :
    Calls Try.prog 39 #[.slice s ns.length c] w fun e w' => e = .returned (.int .i64 (outE ns)) ∧ w' = w := by
  by_cases hl : 100 < ns.length
  · have e : outE ns = 2 := by unfold outE; exact if_pos hl
    have g : (100 : Int) < (ns.length : Int) := by omega
    rw [e]
    clear e
    go_enter Try.func39, Try.ntmps39
    go_wp2
    go_ret
    exact ⟨rfl, rfl⟩
  · have e : outE ns = toldE ns := by unfold outE; exact if_neg hl
    obtain ⟨R, hR⟩ : ∃ R, toldE ns = R := ⟨_, rfl⟩
    rw [e, hR]
    have HR : Hid (toldE ns = R) := hR
    have HA : Hid (NumsAt w s ns) := hA
    have g : ¬ (100 : Int) < (ns.length : Int) := by omega
    clear hR hA e
    go_enter Try.func39, Try.ntmps39
    go_wp2
    go_loop [10] (fun i => ∃ k : Nat, k ≤ ns.length ∧ i = .int .i64 (k : Int) ∧ toldE (ns.drop k) = R) (fun i => ns.length - (intOf i).toNat)
    case atStart => exact ⟨0, Nat.zero_le _, rfl, HR.out⟩
    case round =>
      obtain ⟨k, hk, rfl, hs⟩ := hrel
      by_cases hlt : k < ns.length
      · have gk : (k : Int) < (ns.length : Int) := by omega
        obtain ⟨n, hv⟩ : ∃ n, ns[k]? = some n := ⟨_, List.getElem?_eq_getElem hlt⟩
        obtain ⟨B, off, rfl, hBl, c0⟩ := HA.out.at hv
        rw [drop_one hv, toldE] at hs
        have kb : k ≤ 100 := by omega
        have cW := fun w => num_wrap n w
        by_cases h1 : wrap32 n = n
        · rw [if_pos h1] at hs
          rw [h1] at cW
          have HS : Hid (toldE (ns.drop (k + 1)) = R) := hs
          clear hs hv h1 HA HR
          go_wp2_with (go_at_call 55; refine (cW _).mono ?_; rintro e w1 ⟨rfl, rfl⟩)
          go_round
          case rel => exact ⟨k + 1, by omega, rfl, HS.out⟩
          case measure => simp [intOf]; omega
        · rw [if_neg h1] at hs
          subst hs
          have gR : (wrap32 n != n) = true := by simpa using h1
          generalize wrap32 n = n' at *
          clear hv h1 HA HR
          go_wp2_with (go_at_call 55; refine (cW _).mono ?_; rintro e w1 ⟨rfl, rfl⟩)
          go_ret
          exact ⟨rfl, rfl⟩
      · obtain rfl : k = ns.length := by omega
        have gk : ¬ (ns.length : Int) < (ns.length : Int) := by omega
        rw [List.drop_length] at hs
        have hs' : R = 0 := hs.symm
        subst hs'
        clear hs HR
        go_wp2
        go_ret
        exact ⟨rfl, rfl⟩
end Go.Proofs.Ytlfeglljpfihhaa
