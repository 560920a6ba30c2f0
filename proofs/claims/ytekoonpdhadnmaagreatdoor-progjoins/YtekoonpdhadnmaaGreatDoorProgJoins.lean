/- Chapter 7: what is read of two texts without labels, one behind the other, is the one's cells and then the other one's: for every two lists of numbers; nothing that was in memory is turned. -/
import Derived.Test.YtekoonpdhadnmaaGreatDoorRows
import Derived.Test.YtekoonpdhadnmaaGreatDoorCards
import Derived.Test.YtekoonpdhadnmaaGreatDoorTie
import Derived.Test.YtekoonpdhadnmaaGreatDoorCardBase
import Derived.Test.YtekoonpdhadnmaaGreatDoorInstShape
import Derived.Test.YtekoonpdhadnmaaGreatDoorInstLaid
import Derived.Test.YtekoonpdhadnmaaGreatDoorIntsArg
import Derived.Carry
import Derived.Test.YtekoonpdhadnmaaGreatDoorKeyPure
import Derived.Test.YtekoonpdhadnmaaGreatDoorTextPure
import Derived.Test.YtekoonpdhadnmaaGreatDoorProgPure
import Derived.Test.YtekoonpdhadnmaaGreatDoorProgText
import Derived.Test.YtekoonpdhadnmaaGreatDoorProgState
import Derived.Test.YtekoonpdhadnmaaGreatDoorProgRead
import Derived.Test.YtekoonpdhadnmaaGreatDoorProgFacts
import Derived.Test.YtekoonpdhadnmaaGreatDoorEqInt
import Derived.Deep.AppendLies
import Derived.BigFrame
import Derived.WalkKit
import Derived.ProofKit
import Derived.OpenShut
import Derived.Deep.DeepHandedRow
import Derived.Deep.DeepWitnessRowRef
import Derived.Lay
import Derived.MakeChecks
import Derived.SizedLaws
import Derived.Lib.LaidTab
namespace Go.Proofs.YtekoonpdhadnmaaGreatDoor.progJoins
open Go.ChangeShapes Go.WideShapes Go.ChangeAt Go.RowKit
set_option linter.unusedVariables false
set_option linter.unusedSimpArgs false

theorem own : ownKnob Tryz.prog.godebug = none := by kernel_rfl
theorem laidOut : laidOutB Tryz.prog = true := by kernel_rfl

theorem news_ints {w : World} {B off : Nat} {xs : List Int} (h : ∀ i, i < xs.length → w.cell? ⟨B, off + i, none⟩ = some (.int .i64 (xs.getD i 0))) : ∀ (j : Nat) u, (xs.map inC)[j]? = some u → w.cell? ((⟨B, off, none⟩ : Addr).add j) = some u := fun j u hu => by
  rw [addr_add]
  rw [List.getElem?_map] at hu
  cases hx : xs[j]? with
  | none => rw [hx] at hu; cases hu
  | some x =>
    rw [hx] at hu
    injection hu with hu
    subst hu
    have hj := (List.getElem?_eq_some_iff.1 hx).1
    rw [h j hj, List.getD_eq_getElem?_getD, hx]
    rfl
theorem one_ints (xs : List Int) : ∀ u ∈ xs.map inC, u.oneCell' = true := fun u hu => by
  obtain ⟨x, _, rfl⟩ := List.mem_map.1 hu
  rfl
theorem ints_at {w : World} {a : Option Addr} {xs : List Int} (h : IntsAt w a xs) : xs = [] ∨ ∃ B off : Nat, a = some ⟨B, off, none⟩ ∧ B < w.heap.size ∧ ∀ (j : Nat) u, (xs.map inC)[j]? = some u → w.cell? ((⟨B, off, none⟩ : Addr).add j) = some u := by
  rcases h with h | ⟨B, off, e, hB, hc⟩
  · exact .inl (List.length_eq_zero_iff.1 h)
  · exact .inr ⟨B, off, e, hB, news_ints hc⟩
theorem own_ints' {w : World} {base g n cap : Nat} {xs : List Int} (h : w.ownsRow base 3 1 (.slice (some ⟨g, 0, none⟩) n cap) n (xs.map inC)) (hn : n = xs.length) : IntsAt w (some ⟨g, 0, none⟩) xs := by
  obtain ⟨a, c, e, h1⟩ := own_ints hn h
  injection e with e
  rw [e]
  exact h1
theorem ap_first {w4 w5 : World} {g cap : Nat} {a : List Int} (ho : w5.ownsRow w4.heap.size 3 1 (.slice (some ⟨g, 0, none⟩) (0 + a.length) cap) (0 + a.length) ([] ++ a.map inC)) (hg : w4.grownBy w5 (Value.slice none 0 0).ownBlock) :
    Below w4.heap.size w4 w5 ∧ w5.ownsRow w4.heap.size 3 1 (.slice (some ⟨g, 0, none⟩) a.length cap) a.length (a.map inC) := by
  refine ⟨Below.grown (Below.refl _ _) hg (Nat.le_refl _) (fun k e => by cases e), ?_⟩
  rwa [Nat.zero_add, List.nil_append] at ho
theorem ap_second {w4 w5 w6 : World} {g cap g2 cap2 : Nat} {a b : List Int} (b5 : Below w4.heap.size w4 w5) (o5 : w5.ownsRow w4.heap.size 3 1 (.slice (some ⟨g, 0, none⟩) a.length cap) a.length (a.map inC)) (ho : w6.ownsRow w4.heap.size 3 1 (.slice (some ⟨g2, 0, none⟩) (a.length + b.length) cap2) (a.length + b.length) (a.map inC ++ b.map inC)) (hg : w5.grownBy w6 (Value.slice (some ⟨g, 0, none⟩) a.length cap).ownBlock) :
    Below w4.heap.size w4 w6 ∧ IntsAt w6 (some ⟨g2, 0, none⟩) (a ++ b) := by
  refine ⟨Below.grown b5 hg b5.size (fun k e => (own_block o5 e).1), own_ints' (by rw [List.map_append]; exact ho) (by simp)⟩
theorem own_cap {w : World} {base g n cap : Nat} {xs : List Value} (h : w.ownsRow base 3 1 (.slice (some ⟨g, 0, none⟩) n cap) n xs) : n ≤ cap := by
  obtain ⟨_, h⟩ := h
  rcases h with ⟨h, _⟩ | ⟨g', c, cur, e, _, _, h, _⟩
  · cases h
  · injection e with _ _ e
    rw [e]
    exact h
set_option maxHeartbeats 4000000 in
set_option maxRecDepth 1000000 in
theorem walk (p0 : Option Addr) (c0 : Nat) (a0 : List Int) (p1 : Option Addr) (c1 : Nat) (a1 : List Int) (z0 : a0.length ≤ maxLen) (n0 : inB64 a0) (z1 : a1.length ≤ maxLen) (n1 : inB64 a1) (w : World) (A0 : IntsAt w p0 a0) (A1 : IntsAt w p1 a1) (hS : Shp w) (m : Int) (hM : w.cell? ⟨0, 0, none⟩ = some (.int .i64 m)) (zM : 0 < w.heap.size) (hP : Pw w) (hE : Er w) :
    Calls Tryz.prog 5 #[.slice p0 a0.length c0, .slice p1 a1.length c1] w fun e w' => e = .returned (.bool true) ∧ Below w.heap.size w w' := by
  have m0 : (a0.length : Int) ≤ 9223372036854775807 := by unfold maxLen at z0; omega
  have m1 : (a1.length : Int) ≤ 9223372036854775807 := by unfold maxLen at z1; omega
  have cT := fun w hS hP hA => prog_text p0 c0 a0 w hS hP n0 hA z0
  have cU := fun w hS hP hA => prog_text p1 c1 a1 w hS hP n1 hA z1
  have TX : ∀ e : Int, (e != 0) = true → True := fun _ _ => trivial
  clear TX
  rcases text_cases a0 with ⟨he, hlen, hnum, hs⟩ | ⟨he, hs⟩
  · rw [he, hs] at cT
    rcases text_cases a1 with ⟨he1, hlen1, hnum1, hs1⟩ | ⟨he1, hs1⟩
    · rw [he1, hs1] at cU
      by_cases h140 : 140 < a0.length + a1.length
      · have g140 : (140 : Int) < (a0.length : Int) + (a1.length : Int) := by omega
        generalize bL (jn 10 (a0.map lineN)) = T at *
        generalize bL (jn 10 (a1.map lineN)) = U at *
        go_enter Tryz.func5, Tryz.ntmps5
        go_wp2_with (go_at_call 10; first | (refine (cT _ hS hP A0).mono ?_; rintro e w1 ⟨rfl, hB1⟩; clear cT) | (refine (cU _ (hS.below hB1) (hP.below hB1) (A1.below hB1)).mono ?_; rintro e w2 ⟨rfl, hbb⟩; have hB2 := Below.step0 hB1 hbb; clear hbb cU))
        go_ret
        exact ⟨rfl, hB2⟩
      · have g140 : ¬ (140 : Int) < (a0.length : Int) + (a1.length : Int) := by omega
        have hR := read_two a0 a1 hnum hnum1 (by omega)
        have zl : (jn 10 (a0.map lineN)).length ≤ 12150 := by
          have := jn_len 10 80 (a0.map lineN) (fun l hl => by obtain ⟨n, hn, rfl⟩ := List.mem_map.1 hl; exact line_len n (n0 n hn))
          rw [List.length_map] at this
          omega
        have zl1 : (jn 10 (a1.map lineN)).length ≤ 12150 := by
          have := jn_len 10 80 (a1.map lineN) (fun l hl => by obtain ⟨n, hn, rfl⟩ := List.mem_map.1 hl; exact line_len n (n1 n hn))
          rw [List.length_map] at this
          omega
        have cR := fun w hS hP hE m hM zM => prog_read (jn 10 (a0.map lineN) ++ 10 :: jn 10 (a1.map lineN)) w hS hP hE m hM zM (by simp; omega)
        rw [hR] at cR
        have cH := fun w hS hP hE m hM zM => prog_read [104, 97, 108, 116] w hS hP hE m hM zM (by decide)
        rw [read_halt] at cH
        have cE := fun w p c q d hA hB => ref_eq p q c d (a0 ++ a1) (a0 ++ a1) w hA hB (by unfold maxLen; simp; omega) (by unfold maxLen; simp; omega)
        rw [decide_eq_true (rfl : a0 ++ a1 = a0 ++ a1)] at cE
        simp only [List.length_append] at cE
        have e1 : bL (jn 10 (a0.map lineN)) ++ ⟨#[10]⟩ = bL (jn 10 (a0.map lineN) ++ [10]) := bL_add _ [10]
        have e2 : bL (jn 10 (a0.map lineN) ++ [10]) ++ bL (jn 10 (a1.map lineN)) = bL (jn 10 (a0.map lineN) ++ 10 :: jn 10 (a1.map lineN)) := by rw [bL_add, List.append_assoc]; rfl
        have zT : (bL (jn 10 (a0.map lineN))).size ≤ 12150 := by rw [bL_size]; exact zl
        have zT1 : (bL (jn 10 (a0.map lineN) ++ [10])).size ≤ 12151 := by rw [bL_size]; simp; omega
        have zU : (bL (jn 10 (a1.map lineN))).size ≤ 12150 := by rw [bL_size]; exact zl1
        obtain ⟨T, hT⟩ : ∃ T, bL (jn 10 (a0.map lineN)) = T := ⟨_, rfl⟩
        obtain ⟨T1, hT1⟩ : ∃ T1, bL (jn 10 (a0.map lineN) ++ [10]) = T1 := ⟨_, rfl⟩
        obtain ⟨U, hU⟩ : ∃ U, bL (jn 10 (a1.map lineN)) = U := ⟨_, rfl⟩
        obtain ⟨X, hX⟩ : ∃ X, bL (jn 10 (a0.map lineN) ++ 10 :: jn 10 (a1.map lineN)) = X := ⟨_, rfl⟩
        obtain ⟨Y, hY⟩ : ∃ Y, bL [104, 97, 108, 116] = Y := ⟨_, rfl⟩
        have hY' : (⟨#[104, 97, 108, 116]⟩ : ByteArray) = Y := hY
        rw [hT] at cT e1 zT
        rw [hT1] at e1 e2 zT1
        rw [hU] at cU e2 zU
        rw [hX] at e2 cR
        rw [hY, ← hY'] at cH
        clear hT hT1 hU hX hY hY' hR zl zl1 hs hs1
        have HM : Hid (∀ w', Below w.heap.size w w' → w'.cell? ⟨0, 0, none⟩ = some (.int .i64 m) ∧ 0 < w'.heap.size) := fun w' hb => ⟨by rw [hb.cell (p := ⟨0, 0, none⟩) zM]; exact hM, Nat.lt_of_lt_of_le zM hb.size⟩
        clear hM
        obtain ⟨i0, hi, hz0, hz1, hz2⟩ := info_int
        have l140 : a0.length + a1.length ≤ 140 := by omega
        clear h140
        go_enter Tryz.func5, Tryz.ntmps5
        go_upto_region 7 with (first | (go_at_call 10; first | (refine (cT _ hS hP A0).mono ?_; rintro e w1 ⟨rfl, hB1⟩; clear cT) | (refine (cU _ (hS.below hB1) (hP.below hB1) (A1.below hB1)).mono ?_; rintro e w2 ⟨rfl, hbb⟩; have hB2 := Below.step0 hB1 hbb; clear hbb cU)) | (go_at_call 6; first | (refine (cR _ (hS.below hB2) (hP.below hB2) (hE.below hB2) m (HM.out _ hB2).1 (HM.out _ hB2).2).mono ?_; rintro e w3 ⟨V1, V2, rfl, o1, o2, hbb⟩; have hB3 := Below.step0 hB2 hbb; obtain ⟨ac, cc, rfl, Ac⟩ := own_ints rfl o1; clear hbb cR o1 o2) | (refine (cH _ (hS.below hB3) (hP.below hB3) (hE.below hB3) m (HM.out _ hB3).1 (HM.out _ hB3).2).mono ?_; rintro e w4 ⟨V3, V4, rfl, o1, o2, hbb⟩; have hB4 := Below.step0 hB3 hbb; have Ac4 := Ac.below hbb; obtain ⟨ad, cd, rfl, Ad4⟩ := own_ints rfl o1; have A04 := A0.below hB4; have A14 := A1.below hB4; have Q0 := ints_at A04; have Q1 := ints_at A14; clear hbb cH o1 o2 Ac)))
        have HAc : Hid (IntsAt w4 ac (a0 ++ a1)) := Ac4
        rcases Ad4 with h | ⟨Bd, od, rfl, hBd, hcd⟩
        · simp at h
        have hd0 : w4.cell? ⟨Bd, od, none⟩ = some (.int .i64 4194304) := hcd 0 (by simp)
        have mxx : a0.length + a1.length ≤ maxLen := by unfold maxLen; omega
        clear hcd Ac4 A04 A14
        by_cases e0 : a0 = []
        · by_cases e9 : a1 = []
          · subst e0
            subst e9
            have AC : Hid (IntsAt w4 ac ([] ++ [])) := HAc.out
            have AB : Hid (IntsAt w4 none ([] ++ [])) := .inl rfl
            simp only [List.length_nil] at cE
            cases p0 <;> cases p1
            all_goals go_wp2_with (go_at_call 8; refine (cE _ _ _ _ _ AC.out AB.out).mono ?_; rintro e w' ⟨rfl, hw⟩; replace hw := hw.symm; subst hw)
            all_goals (go_ret; exact ⟨rfl, hB4⟩)
          · subst e0
            obtain ⟨B1, o1, rfl, hB1', N1⟩ := Q1.resolve_left e9
            have lp1 : 0 < a1.length := List.length_pos_iff.2 e9
            have HN1 : Hid (∀ (j : Nat) u, (a1.map inC)[j]? = some u → w4.cell? ((⟨B1, o1, none⟩ : Addr).add j) = some u) := N1
            clear N1
            simp only [List.length_nil, Nat.zero_add] at cE l140 mxx
            cases p0
            all_goals go_wp2_with (first | (at_builtin; refine BigFrame.wpList_want (by rfl) (fun K hK => wp_append_lies _ _ _ _ rfl w4.heap.size 3 i0 _ 1 8 Tryz.underlying22 hi hz0 hz1 hz2 rfl (by omega) (.slice none 0 0) 0 [] rfl (ownsNil _ _ _ _) ⟨B1, o1, none⟩ a1.length c1 (a1.map inC) rfl (by simp) HN1.out (one_ints a1) lp1 (by omega) (by omega) (Nat.le_refl _) _ rfl (fun g cap w5 ho hg hat hlt => hK _ _ ?_)); have F5 := ap_first ho hg; have HB6 : Hid (Below w.heap.size w w5) := hB4.trans (F5.1.mono hB4.size); have AC : Hid (IntsAt w5 ac ([] ++ a1)) := HAc.out.below F5.1; have AB : Hid (IntsAt w5 (some ⟨g, 0, none⟩) ([] ++ a1)) := own_ints' F5.2 rfl; have hd6 : w5.cell? ⟨Bd, od, none⟩ = some (.int .i64 4194304) := (by rw [F5.1.cell (p := ⟨Bd, od, none⟩) hBd]; exact hd0); clear ho hg hat F5) | (go_at_call 8; refine (cE _ _ _ _ _ AC.out AB.out).mono ?_; rintro e w' ⟨rfl, hw⟩; replace hw := hw.symm; subst hw))
            all_goals (go_ret; exact ⟨rfl, HB6.out⟩)
        · by_cases e9 : a1 = []
          · subst e9
            obtain ⟨B0, o0, rfl, hB0, N0⟩ := Q0.resolve_left e0
            have lp0 : 0 < a0.length := List.length_pos_iff.2 e0
            have HN0 : Hid (∀ (j : Nat) u, (a0.map inC)[j]? = some u → w4.cell? ((⟨B0, o0, none⟩ : Addr).add j) = some u) := N0
            clear N0
            simp only [List.length_nil, Nat.add_zero] at cE l140 mxx
            cases p1
            all_goals go_wp2_with (first | (at_builtin; refine BigFrame.wpList_want (by rfl) (fun K hK => wp_append_lies _ _ _ _ rfl w4.heap.size 3 i0 _ 1 8 Tryz.underlying22 hi hz0 hz1 hz2 rfl (by omega) (.slice none 0 0) 0 [] rfl (ownsNil _ _ _ _) ⟨B0, o0, none⟩ a0.length c0 (a0.map inC) rfl (by simp) HN0.out (one_ints a0) lp0 (by omega) (by omega) (Nat.le_refl _) _ rfl (fun g cap w5 ho hg hat hlt => hK _ _ ?_)); have F5 := ap_first ho hg; have HB6 : Hid (Below w.heap.size w w5) := hB4.trans (F5.1.mono hB4.size); have AC : Hid (IntsAt w5 ac (a0 ++ [])) := HAc.out.below F5.1; have AB : Hid (IntsAt w5 (some ⟨g, 0, none⟩) (a0 ++ [])) := own_ints' (by rw [List.append_nil]; exact F5.2) (by simp); have hd6 : w5.cell? ⟨Bd, od, none⟩ = some (.int .i64 4194304) := (by rw [F5.1.cell (p := ⟨Bd, od, none⟩) hBd]; exact hd0); have hcp := own_cap F5.2; clear ho hg hat F5) | (go_at_call 8; refine (cE _ _ _ _ _ AC.out AB.out).mono ?_; rintro e w' ⟨rfl, hw⟩; replace hw := hw.symm; subst hw))
            all_goals (go_ret; exact ⟨rfl, HB6.out⟩)
          · obtain ⟨B0, o0, rfl, hB0, N0⟩ := Q0.resolve_left e0
            obtain ⟨B1, o1, rfl, hB1', N1⟩ := Q1.resolve_left e9
            have lp0 : 0 < a0.length := List.length_pos_iff.2 e0
            have lp1 : 0 < a1.length := List.length_pos_iff.2 e9
            have HN0 : Hid (∀ (j : Nat) u, (a0.map inC)[j]? = some u → w4.cell? ((⟨B0, o0, none⟩ : Addr).add j) = some u) := N0
            have HN1 : Hid (∀ (j : Nat) u, (a1.map inC)[j]? = some u → w4.cell? ((⟨B1, o1, none⟩ : Addr).add j) = some u) := N1
            clear N0 N1
            go_wp2_with (first | (at_builtin; refine BigFrame.wpList_want (by rfl) (fun K hK => wp_append_lies _ _ _ _ rfl w4.heap.size 3 i0 _ 1 8 Tryz.underlying22 hi hz0 hz1 hz2 rfl (by omega) (.slice (some ⟨g, 0, none⟩) a0.length cap) a0.length (a0.map inC) rfl HO5.out ⟨B1, o1, none⟩ a1.length c1 (a1.map inC) rfl (by simp) HN15.out (one_ints a1) lp1 (by omega) (by omega) HB5.out.size _ rfl (fun g2 cap2 w6 ho2 hg2 hat2 hlt2 => hK _ _ ?_)); have F6 := ap_second HB5.out HO5.out ho2 hg2; have HB6 : Hid (Below w.heap.size w w6) := hB4.trans (F6.1.mono hB4.size); have AC : Hid (IntsAt w6 ac (a0 ++ a1)) := HAc.out.below F6.1; have AB : Hid (IntsAt w6 (some ⟨g2, 0, none⟩) (a0 ++ a1)) := F6.2; have hd6 : w6.cell? ⟨Bd, od, none⟩ = some (.int .i64 4194304) := (by rw [F6.1.cell (p := ⟨Bd, od, none⟩) hBd]; exact hd0); clear ho2 hg2 hat2 F6) | (at_builtin; refine BigFrame.wpList_want (by rfl) (fun K hK => wp_append_lies _ _ _ _ rfl w4.heap.size 3 i0 _ 1 8 Tryz.underlying22 hi hz0 hz1 hz2 rfl (by omega) (.slice none 0 0) 0 [] rfl (ownsNil _ _ _ _) ⟨B0, o0, none⟩ a0.length c0 (a0.map inC) rfl (by simp) HN0.out (one_ints a0) lp0 (by omega) (by omega) (Nat.le_refl _) _ rfl (fun g cap w5 ho hg hat hlt => hK _ _ ?_)); have F5 := ap_first ho hg; have HB5 : Hid (Below w4.heap.size w4 w5) := F5.1; have HO5 : Hid (w5.ownsRow w4.heap.size 3 1 (.slice (some ⟨g, 0, none⟩) a0.length cap) a0.length (a0.map inC)) := F5.2; have HN15 : Hid (∀ (j : Nat) u, (a1.map inC)[j]? = some u → w5.cell? ((⟨B1, o1, none⟩ : Addr).add j) = some u) := fun j u hu => (by rw [addr_add, HB5.out.cell (p := ⟨B1, o1 + j, none⟩) hB1', ← addr_add]; exact HN1.out j u hu); clear ho hg hat F5 HN0) | (go_at_call 8; refine (cE _ _ _ _ _ AC.out AB.out).mono ?_; rintro e w' ⟨rfl, hw⟩; replace hw := hw.symm; subst hw))
            go_ret
            exact ⟨rfl, HB6.out⟩
    · have he' : ((textS a1).e != 0) = true := by rcases he1 with h | h <;> rw [h] <;> rfl
      generalize (textS a1).e = E at *
      generalize bL (textS a1).s = U at *
      generalize bL (jn 10 (a0.map lineN)) = T at *
      clear he1
      go_enter Tryz.func5, Tryz.ntmps5
      go_wp2_with (go_at_call 10; first | (refine (cT _ hS hP A0).mono ?_; rintro e w1 ⟨rfl, hB1⟩; clear cT) | (refine (cU _ (hS.below hB1) (hP.below hB1) (A1.below hB1)).mono ?_; rintro e w2 ⟨rfl, hbb⟩; have hB2 := Below.step0 hB1 hbb; clear hbb cU))
      go_ret
      exact ⟨rfl, hB2⟩
  · have he' : ((textS a0).e != 0) = true := by rcases he with h | h <;> rw [h] <;> rfl
    generalize (textS a0).e = E at *
    generalize (textS a1).e = E1 at *
    generalize bL (textS a0).s = T at *
    generalize bL (textS a1).s = U at *
    clear he
    go_enter Tryz.func5, Tryz.ntmps5
    go_wp2_with (go_at_call 10; first | (refine (cT _ hS hP A0).mono ?_; rintro e w1 ⟨rfl, hB1⟩; clear cT) | (refine (cU _ (hS.below hB1) (hP.below hB1) (A1.below hB1)).mono ?_; rintro e w2 ⟨rfl, hbb⟩; have hB2 := Below.step0 hB1 hbb; clear hbb cU))
    go_ret
    exact ⟨rfl, hB2⟩

set_option maxRecDepth 1000000 in
theorem contract (H : Type) (enc : TypeId × Value → H) (W : World) (base : Nat) (args : Array Value) (ds gs : List (DataW H)) (before : List MemPlace)
    (hval : ∀ (j : Nat) t v, Tryz.f5.params[j]? = some t → args[j]? = some v → Value.okWide Tryz.prog W .any base t v)
    (hW : DataW.Whole enc Tryz.prog Tryz.f5.params.toList Rows.progJoinsSpec.vars false W args.toList ds gs before) (hsh : W.ShapedOpen Tryz.prog) (hz : (DataW.weightsEach Tryz.prog (Tryz.f5.params.toList ++ (OpenSpec.ofChange Rows.progJoinsSpec).bare.plain.varTypes Tryz.prog) (ds ++ gs)).all (· ≤ reachBytes) = true) (hL : laidMet Tryz.prog Rows.progJoinsRow.laid W) :
    Calls Tryz.prog 5 args W fun e W' => ∃ v, e = .returned v ∧ Rows.progJoinsSpec.post enc Tryz.prog Tryz.f5 false true false false W args v W' := by
  have hW' := hW
  obtain ⟨p, q, hA0, hV, rfl, hfz, hnd⟩ := hW
  have hA : DataW.TrodAll enc Tryz.prog W 0 (fun _ => true) true Tryz.f5.params.toList args.toList ds p := hA0
  rw [Tryz.params5] at hA hval
  obtain ⟨v0, vs0, d0, ds0, p0, q0, hargs, rfl, rfl, h0, r0⟩ := trodAll_cons hA
  obtain ⟨v1, vs1, d1, ds1, p1, q1, rfl, rfl, rfl, h1, r1⟩ := trodAll_cons r0
  obtain ⟨rfl, rfl, rfl⟩ := trodAll_nil r1
  obtain rfl : args = #[v0, v1] := by cases args; simp_all
  obtain ⟨rfl, rfl⟩ := trodVars_none hV
  obtain ⟨pp0, ll0, cc0, rfl⟩ := okWide_slice Tryz.underlying22 (hval 0 22 v0 rfl rfl)
  have k0 := h0
  have lt0 : ∀ x ∈ p0, x.block < W.heap.size := by obtain ⟨m, hm⟩ := k0; exact DataW.trod_lt m _ _ _ hm
  obtain ⟨a0, hx0, zz0, nn0, aa0⟩ := open_ints k0
  subst hx0
  obtain ⟨pp1, ll1, cc1, rfl⟩ := okWide_slice Tryz.underlying22 (hval 1 22 v1 rfl rfl)
  have k1 := h1
  have lt1 : ∀ x ∈ p1, x.block < W.heap.size := by obtain ⟨m, hm⟩ := k1; exact DataW.trod_lt m _ _ _ hm
  obtain ⟨a1, hx1, zz1, nn1, aa1⟩ := open_ints k1
  subst hx1
  clear hA0
  obtain ⟨m, hM⟩ : ∃ m, W.cell? ⟨0, 0, none⟩ = some (.int .i64 m) := maxLen_cell W hsh
  have zM : 0 < W.heap.size := by
    rcases Nat.lt_or_ge 0 W.heap.size with h | h
    · exact h
    · rw [World.cell?] at hM; simp [Array.getElem?_eq_none h] at hM
  refine (walk pp0 cc0 a0 pp1 cc1 a1 zz0 nn0 zz1 nn1 W aa0 aa1 (shp_of_laid hL (.tail _ (.tail _ (.tail _ (.tail _ (.tail _ (.tail _ (.head _)))))))) m hM zM (pw_of_laid hL (.tail _ (.tail _ (.head _)))) (er_of_laid hL (.tail _ (.tail _ (.tail _ (.tail _ (.tail _ (.head _)))))) (.tail _ (.tail _ (.tail _ (.tail _ (.head _))))))).mono fun e W' ⟨he, bel⟩ => ?_
  subst he
  exact ⟨_, rfl, _, _, _, [], _, [], hW', trodAll_mk1 (shut_bool Tryz.underlying4 _), (trodAll_cons_mk (Below.trod laidOut (by kernel_rfl) (of_decide_eq_true (by kernel_rfl)) k0 bel lt0) (trodAll_cons_mk (Below.trod laidOut (by kernel_rfl) (of_decide_eq_true (by kernel_rfl)) k1 bel lt1) trodAll_mk0)), rfl, bel.frame _, fun h => by cases h⟩

theorem reads (os : Os) {H : Type} (enc : TypeId × Value → H) : ∃ places, DataW.whole enc Tryz.prog ((World.laidAll Tryz.prog os Rows.progJoinsRow.laid).forCall (fun _ _ => 0) ⟨#[], #[.slice none 0 0, .slice none 0 0], []⟩).memory Tryz.f5.params.toList Rows.progJoinsSpec.vars false (#[.slice none 0 0, .slice none 0 0] : Array Value).toList 8 = some ([.nil, .nil], [], places) :=
  ⟨[], by kernel_rfl⟩
theorem laid_met (os : Os) : laidMet Tryz.prog Rows.progJoinsRow.laid ((World.laidAll Tryz.prog os Rows.progJoinsRow.laid).forCall (fun _ _ => 0) ⟨#[], #[.slice none 0 0, .slice none 0 0], []⟩).memory :=
  laidMet_laidAll _ (by kernel_rfl) (by kernel_rfl)

set_option maxRecDepth 100000 in
theorem lifted (os : Os) (started : os.Started) (H : Type) (enc : TypeId × Value → H) (F : Stop.Interp) :
    ReturnsInHanded {} Tryz.checked os 5 .any ((OpenSpec.ofChange Rows.progJoinsSpec).preRow enc Tryz.prog Tryz.f5 Rows.progJoinsRow.domain false Rows.progJoinsRow.laid) (((OpenSpec.ofChange Rows.progJoinsSpec).at F).post enc Tryz.prog Tryz.f5 false true false false) := by
  obtain ⟨places, hx⟩ := reads os enc
  refine returnsInHanded_of_row (C := Tryz.checked) (s := OpenSpec.ofChange Rows.progJoinsSpec) own started (by kernel_rfl) Tryz.func5
    (witness_row_atRef (enc := enc) (C := Tryz.checked) false (World.laidAll Tryz.prog os Rows.progJoinsRow.laid) #[.slice none 0 0, .slice none 0 0] (World.laidAll_os _ _ _) (by kernel_rfl) (by kernel_rfl) (by kernel_rfl)
      (OpenSpec.preRow_of_cond 8 hx (by kernel_rfl) (fun k hk => by cases hk) (by kernel_rfl) (laid_met os))) ?_
  intro W base args ds gs before hval hW _ hcond hz hL hsh _
  exact contract H enc W base args ds gs before hval hW hsh hz hL

theorem said : Rows.ProgJoinsSaid :=
  OpenClaim.holds_of_cond 5 Tryz.f5 rfl rfl rfl rfl rfl rfl rfl ⟨rfl, rfl, rfl, rfl, rfl⟩ rfl rfl rfl rfl rfl (by kernel_rfl) Tryz.func5 (by kernel_rfl)
    (of_decide_eq_true (by kernel_rfl)) (by unfold Func.isWrapper; first | (rw [if_pos (by decide +kernel)]; kernel_rfl) | (rw [if_neg (by decide +kernel)]; exact ⟨rfl, rfl⟩))
    (fun os started H enc _ F => by rw [OpenClaim.pre_eq_preRow]; exact lifted os started H enc F)
theorem plain (f : FuncId) (fn : Func) (hf : Tryz.pinned.checked.prog.funcNamed Rows.progJoinsRow.func = some f) (hfn : Tryz.pinned.checked.prog.funcs[f]? = some fn) :
    true = Tryz.pinned.checked.prog.looks [] ∧ ∀ (j : Nat) t, fn.params[j]? = some t → Tryz.pinned.checked.prog.wantsStandIn t = false := by
  obtain rfl : f = 5 := Option.some.inj ((show Tryz.prog.funcNamed Rows.progJoinsRow.func = some 5 by kernel_rfl).symm.trans hf) |>.symm
  obtain rfl : fn = Tryz.f5 := (Option.some.inj (Tryz.func5.symm.trans hfn)).symm
  refine ⟨by kernel_rfl, fun j t ht => ?_⟩
  rw [Tryz.params5] at ht
  have hm : t ∈ [22] := by simpa using Array.mem_of_getElem? ht
  have hall : ([22].all fun u => !Tryz.prog.wantsStandIn u) = true := by kernel_rfl
  exact (show Tryz.prog.wantsStandIn t = false by simpa using List.all_eq_true.1 hall t hm)
theorem proved : Rows.ProgJoinsCardSaid :=
  Claim7.holds_tied_plain_at .later [] _ _ _ _ said (fun _ h => by cases h) (by kernel_rfl) (fun _ h => by cases h) progJoins_row_tie rfl ⟨rfl, rfl⟩ (by kernel_rfl) rfl plain (by kernel_rfl)
#print axioms proved
end Go.Proofs.YtekoonpdhadnmaaGreatDoor.progJoins
