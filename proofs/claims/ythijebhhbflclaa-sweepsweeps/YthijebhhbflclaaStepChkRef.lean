/- custodianref.StepCheck answers what chapter 9 says of a machine, for whatever machine, and turns nothing that was in memory. -/
import Derived.Test.YthijebhhbflclaaRows
import Derived.Test.YthijebhhbflclaaBits
import Derived.Test.YthijebhhbflclaaKeyPure
import Derived.Test.YthijebhhbflclaaKeyChk
import Derived.Test.YthijebhhbflclaaCellPure
import Derived.Test.YthijebhhbflclaaCellChk
import Derived.Test.YthijebhhbflclaaValsArg
import Derived.Test.YthijebhhbflclaaMemPure
import Derived.Test.YthijebhhbflclaaMemChk
import Derived.Test.YthijebhhbflclaaMemRefChk
import Derived.Test.YthijebhhbflclaaMachArg
import Derived.Test.YthijebhhbflclaaStepRow
import Derived.Test.YthijebhhbflclaaStepChk
import Derived.Test.YthijebhhbflclaaStepChk2
import Derived.WalkKit
import Derived.ProofKit
import Derived.OpenShut
import Derived.Deep.MidRow
import Derived.Deep.AppendLies
import Derived.OwnWalk
namespace Go.Proofs.Ythijebhhbflclaa
open Go.ChangeShapes Go.WideShapes Go.ChangeAt Go.RowKit
set_option linter.unusedSimpArgs false

def k5V (k : K5) : MV := ⟨true, 0, k.p, k.b, k.l, k.a, k.s⟩
theorem chk_k5V (k : K5) : chk1 (k5V k) = chk5 k := by
  show keyE 0 k.p k.b k.l k.a k.s = chkE k.p k.b k.l k.a k.s
  unfold keyE
  rcases chk5_cases k with ⟨ho, h⟩ | ⟨ho, h⟩
  · have h' : chkE k.p k.b k.l k.a k.s = 0 := h
    rw [h']
    simp
    exact ho
  · have h' : chkE k.p k.b k.l k.a k.s = 1 := h
    rw [h']
    simp
    exact ho
theorem chkL_app (us vs : List MV) : chkL (us ++ vs) = if chkL us = 0 then chkL vs else chkL us := by
  induction us with
  | nil => simp [chkL]
  | cons u us ih =>
    have e : ∀ (a : MV) (l : List MV), chkL (a :: l) = if chk1 a = 0 then chkL l else chk1 a := fun _ _ => rfl
    rw [List.cons_append, e, e]
    by_cases h : chk1 u = 0
    · rw [if_pos h, if_pos h, ih]
    · rw [if_neg h, if_neg h, if_neg h]
theorem Box.low {w w' : World} {k g : Nat} {c : Array Value} (h : Box w k c) (hb : Below g w w') (hk : k < g) : Box w' k c :=
  ⟨Nat.lt_of_lt_of_le h.1 hb.size, fun o => by rw [hb.cell (p := ⟨k, o, none⟩) hk]; exact h.2.1 o, fun o => by rw [hb.frozen (p := ⟨k, o, none⟩) hk]; exact h.2.2 o⟩
theorem fr_two (f : FR) : chkL [k5V f.c, f.d] = frE f := by
  unfold frE
  simp only [chkL, chk_k5V]
  by_cases h : chk5 f.c = 0
  · rw [if_pos h, if_pos h]
    by_cases h2 : chk1 f.d = 0
    · rw [if_pos h2, h2]
    · rw [if_neg h2]
  · rw [if_neg h, if_neg h]
theorem told_out {n : Int} : outB n (-2147483648) 2147483647 = false ↔ wrap32 n = n := by
  unfold outB wrap32
  rw [decide_eq_false_iff_not]
  omega
set_option maxRecDepth 100000 in
set_option maxHeartbeats 4000000 in
theorem ref_stepcheck (x : MC) (q : MA) (w : World) (hA : McAt w x q) (hO : McB x) :
    Calls Try.prog 19 #[.agg (mcC x q).toArray] w fun e w' => e = .returned (.int .i64 (mcE x)) ∧ Below w.heap.size w w' := by
  obtain ⟨i0, hi, hz0, hz1, hz2⟩ := info_v
  have HC := mc_cells x q hO.r8
  obtain ⟨M, hM⟩ : ∃ M, (mcC x q).toArray = M := ⟨_, rfl⟩
  rw [hM] at HC ⊢
  obtain ⟨-, zM, rM, c0, c1, c2, c3, c4, c5, c6, c7⟩ := HC
  have r8 := hO.r8
  obtain ⟨L, hL⟩ : ∃ L, x.r.flatMap mvC = L := ⟨_, rfl⟩
  have hlen : L.length = 8 * 7 := by rw [← hL, mv_len, hO.r8]
  have hload : ∀ j u, L[j]? = some u → (w.alloc (.cells M 31)).cell? ((⟨w.heap.size, 0, none⟩ : Addr).add j) = some u := fun j u hj => by
    rw [addr_add, Nat.zero_add, cell_new]
    exact rM j u (by rw [hL]; exact hj)
  have h1L : ∀ u ∈ L, u.oneCell' = true := by rw [← hL]; exact mv_one _
  have HL : Hid (L.length = 8 * 7 ∧ (∀ j u, L[j]? = some u → (w.alloc (.cells M 31)).cell? ((⟨w.heap.size, 0, none⟩ : Addr).add j) = some u) ∧ (∀ u ∈ L, u.oneCell' = true)) := ⟨hlen, hload, h1L⟩
  have HX : Hid (L ++ mvC (k5V x.k) = (x.r ++ [k5V x.k]).flatMap mvC) := by
    show _ = _
    rw [List.flatMap_append, hL]
    rfl
  have cM := fun w hA => ref_memcheck q.m q.cm x.m w hA
  have HA : Hid (∀ w', Below w.heap.size w w' → McAt w' x q) := fun w' hb => hA.below hb
  obtain ⟨R, hR⟩ : ∃ R, mcE x = R := ⟨_, rfl⟩
  rw [hR]
  have HE : Hid (mcE x = R) := hR
  clear hA hM rM hR hO hL hlen hload zM h1L
  go_enter Try.func19, Try.ntmps19
  go_wp2_with (first | (at_builtin; refine wpList_append_lies _ rfl _ (.tmp 17) _ rfl w.heap.size 25 i0 _ 7 56 Try.underlying27 hi hz0 hz1 hz2 rfl (by decide) (.slice none 0 0) 0 [] rfl (World.ownsRow_nil _ _ _ _) ⟨w.heap.size, 0, none⟩ 8 8 L rfl HL.out.1 HL.out.2.1 HL.out.2.2 (by omega) (by unfold maxLen; omega) (by omega) (by simp) _ rfl ?_; intro g cap w1 hown hgrow hat hlt; have hb1 := Below.grown (Below.refl _ _) hgrow (Nat.le_refl _) (fun k e => by cases e); have B1 := (Box.new _ _ _).below hb1; have q1 := B1.cell; have hW1 := Below.step0 ((Below.refl w.heap.size w).alloc (Nat.le_refl _) _) hb1; have hgs : Hid (g = w.heap.size + 1) := hat.elim (fun h => by cases h) (fun h => by show g = w.heap.size + 1; simpa using h); rw [Nat.zero_add, List.nil_append] at hown; clear hgrow hb1 hat HL) | (at_builtin; refine wpList_append_lies _ rfl _ (.tmp 23) _ rfl w.heap.size 25 i0 _ 7 56 Try.underlying27 hi hz0 hz1 hz2 rfl (by decide) (.slice (some ⟨g, 0, none⟩) 8 cap) 8 L rfl (hown.alloc _) ⟨w1.heap.size, 0, none⟩ 1 1 (mvC (k5V x.k)) rfl rfl (fun j u hj => by rw [addr_add, Nat.zero_add, cell_new]; exact (List.getElem?_toArray (xs := mvC (k5V x.k))).trans hj) (mv_one [k5V x.k]) (by omega) (by unfold maxLen; omega) (by omega) (by have := hW1.size; simp; omega) _ rfl ?_; intro g2 cap2 w2 hown2 hgrow2 hat2 hlt2; have hgs2 := hgs.out; have hb2 := Below.grown (Below.refl g _) hgrow2 (by simp; omega) (fun k e => by have e' : some g = some k := e; injection e' with e'; omega); replace B1 := (B1.alloc _).low hb2 (by omega); replace q1 := B1.cell; have hW2 := (hW1.alloc hW1.size _).trans (hb2.mono (by omega)); obtain ⟨sa, ca, hV, hca, hrow, -⟩ := own_row hown2; rw [HX.out] at hrow; have hVa := hrow.vals; rw [show (8 + 1 : Nat) = 9 from rfl] at *; rw [hV]; clear hgrow2 hb2 hat2 hown hown2 hV hrow HX hlt hlt2 hgs hgs2))
  go_loopw [27] (fun i wr => ∃ k : Nat, k ≤ 9 ∧ i = .int .i64 (k : Int) ∧ Below w2.heap.size w2 wr ∧ chkL ((x.r ++ [k5V x.k]).drop k) = chkL (x.r ++ [k5V x.k])) (fun i _ => 9 - (intOf i).toNat)
  case atStart => exact ⟨0, Nat.zero_le _, rfl, Below.refl _ _, rfl⟩
  case round =>
    obtain ⟨k, hk, rfl, hB, hs⟩ := hrel
    have hW : Below w.heap.size w wr := Below.step0 hW2 hB
    have l9 : (x.r ++ [k5V x.k]).length = 9 := by rw [List.length_append, r8]; rfl
    by_cases hlt : k < 9
    · have gk : (k : Int) < 9 := by omega
      obtain ⟨v, hv⟩ : ∃ v, (x.r ++ [k5V x.k])[k]? = some v := ⟨_, List.getElem?_eq_getElem (by omega)⟩
      obtain ⟨Bv, ov, rfl, hBl, d0, d1, d2, d3, d4, d5, d6⟩ := (hVa.below hB).at hv
      have cC := fun w => ref_cellcheck v.i v.n v.p v.b v.l v.a v.s w
      rw [drop_mv hv, chkL] at hs
      by_cases h1 : chk1 v = 0
      · rw [if_pos h1] at hs
        have HS : Hid (chkL ((x.r ++ [k5V x.k]).drop (k + 1)) = chkL (x.r ++ [k5V x.k])) := hs
        have h1' : chkV v.i v.n v.p v.b v.l v.a v.s = 0 := h1
        rw [h1'] at cC
        clear hs hv h1 h1' HE HA cM hVa q1
        go_wp2_with (go_at_call 32; refine (cC _).mono ?_; rintro e w' ⟨rfl, hbb⟩; have hB1 := hB.trans (((Below.refl _ _).alloc hB.size _).trans (hbb.mono (by have := hB.size; simp at this ⊢; omega))))
        go_roundw
        case rel => exact ⟨k + 1, by omega, rfl, hB1, HS.out⟩
        case measure => simp [intOf]; omega
      · rw [if_neg h1] at hs
        have hE : R = chk1 v := by
          rw [← HE.out]
          rw [chkL_app] at hs
          unfold mcE
          by_cases hr : chkL x.r = 0
          · rw [if_pos hr] at hs ⊢
            have e : chkL [k5V x.k] = chk5 x.k := by
              show (if chk1 (k5V x.k) = 0 then 0 else chk1 (k5V x.k)) = _
              rw [chk_k5V]
              by_cases h : chk5 x.k = 0
              · rw [if_pos h, h]
              · rw [if_neg h]
            rw [e] at hs
            rw [hs, if_neg (by rw [← hs]; exact h1)]
          · rw [if_neg hr] at hs ⊢
            exact hs.symm
        have h1' : ¬ chkV v.i v.n v.p v.b v.l v.a v.s = 0 := h1
        have hE' : chkV v.i v.n v.p v.b v.l v.a v.s = R := hE.symm
        rw [hE'] at cC h1'
        have gR : (R != 0) = true := by simpa using h1'
        clear hs hv h1 h1' HE HA cM hE hE' hVa q1
        go_wp2_with (go_at_call 32; refine (cC _).mono ?_; rintro e w' ⟨rfl, hbb⟩; have hB1 := hB.trans (((Below.refl _ _).alloc hB.size _).trans (hbb.mono (by have := hB.size; simp at this ⊢; omega))))
        go_ret
        exact ⟨rfl, Below.step0 hW2 hB1⟩
    · obtain rfl : k = 9 := by omega
      rw [← l9, List.drop_length, chkL_app] at hs
      have hr : chkL x.r = 0 ∧ chk5 x.k = 0 := by
        by_cases hr : chkL x.r = 0
        · rw [if_pos hr] at hs
          refine ⟨hr, ?_⟩
          have e : (if chk1 (k5V x.k) = 0 then 0 else chk1 (k5V x.k)) = 0 := hs.symm
          rw [chk_k5V] at e
          by_cases h : chk5 x.k = 0
          · exact h
          · rw [if_neg h] at e
            exact e
        · rw [if_neg hr] at hs
          exact absurd hs.symm hr
      have hE : mcE x = (if memE x.m = 0 then (if stkE x.s = 0 then outE x.o else stkE x.s) else memE x.m) := by unfold mcE; rw [if_pos hr.1, if_pos hr.2]
      rw [HE.out] at hE
      replace B1 : Box wr w.heap.size M := B1.below hB
      replace q1 := B1.cell
      clear hs HE hB hVa hr l9
      have HS : Hid (FrsAt wr q.s x.s) := (HA.out _ hW).s
      have HO : Hid (NumsAt wr q.o x.o) := (HA.out _ hW).o
      by_cases h2 : memE x.m = 0
      · rw [if_pos h2] at hE
        rw [h2] at cM
        clear h2
        by_cases h3 : 16 < x.s.length
        · have e3 : stkE x.s = 2 := by unfold stkE; exact if_pos h3
          rw [e3] at hE
          have hE' : R = 2 := hE
          subst hE'
          have g3 : (16 : Int) < (x.s.length : Int) := by omega
          clear hE e3
          go_wp2_with (go_at_call 33; refine (cM _ (HA.out _ hW).m).mono ?_; rintro e w3 ⟨rfl, hbb⟩; replace B1 := B1.below hbb; replace q1 := B1.cell; replace hW := Below.step0 hW hbb; clear hbb cM)
          go_ret
          exact ⟨rfl, hW⟩
        · have e3 : stkE x.s = frsE x.s := by unfold stkE; exact if_neg h3
          rw [e3] at hE
          have g3 : ¬ (16 : Int) < (x.s.length : Int) := by omega
          have HE : Hid (R = if frsE x.s = 0 then outE x.o else frsE x.s) := hE
          clear hE e3
          go_wp2_with (go_at_call 33; refine (cM _ (HA.out _ hW).m).mono ?_; rintro e w3 ⟨rfl, hbb⟩; replace B1 := B1.below hbb; replace q1 := B1.cell; replace hW := Below.step0 hW hbb; clear hbb cM)
          go_loopw [50] (fun i wr => ∃ k : Nat, k ≤ x.s.length ∧ i = .int .i64 (k : Int) ∧ Below w3.heap.size w3 wr ∧ frsE (x.s.drop k) = frsE x.s) (fun i _ => x.s.length - (intOf i).toNat)
          case atStart => exact ⟨0, Nat.zero_le _, rfl, Below.refl _ _, rfl⟩
          case round =>
            obtain ⟨k, hk, rfl, hB, hs⟩ := hrel
            have hX : Below w.heap.size w wr := Below.step0 hW hB
            by_cases hlt : k < x.s.length
            · have gk : (k : Int) < (x.s.length : Int) := by omega
              obtain ⟨f, hv⟩ : ∃ f, x.s[k]? = some f := ⟨_, List.getElem?_eq_getElem hlt⟩
              obtain ⟨Bf, of, hqs, hBl, d0, d1, d2, d3, d4, d5, d6, d7, d8, d9, d10, d11⟩ := (HA.out _ hX).s.at hv
              rw [drop_one hv, frsE] at hs
              rw [hqs]
              clear HO HS
              go_wp2
              obtain ⟨wq, hwq⟩ : ∃ wq, wq = ((wr.alloc (.cells #[.int .i64 f.c.p, .int .i64 f.c.b, .int .i64 f.c.l, .int .i64 f.c.a, .int .i64 f.c.s, .bool f.d.i, .int .i64 f.d.n, .int .i64 f.d.p, .int .i64 f.d.b, .int .i64 f.d.l, .int .i64 f.d.a, .int .i64 f.d.s] 45)).alloc (.cells #[.bool true, .int .i64 0, .int .i64 f.c.p, .int .i64 f.c.b, .int .i64 f.c.l, .int .i64 f.c.a, .int .i64 f.c.s, .bool f.d.i, .int .i64 f.d.n, .int .i64 f.d.p, .int .i64 f.d.b, .int .i64 f.d.l, .int .i64 f.d.a, .int .i64 f.d.s] 25)) := ⟨_, rfl⟩
              rw [← hwq]
              have hVq : ValsAt wq (some ⟨wr.heap.size + 1, 0, none⟩) [k5V f.c, f.d] := by
                rw [hwq]
                exact RowAt.vals (row_box (cs := [k5V f.c, f.d].flatMap mvC) (Box.new1 _ _ _ _))
              have hQ : Below w3.heap.size w3 wq := by rw [hwq]; exact (hB.alloc hB.size _).alloc (by have := hB.size; simp; omega) _
              clear hwq hB d0 d1 d2 d3 d4 d5 d6 d7 d8 d9 d10 d11
              go_loopw [61] (fun i wr => ∃ k : Nat, k ≤ 2 ∧ i = .int .i64 (k : Int) ∧ Below wq.heap.size wq wr ∧ chkL ([k5V f.c, f.d].drop k) = frE f) (fun i _ => 2 - (intOf i).toNat)
              case atStart => exact ⟨0, Nat.zero_le _, rfl, Below.refl _ _, fr_two f⟩
              case round =>
                obtain ⟨m, hm, rfl, hB2, hs2⟩ := hrel
                by_cases hm2 : m < 2
                · have gm : (m : Int) < 2 := by omega
                  obtain ⟨v, hv2⟩ : ∃ v, [k5V f.c, f.d][m]? = some v := ⟨_, List.getElem?_eq_getElem (by simpa using hm2)⟩
                  obtain ⟨Bv, ov, hBv, hBl2, d0, d1, d2, d3, d4, d5, d6⟩ := (hVq.below hB2).at hv2
                  injection hBv with hBv
                  injection hBv with hBv1 hBv2
                  subst hBv1
                  subst hBv2
                  rw [Nat.zero_add] at d0 d1 d2 d3 d4 d5 d6
                  have cC := fun w => ref_cellcheck v.i v.n v.p v.b v.l v.a v.s w
                  rw [drop_mv hv2, chkL] at hs2
                  by_cases h1 : chk1 v = 0
                  · rw [if_pos h1] at hs2
                    have HS2 : Hid (chkL ([k5V f.c, f.d].drop (m + 1)) = frE f) := hs2
                    have h1' : chkV v.i v.n v.p v.b v.l v.a v.s = 0 := h1
                    rw [h1'] at cC
                    clear hs2 hv2 h1 h1' HE HA hVq q1 hs
                    go_wp2_with (go_at_call 32; refine (cC _).mono ?_; rintro e w' ⟨rfl, hbb⟩; have hB1 := hB2.trans (((Below.refl _ _).alloc hB2.size _).trans (hbb.mono (by have := hB2.size; simp at this ⊢; omega))))
                    go_roundw
                    case rel => exact ⟨m + 1, by omega, rfl, hB1, HS2.out⟩
                    case measure => simp [intOf]; omega
                  · rw [if_neg h1] at hs2
                    have hE : R = chk1 v := by
                      rw [HE.out, ← hs, ← hs2, if_neg h1, if_neg h1]
                    have h1' : ¬ chkV v.i v.n v.p v.b v.l v.a v.s = 0 := h1
                    have hE' : chkV v.i v.n v.p v.b v.l v.a v.s = R := hE.symm
                    rw [hE'] at cC h1'
                    have gR : (R != 0) = true := by simpa using h1'
                    clear hs2 hv2 h1 h1' HE HA hE hE' hVq q1 hs
                    go_wp2_with (go_at_call 32; refine (cC _).mono ?_; rintro e w' ⟨rfl, hbb⟩; have hB1 := hB2.trans (((Below.refl _ _).alloc hB2.size _).trans (hbb.mono (by have := hB2.size; simp at this ⊢; omega))))
                    go_ret
                    exact ⟨rfl, Below.step0 (Below.step0 hW hQ) hB1⟩
                · obtain rfl : m = 2 := by omega
                  have hf0 : frE f = 0 := hs2.symm
                  rw [if_pos hf0] at hs
                  have HS2 : Hid (frsE (x.s.drop (k + 1)) = frsE x.s) := hs
                  have HB2 : Hid (Below w3.heap.size w3 wr) := Below.step0 hQ hB2
                  clear hs hs2 hf0 hVq q1 HE HA
                  go_wp2
                  go_roundw
                  case rel => exact ⟨k + 1, by omega, rfl, HB2.out, HS2.out⟩
                  case measure => simp [intOf]; omega
            · obtain rfl : k = x.s.length := by omega
              have gk : ¬ (x.s.length : Int) < (x.s.length : Int) := by omega
              rw [List.drop_length] at hs
              have hE : R = outE x.o := by rw [HE.out, ← hs]; exact if_pos rfl
              replace B1 : Box wr w.heap.size M := B1.below hB
              replace q1 := B1.cell
              have HO2 : Hid (NumsAt wr q.o x.o) := (HA.out _ hX).o
              clear hs HE hB HO HS HA
              by_cases h4 : 100 < x.o.length
              · have e4 : outE x.o = 2 := by unfold outE; exact if_pos h4
                rw [e4] at hE
                subst hE
                have g4 : (100 : Int) < (x.o.length : Int) := by omega
                clear e4
                go_wp2
                go_ret
                exact ⟨rfl, hX⟩
              · have e4 : outE x.o = toldE x.o := by unfold outE; exact if_neg h4
                rw [e4] at hE
                have HE : Hid (toldE x.o = R) := hE.symm
                have g4 : ¬ (100 : Int) < (x.o.length : Int) := by omega
                clear e4 hE
                go_wp2
                go_loop [79] (fun i => ∃ k : Nat, k ≤ x.o.length ∧ i = .int .i64 (k : Int) ∧ toldE (x.o.drop k) = R) (fun i => x.o.length - (intOf i).toNat)
                case atStart => exact ⟨0, Nat.zero_le _, rfl, HE.out⟩
                case round =>
                  obtain ⟨m, hm, rfl, hs⟩ := hrel
                  by_cases hlt : m < x.o.length
                  · have gk : (m : Int) < (x.o.length : Int) := by omega
                    obtain ⟨n, hv⟩ : ∃ n, x.o[m]? = some n := ⟨_, List.getElem?_eq_getElem hlt⟩
                    obtain ⟨Bn, on, hqo, hBl, d0⟩ := HO2.out.at hv
                    rw [drop_one hv, toldE] at hs
                    rw [hqo]
                    have kb : m ≤ 100 := by omega
                    have cN := fun w => ref_isnumber n w
                    by_cases h1 : wrap32 n = n
                    · rw [if_pos h1] at hs
                      rw [told_out.2 h1] at cN
                      have HS : Hid (toldE (x.o.drop (m + 1)) = R) := hs
                      clear hs hv h1 HO2 HE q1
                      go_wp2_with (go_at_call 34; refine (cN _).mono ?_; rintro e w4 ⟨rfl, rfl⟩)
                      go_round
                      case rel => exact ⟨m + 1, by omega, rfl, HS.out⟩
                      case measure => simp [intOf]; omega
                    · rw [if_neg h1] at hs
                      subst hs
                      have ho : outB n (-2147483648) 2147483647 = true := by
                        cases h : outB n (-2147483648) 2147483647
                        · exact absurd (told_out.1 h) h1
                        · rfl
                      rw [ho] at cN
                      clear hv h1 HO2 HE ho q1
                      go_wp2_with (go_at_call 34; refine (cN _).mono ?_; rintro e w4 ⟨rfl, rfl⟩)
                      go_ret
                      exact ⟨rfl, hX⟩
                  · obtain rfl : m = x.o.length := by omega
                    have gk : ¬ (x.o.length : Int) < (x.o.length : Int) := by omega
                    rw [List.drop_length] at hs
                    have hs' : R = 0 := hs.symm
                    subst hs'
                    clear hs HE HO2
                    go_wp2
                    go_ret
                    exact ⟨rfl, hX⟩
      · rw [if_neg h2] at hE
        rw [← hE] at cM h2
        have gR : (R != 0) = true := by simpa using h2
        clear h2 hE
        go_wp2_with (go_at_call 33; refine (cM _ (HA.out _ hW).m).mono ?_; rintro e w3 ⟨rfl, hbb⟩; replace B1 := B1.below hbb; replace q1 := B1.cell; replace hW := Below.step0 hW hbb; clear hbb cM)
        go_ret
        exact ⟨rfl, hW⟩
end Go.Proofs.Ythijebhhbflclaa
