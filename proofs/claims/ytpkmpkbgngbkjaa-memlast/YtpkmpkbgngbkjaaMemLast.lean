/- Chapter 8, P17: what was stored last is loaded; no other cell is another one; and what was handed in is as it was: for every memory, key, number and value; nothing that was in memory is turned. -/
import Derived.Test.YtpkmpkbgngbkjaaRows
import Derived.Test.YtpkmpkbgngbkjaaKeyArg
import Derived.Test.YtpkmpkbgngbkjaaValArg
import Derived.Test.YtpkmpkbgngbkjaaValsArg
import Derived.Test.YtpkmpkbgngbkjaaValsSized
import Derived.SizedLaws
import Derived.Test.YtpkmpkbgngbkjaaKeyPure
import Derived.Test.YtpkmpkbgngbkjaaCellPure
import Derived.Test.YtpkmpkbgngbkjaaMemPure
import Derived.Test.YtpkmpkbgngbkjaaMemFacts
import Derived.Test.YtpkmpkbgngbkjaaMemChk
import Derived.Test.YtpkmpkbgngbkjaaMemUse
import Derived.Test.YtpkmpkbgngbkjaaEqVal
import Derived.Test.YtpkmpkbgngbkjaaMemLoaded
import Derived.Test.YtpkmpkbgngbkjaaBoxSet
import Derived.WalkKit
import Derived.ProofKit
import Derived.OpenShut
namespace Go.Proofs.Ytpkmpkbgngbkjaa.memLast
open Go.ChangeShapes Go.WideShapes Go.ChangeAt Go.RowKit
set_option linter.unusedVariables false
set_option linter.unusedSimpArgs false

theorem own : ownKnob Try.prog.godebug = none := by kernel_rfl
theorem laidOut : laidOutB Try.prog = true := by kernel_rfl

theorem last_facts {vs : List MV} {k : K5} {off : Int} {v : MV} (h : storeE vs k off v = 0) : loadE (vs.set (pl k off) v) ⟨bits .or .i64 k.p 9, k.b, k.l, k.a, k.s⟩ off = 0 ∧ loadV (vs.set (pl k off) v) ⟨bits .or .i64 k.p 9, k.b, k.l, k.a, k.s⟩ off = v := by
  obtain ⟨hm, hc, P, _⟩ := store_yes h
  have hl := ok5_lit P.ok
  obtain ⟨o1, o2, o3, o4⟩ := or_in (p := k.p) ⟨hl.1, hl.2.1⟩
  have hE : loadE (vs.set (pl k off) v) ⟨bits .or .i64 k.p 9, k.b, k.l, k.a, k.s⟩ off = 0 := by
    refine load_mk (mem_set hm hc) (plE_mk ?_ P.s o3 P.cov ?_)
    · show ok _ _ _ _ _
      unfold ok
      dsimp only
      omega
    · rw [List.length_set]
      exact P.hi
  refine ⟨hE, ?_⟩
  unfold loadV
  rw [if_pos hE]
  have e1 : pl ⟨bits .or .i64 k.p 9, k.b, k.l, k.a, k.s⟩ off = pl k off := rfl
  have e2 : (vs.set (pl k off) v).getD (pl k off) nil0 = v := by rw [List.getD_eq_getElem?_getD, List.getElem?_set_self P.lt]; rfl
  rw [e1, e2, if_neg]
  rintro ⟨_, h8⟩
  dsimp only at h8
  rw [o4] at h8
  cases h8
theorem set_ok {vs : List MV} {j : Nat} {v : MV} (hn : mvsOk vs) (hv : mvOk v) : mvsOk (vs.set j v) := by
  intro u hu
  rcases List.mem_or_eq_of_mem_set hu with h | rfl
  · exact hn u h
  · exact hv
theorem vals_set {w : World} {s : Option Addr} {G : List MV} {kB : Nat} {x0 x1 x2 x3 x4 : Int} {u : Value} (A : ValsAt w s G) (C : Box w kB #[.int .i64 x0, .int .i64 x1, .int .i64 x2, .int .i64 x3, .int .i64 x4]) : ValsAt (w.setCell ⟨kB, 0, none⟩ u) s G := by
  cases G with
  | nil => exact .inl rfl
  | cons g G =>
    rcases A with h | ⟨B, off, e, hB, hc⟩
    · cases h
    · have h0 := hc 0 (.bool g.i) rfl
      have hne : B ≠ kB := by
        rintro rfl
        rw [C.cell, Nat.add_zero] at h0
        have ho : off = 0 ∨ off = 1 ∨ off = 2 ∨ off = 3 ∨ off = 4 ∨ 5 ≤ off := by omega
        rcases ho with rfl | rfl | rfl | rfl | rfl | ho
        · simp at h0
        · simp at h0
        · simp at h0
        · simp at h0
        · simp at h0
        · rw [Array.getElem?_eq_none (by simpa using ho)] at h0
          cases h0
      refine .inr ⟨B, off, e, by simpa [World.setCell] using hB, fun j u' hj => ?_⟩
      rw [World.cell?_setCell_other _ _ _ _ (fun x => hne (by injection x with x _ _; exact x.symm))]
      exact hc j u' hj
set_option maxHeartbeats 4000000 in
set_option maxRecDepth 1000000 in
theorem walk (s0 : Option Addr) (c0 : Nat) (a0 : List MV) (a1p a1b a1l a1a a1s : Int) (a2 : Int) (a3i : Bool) (a3n a3p a3b a3l a3a a3s : Int) (K1 : kb a1p a1b a1l a1a a1s) (b2 : -9223372036854775808 ≤ a2 ∧ a2 ≤ 9223372036854775807) (V3 : vb a3n a3p a3b a3l a3a a3s) (w : World) (n0 : mvsOk a0) (z0 : a0.length ≤ c0) (y0 : c0 ≤ maxLen) (A0 : ValsAt w s0 a0) (x0 : a0.length * 56 ≤ 140737488355328) :
    Calls Try.prog 6 #[.slice s0 a0.length c0, .agg #[.int .i64 a1p, .int .i64 a1b, .int .i64 a1l, .int .i64 a1a, .int .i64 a1s], .int .i64 a2, .agg #[.bool a3i, .int .i64 a3n, .int .i64 a3p, .int .i64 a3b, .int .i64 a3l, .int .i64 a3a, .int .i64 a3s]] w fun e w' => e = .returned (.bool true) ∧ Below w.heap.size w w' := by
  obtain ⟨k, rfl, rfl, rfl, rfl, rfl⟩ : ∃ k : K5, k.p = a1p ∧ k.b = a1b ∧ k.l = a1l ∧ k.a = a1a ∧ k.s = a1s := ⟨⟨a1p, a1b, a1l, a1a, a1s⟩, rfl, rfl, rfl, rfl, rfl⟩
  obtain ⟨v, rfl, rfl, rfl, rfl, rfl, rfl, rfl⟩ : ∃ v : MV, v.i = a3i ∧ v.n = a3n ∧ v.p = a3p ∧ v.b = a3b ∧ v.l = a3l ∧ v.a = a3a ∧ v.s = a3s := ⟨⟨a3i, a3n, a3p, a3b, a3l, a3a, a3s⟩, rfl, rfl, rfl, rfl, rfl, rfl, rfl⟩
  have hz : a0.length ≤ maxLen := Nat.le_trans z0 y0
  have lz : (a0.length : Int) ≤ 9223372036854775807 := by unfold maxLen at hz; omega
  have cC := fun w hA => ref_copyv s0 a0.length c0 a0 w hA rfl x0
  have cS := fun w hA => mem_store s0 c0 a0 k a2 v w hA n0 K1 b2 V3
  have cE := fun a b c d w ha hb => ref_eqv a b c d a0 a0 w ha hb hz
  rw [sameL_iff.2 (rfl : a0 = a0)] at cE
  have HA : Hid (∀ w', Below w.heap.size w w' → ValsAt w' s0 a0) := fun w' hb => A0.below hb
  by_cases he : storeE a0 k a2 v = 0
  · obtain ⟨hm, _, P, _⟩ := store_yes he
    have l4 := (mem_small hm).1
    have hL := store_set he
    obtain ⟨f1, f2⟩ := last_facts he
    have K2 : k5b ⟨bits .or .i64 k.p 9, k.b, k.l, k.a, k.s⟩ := ⟨or_b _ _, K1.2⟩
    have cL := fun s c w hA => mem_load s c (a0.set (pl k a2) v) ⟨bits .or .i64 k.p 9, k.b, k.l, k.a, k.s⟩ a2 w hA (set_ok n0 V3) K2 b2
    rw [f1, f2] at cL
    dsimp only at cL
    rw [he, hL] at cS
    have hlt := P.lt
    have hat := P.at_
    have hlo := P.lo
    have hhi := P.hi
    have eL : (a0.set (pl k a2) v).length = a0.length := List.length_set
    rw [eL] at cL cS
    have HL : Hid (∀ i x, (a0.set (pl k a2) v)[i]? = some x → (i = pl k a2 → x = v) ∧ (¬ i = pl k a2 → a0[i]? = some x)) := fun i x hx => by
      constructor
      · rintro rfl
        rw [List.getElem?_set_self hlt] at hx
        injection hx with hx
        exact hx.symm
      · intro hne
        rwa [List.getElem?_set_ne (Ne.symm hne)] at hx
    generalize hX : bits .or .i64 k.p 9 = X at *
    generalize hG : a0.set (pl k a2) v = G at *
    generalize pl k a2 = j at *
    have hw : IntKind.i64.wrap (k.a + a2) = (j : Int) := by rw [IntKind.wrap_i64]; omega
    have EL : Hid (G.length = a0.length) := eL
    clear he hm P hL f1 f2 K2 hG hz A0 eL hat hlo hhi
    go_enter Try.func6, Try.ntmps6
    go_upto_region 10 with (first | (go_at_call 16; refine (cC _ (HA.out _ (two _ _))).mono ?_; rintro e w1 ⟨V, rfl, hbb, o1⟩; have B1 := ((Box.new _ _ _).alloc _).below hbb; have B2 := (Box.new1 _ _ _ _).below hbb; have q1 := B1.cell; have q2 := B2.cell; have hB1 := Below.step0 (two _ _) hbb; obtain ⟨sw, dw, rfl, _, A1⟩ := own_vals rfl o1; clear hbb cC o1) | (go_at_call 13; refine (cS _ (HA.out _ hB1)).mono ?_; rintro e w2 ⟨sn, dn, rfl, hbb, A2, hd2⟩; replace B1 := B1.below hbb; replace B2 := B2.below hbb; replace q1 := B1.cell; replace q2 := B2.cell; replace A1 := A1.below hbb; have hB2 := Below.step0 hB1 hbb; clear hbb cS) | (go_at_call 17; refine (keep_loaded _).mono ?_; rintro e w3 ⟨rfl, hbb⟩; replace B1 := B1.below hbb; replace B2 := B2.below hbb; replace q1 := B1.cell; replace q2 := B2.cell; replace A1 := A1.below hbb; replace A2 := A2.below hbb; have hB3 := Below.step0 hB2 hbb; clear hbb) | (go_at_call 15; refine (cE _ _ _ _ _ (HA.out _ hB3) A1).mono ?_; rintro e w4 ⟨rfl, hbb⟩; replace B1 := B1.below hbb; replace B2 := B2.below hbb; replace q1 := B1.cell; replace q2 := B2.cell; replace A2 := A2.below hbb; have hB4 := Below.step0 hB3 hbb; clear hbb cE A1))
    go_loopw [45] (fun i wr => ∃ m : Nat, m ≤ a0.length ∧ i = .int .i64 (m : Int) ∧ Below w4.heap.size w4 wr) (fun i _ => a0.length - (intOf i).toNat)
    case atStart => exact ⟨0, Nat.zero_le _, rfl, Below.refl _ _⟩
    case round =>
      obtain ⟨m, hm, rfl, hR⟩ := hrel
      have hBr := Below.step0 hB4 hR
      have C1 := B1.below hR
      have C2 := B2.below hR
      clear q1 q2
      have q1 := C1.cell
      have q2 := C2.cell
      by_cases hlm : m < a0.length
      · have gk : (m : Int) < (a0.length : Int) := by omega
        obtain ⟨x, hx⟩ : ∃ x, G[m]? = some x := ⟨_, List.getElem?_eq_getElem (by rw [EL.out]; exact hlm)⟩
        obtain ⟨y, hy⟩ : ∃ y, a0[m]? = some y := ⟨_, List.getElem?_eq_getElem hlm⟩
        obtain ⟨hx1, hx2⟩ := HL.out m x hx
        obtain ⟨Bn, on, e1, hBn, c0, c1, c2, c3, c4, c5, c6⟩ := (A2.below hR).at hx
        obtain ⟨Bm, om, e2, hBm, d0, d1, d2, d3, d4, d5, d6⟩ := (HA.out _ hBr).at hy
        subst e1
        subst e2
        have HR : Hid (Below w4.heap.size w4 wr.drew) := hR.drew
        by_cases hmj : m = j
        · have hxv := hx1 hmj
          subst hmj
          subst hxv
          clear hx hy hx1 hx2 hR hBr cL
          go_wp2
          go_region
          all_goals go_wp2
          go_roundw
          case rel => exact ⟨m + 1, by omega, rfl, HR.out⟩
          case measure => simp [intOf]; omega
        · have hxy : x = y := by
            have := hx2 hmj
            rw [hy] at this
            injection this with this
            exact this.symm
          subst hxy
          have n1 : ((m : Int) == (j : Int)) = false := by simp; omega
          have n2 : ((m : Int) != (j : Int)) = true := by simp; omega
          clear hx hy hx1 hx2 hR hBr hmj cL
          go_wp2
          go_region
          all_goals go_wp2
          go_roundw
          case rel => exact ⟨m + 1, by omega, rfl, HR.out⟩
          case measure => simp [intOf]; omega
      · obtain rfl : m = a0.length := by omega
        have gk : ¬ (a0.length : Int) < (a0.length : Int) := by omega
        have f1 := C1.free
        have t1 := C1.lt
        have t2 := C2.lt
        have A3 := A2.below hR
        go_wp2_with (go_at_call 9; have hS1 := hBr.setCell (p := ⟨w.heap.size, 0, none⟩) (Nat.le_refl _) (.int .i64 X); refine (cL _ _ _ (vals_set A3 C1)).mono ?_; rintro e w5 ⟨rfl, hbb⟩; have D2 := (C2.setOther (k' := w.heap.size) (i := 0) (v := .int .i64 X) (by omega)).below hbb; have p2 := D2.cell; have u2 := D2.lt; have hB5 := Below.step0 hS1 hbb; clear hbb cL q1 q2 f1 t1 t2)
        go_ret
        exact ⟨rfl, hB5.alloc hB5.size _⟩
  · have hL := store_no he
    rw [hL] at cS
    have gE : (storeE a0 k a2 v != 0) = true := by simpa using he
    generalize storeE a0 k a2 v = E at *
    clear he hL A0
    go_enter Try.func6, Try.ntmps6
    go_wp2_with (first | (go_at_call 16; refine (cC _ (HA.out _ (two _ _))).mono ?_; rintro e w1 ⟨V, rfl, hbb, o1⟩; have B1 := ((Box.new _ _ _).alloc _).below hbb; have B2 := (Box.new1 _ _ _ _).below hbb; have q1 := B1.cell; have q2 := B2.cell; have hB1 := Below.step0 (two _ _) hbb; obtain ⟨sw, dw, rfl, _, A1⟩ := own_vals rfl o1; clear hbb cC o1) | (go_at_call 13; refine (cS _ (HA.out _ hB1)).mono ?_; rintro e w2 ⟨sn, dn, rfl, hbb, A2, hd2⟩; replace B1 := B1.below hbb; replace B2 := B2.below hbb; replace q1 := B1.cell; replace q2 := B2.cell; replace A1 := A1.below hbb; have hB2 := Below.step0 hB1 hbb; clear hbb cS) | (go_at_call 17; refine (keep_loaded _).mono ?_; rintro e w3 ⟨rfl, hbb⟩; replace B1 := B1.below hbb; replace B2 := B2.below hbb; replace q1 := B1.cell; replace q2 := B2.cell; replace A1 := A1.below hbb; replace A2 := A2.below hbb; have hB3 := Below.step0 hB2 hbb; clear hbb) | (go_at_call 15; refine (cE _ _ _ _ _ (HA.out _ hB3) A1).mono ?_; rintro e w4 ⟨rfl, hbb⟩; replace B1 := B1.below hbb; replace B2 := B2.below hbb; replace q1 := B1.cell; replace q2 := B2.cell; replace A2 := A2.below hbb; have hB4 := Below.step0 hB3 hbb; clear hbb cE A1))
    go_ret
    exact ⟨rfl, hB4⟩

set_option maxRecDepth 100000 in
theorem lifted (os : Os) (started : os.Started) (H : Type) (enc : TypeId × Value → H) :
    ReturnsInHanded {} Try.checked os 6 .any (Rows.memLastSpec.pre6 enc Try.prog Try.f6 Rows.memLastRow.domain false) (Rows.memLastSpec.post enc Try.prog Try.f6 false true false false) := by
  refine returnsInHanded_of_change_sized (C := Try.checked) own started (by kernel_rfl) Try.func6
    (ChangeSpec.witness6 (enc := enc) (C := Try.checked) false ⟨#[], #[.slice none 0 0, .agg #[.int .i64 0, .int .i64 0, .int .i64 0, .int .i64 0, .int .i64 0], .int .i64 0, .agg #[.bool false, .int .i64 0, .int .i64 0, .int .i64 0, .int .i64 0, .int .i64 0, .int .i64 0]], []⟩ 8 (by kernel_rfl) (by kernel_rfl) (by kernel_rfl) (by kernel_rfl)) ?_
  intro W base args ds gs before hval0 hW hcnd hsz _
  have hval : ∀ (j : Nat) t v, Try.f6.params[j]? = some t → args[j]? = some v → Value.okWide Try.prog W .any base t v := hval0
  have hW' := hW
  obtain ⟨p, q, hA0, hV, rfl, hfz, hnd⟩ := hW
  have hA : DataW.TrodAll enc Try.prog W 0 (fun _ => true) true Try.f6.params.toList args.toList ds p := hA0
  rw [Try.params6] at hA hval hsz
  obtain ⟨v0, vs0, d0, ds0, p0, q0, hargs, rfl, rfl, h0, r0⟩ := trodAll_cons hA
  obtain ⟨v1, vs1, d1, ds1, p1, q1, rfl, rfl, rfl, h1, r1⟩ := trodAll_cons r0
  obtain ⟨v2, vs2, d2, ds2, p2, q2, rfl, rfl, rfl, h2, r2⟩ := trodAll_cons r1
  obtain ⟨v3, vs3, d3, ds3, p3, q3, rfl, rfl, rfl, h3, r3⟩ := trodAll_cons r2
  obtain ⟨rfl, rfl, rfl⟩ := trodAll_nil r3
  obtain rfl : args = #[v0, v1, v2, v3] := by cases args; simp_all
  obtain ⟨rfl, rfl⟩ := trodVars_none hV
  obtain ⟨s0, len0, c0, rfl⟩ := okWide_slice Try.underlying22 (hval 0 22 v0 rfl rfl)
  have k0 := h0
  have lt0 : ∀ x ∈ p0, x.block < W.heap.size := by obtain ⟨m, hm⟩ := k0; exact DataW.trod_lt m _ _ _ hm
  obtain ⟨a0, rfl, z0, y0, n0, A0⟩ := open_vals k0
  obtain ⟨a1p, a1b, a1l, a1a, a1s, rfl, rfl, rfl, w1p, w1b, w1l, w1a, w1s⟩ := open_key (hval 1 24 v1 rfl rfl) h1
  obtain ⟨a2, rfl, rfl, rfl, w2⟩ := open_int Try.underlying3 (hval 2 3 v2 rfl rfl) h2
  obtain ⟨a3i, a3n, a3p, a3b, a3l, a3a, a3s, rfl, rfl, rfl, w3n, w3p, w3b, w3l, w3a, w3s⟩ := open_val (hval 3 26 v3 rfl rfl) h3
  clear hA0 hval0
  refine (walk s0 c0 a0 a1p a1b a1l a1a a1s a2 a3i a3n a3p a3b a3l a3a a3s ⟨bounds_i64 w1p, bounds_i64 w1b, bounds_i64 w1l, bounds_i64 w1a, bounds_i64 w1s⟩ (bounds_i64 w2) ⟨bounds_i64 w3n, bounds_i64 w3p, bounds_i64 w3b, bounds_i64 w3l, bounds_i64 w3a, bounds_i64 w3s⟩ W n0 z0 y0 A0 (vals_sized (j := 0) k0 hsz rfl rfl)).mono fun e W' ⟨he, bel⟩ => ?_
  subst he
  exact ⟨_, rfl, _, _, _, [], _, [], hW', trodAll_mk1 (shut_bool Try.underlying4 _), (trodAll_cons_mk (Below.trod laidOut (by kernel_rfl) (of_decide_eq_true (by kernel_rfl)) k0 bel lt0) (trodAll_cons_mk (shut_key w1p w1b w1l w1a w1s) (trodAll_cons_mk (shut_int Try.underlying3 w2) (trodAll_cons_mk (shut_val w3n w3p w3b w3l w3a w3s) trodAll_mk0)))), rfl, bel.frame _, fun h => by cases h⟩

theorem over : Rows.memLastRow.holds Try.pinned (OpenSpec.ofChange Rows.memLastSpec) :=
  OpenClaim.holds_of_wide 6 Try.f6 rfl rfl rfl rfl rfl rfl rfl ⟨rfl, rfl, rfl, rfl, rfl⟩ rfl rfl rfl rfl rfl (by kernel_rfl) Try.func6 (by kernel_rfl)
    (of_decide_eq_true (by kernel_rfl)) (by unfold Func.isWrapper; first | (rw [if_pos (by decide +kernel)]; kernel_rfl) | (rw [if_neg (by decide +kernel)]; exact ⟨rfl, rfl⟩))
    (fun os started H enc _ => lifted os started H enc)

theorem proved : Rows.MemLastSaid :=
  over
#print axioms proved
end Go.Proofs.Ytpkmpkbgngbkjaa.memLast
