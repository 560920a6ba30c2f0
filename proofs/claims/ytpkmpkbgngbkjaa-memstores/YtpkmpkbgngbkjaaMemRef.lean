/- The document's own MemCheck, place and Load answer what chapter 8 says of them, for whatever memory and key, and turn nothing that was in memory. -/
import Derived.Test.YtpkmpkbgngbkjaaRows
import Derived.Test.YtpkmpkbgngbkjaaBits
import Derived.Test.YtpkmpkbgngbkjaaWithin
import Derived.Test.YtpkmpkbgngbkjaaKeyPure
import Derived.Test.YtpkmpkbgngbkjaaKeyChk
import Derived.Test.YtpkmpkbgngbkjaaKeyCov
import Derived.Test.YtpkmpkbgngbkjaaCellPure
import Derived.Test.YtpkmpkbgngbkjaaCellChk
import Derived.Test.YtpkmpkbgngbkjaaValsArg
import Derived.Test.YtpkmpkbgngbkjaaMemPure
import Derived.Test.YtpkmpkbgngbkjaaMemChk
import Derived.Test.YtpkmpkbgngbkjaaMemUse
import Derived.WalkKit
import Derived.ProofKit
import Derived.OpenShut
namespace Go.Proofs.Ytpkmpkbgngbkjaa
open Go.ChangeShapes Go.WideShapes Go.ChangeAt Go.RowKit
set_option linter.unusedSimpArgs false

/-- A memory that is too large is told so at once, whatever lies there. -/
theorem ref_memcheck_large (s : Option Addr) (n c : Nat) (w : World) (h : 400 < n) :
    Calls Try.prog 12 #[.slice s n c] w fun e w' => e = .returned (.int .i64 2) ∧ w' = w := by
  have g : (400 : Int) < (n : Int) := by omega
  go_enter Try.func12, Try.ntmps12
  go_wp2
  go_ret
  exact ⟨rfl, rfl⟩
set_option maxRecDepth 100000 in
set_option maxHeartbeats 2000000 in
theorem ref_memcheck (s : Option Addr) (c : Nat) (vs : List MV) (w : World) (hA : ValsAt w s vs) :
    Calls Try.prog 12 #[.slice s vs.length c] w fun e w' => e = .returned (.int .i64 (memE vs)) ∧ Below w.heap.size w w' := by
  by_cases hl : 400 < vs.length
  · rw [mem_big hl]
    exact (ref_memcheck_large s vs.length c w hl).mono fun e w' ⟨he, hw⟩ => ⟨he, by rw [hw]; exact Below.refl _ _⟩
  · obtain ⟨R, hR⟩ : ∃ R, chkL vs = R := ⟨_, rfl⟩
    rw [mem_not hl, hR]
    have HR : Hid (chkL vs = R) := hR
    have HA : Hid (ValsAt w s vs) := hA
    have g : ¬ (400 : Int) < (vs.length : Int) := by omega
    clear hR hA
    go_enter Try.func12, Try.ntmps12
    go_wp2
    go_loopw [11] (fun i wr => ∃ k : Nat, k ≤ vs.length ∧ i = .int .i64 (k : Int) ∧ Below w.heap.size w wr ∧ chkL (vs.drop k) = R) (fun i _ => vs.length - (intOf i).toNat)
    case atStart => exact ⟨0, Nat.zero_le _, rfl, Below.refl _ _, HR.out⟩
    case round =>
      obtain ⟨k, hk, rfl, hB, hs⟩ := hrel
      by_cases hlt : k < vs.length
      · have gk : (k : Int) < (vs.length : Int) := by omega
        obtain ⟨v, hv⟩ : ∃ v, vs[k]? = some v := ⟨_, List.getElem?_eq_getElem hlt⟩
        obtain ⟨B, off, rfl, hBl, c0, c1, c2, c3, c4, c5, c6⟩ := (HA.out.below hB).at hv
        rw [drop_mv hv, chkL] at hs
        have cC := fun w => ref_cellcheck v.i v.n v.p v.b v.l v.a v.s w
        have kb : k ≤ 400 := by omega
        by_cases h1 : chk1 v = 0
        · rw [if_pos h1] at hs
          have HS : Hid (chkL (vs.drop (k + 1)) = R) := hs
          have h1' : chkV v.i v.n v.p v.b v.l v.a v.s = 0 := h1
          rw [h1'] at cC
          clear hs hv h1 h1' HA HR
          go_wp2_with (go_at_call 25; refine (cC _).mono ?_; rintro e w' ⟨rfl, hbb⟩; have hB1 := Below.step0 (hB.alloc hB.size _) hbb)
          go_roundw
          case rel => exact ⟨k + 1, by omega, rfl, hB1, HS.out⟩
          case measure => simp [intOf]; omega
        · rw [if_neg h1] at hs
          have h1' : ¬ chkV v.i v.n v.p v.b v.l v.a v.s = 0 := h1
          have hs' : chkV v.i v.n v.p v.b v.l v.a v.s = R := hs
          rw [hs'] at cC h1'
          have gR : (R != 0) = true := by simpa using h1'
          clear hs hs' hv h1 h1' HA HR
          go_wp2_with (go_at_call 25; refine (cC _).mono ?_; rintro e w' ⟨rfl, hbb⟩; have hB1 := Below.step0 (hB.alloc hB.size _) hbb)
          go_ret
          exact ⟨rfl, hB1⟩
      · obtain rfl : k = vs.length := by omega
        have gk : ¬ (vs.length : Int) < (vs.length : Int) := by omega
        rw [List.drop_length] at hs
        have hs' : R = 0 := hs.symm
        subst hs'
        clear hs HR
        go_wp2
        go_ret
        exact ⟨rfl, hB⟩
set_option maxRecDepth 100000 in
set_option maxHeartbeats 2000000 in
theorem ref_place (s : Option Addr) (c n : Nat) (k : K5) (off q : Int) (w : World) (hk : k5b k) (ho : -9223372036854775808 ≤ off ∧ off ≤ 9223372036854775807) (hn : n ≤ maxLen) :
    Calls Try.prog 22 #[.slice s n c, .agg #[.int .i64 k.p, .int .i64 k.b, .int .i64 k.l, .int .i64 k.a, .int .i64 k.s], .int .i64 off, .int .i64 q] w
      fun e w' => e = .returned (.tuple #[.int .i64 (if plE n k off q = 0 then (pl k off : Int) else 0), .int .i64 (plE n k off q)]) ∧ Below w.heap.size w w' := by
  have m1 : (n : Int) ≤ 9223372036854775807 := by unfold maxLen at hn; omega
  have cK := fun w => ref_check k.p k.b k.l k.a k.s w
  have cC := fun x w hx => ref_covers k.p k.b k.l k.a k.s x w hk hx
  have hB0 : ∀ w' : World, Below (w.alloc (.cells #[.int .i64 k.p, .int .i64 k.b, .int .i64 k.l, .int .i64 k.a, .int .i64 k.s] 24)).heap.size (w.alloc (.cells #[.int .i64 k.p, .int .i64 k.b, .int .i64 k.l, .int .i64 k.a, .int .i64 k.s] 24)) w' → Below w.heap.size w w' := fun w' h => Below.step0 ((Below.refl _ _).alloc (Nat.le_refl _) _) h
  rcases chk5_cases k with ⟨hok, hc⟩ | ⟨hno, hc⟩
  · have hc' : chkE k.p k.b k.l k.a k.s = 0 := hc
    rw [hc'] at cK
    have hl := ok5_lit hok
    by_cases hs : k.s = 0
    · cases hp : inB q k.p
      · have hr : plE n k off q = 12 := by unfold plE; rw [if_pos hc, if_pos hs, if_neg (by rw [hp]; simp)]
        rw [hr, if_neg (by decide)]
        have gs : ¬ 0 < k.s := by omega
        clear cC hr hs hc hc' hok hl
        go_enter Try.func22, Try.ntmps22
        go_wp2_with (first | (go_at_call 28; refine (cK _).mono ?_; rintro e w1 ⟨rfl, hbb⟩; have B1 := (Box.new _ _ _).below hbb; have q1 := B1.cell; have hB1 := hB0 _ hbb; clear hbb) | (go_at_call 23; refine (ref_within _ _ _).mono ?_; simp only [hp]; rintro e w2 ⟨rfl, rfl⟩))
        exact bodyPost_ret (v := .tuple #[.int .i64 0, .int .i64 12]) (by simp [results, Try.results22, go_sem]) rfl ⟨rfl, hB1⟩
      · obtain ⟨R, hR⟩ : ∃ R, plE n k off q = R := ⟨_, rfl⟩
        have hR' : (if cov5 k (k.a + off) = true ∧ k.a + off < n then (0 : Int) else 13) = R := by rw [← hR]; unfold plE; rw [if_pos hc, if_pos hs, if_pos hp]
        rw [hR]
        obtain ⟨N, hN⟩ : ∃ N, (if R = 0 then (pl k off : Int) else 0) = N := ⟨_, rfl⟩
        rw [hN]
        have HN : Hid ((if R = 0 then (pl k off : Int) else 0) = N) := hN
        have HR : Hid ((if cov5 k (k.a + off) = true ∧ k.a + off < n then (0 : Int) else 13) = R) := hR'
        have HL : Hid (ok5 k) := hok
        have gs : ¬ 0 < k.s := by omega
        have ga : 0 ≤ k.a ∧ k.a ≤ 400 := by omega
        clear hR hR' hs hc hc' hok hl hN
        go_enter Try.func22, Try.ntmps22
        go_wp2_with (first | (go_at_call 28; refine (cK _).mono ?_; rintro e w1 ⟨rfl, hbb⟩; have B1 := (Box.new _ _ _).below hbb; have q1 := B1.cell; have hB1 := hB0 _ hbb; clear hbb) | (go_at_call 23; refine (ref_within _ _ _).mono ?_; simp only [hp]; rintro e w2 ⟨rfl, rfl⟩))
        go_loopw [27] (fun i wr => ∃ j : Nat, j ≤ n ∧ i = .int .i64 (j : Int) ∧ Below w.heap.size w wr ∧ Box wr w.heap.size #[.int .i64 k.p, .int .i64 k.b, .int .i64 k.l, .int .i64 k.a, .int .i64 k.s] ∧ (cov5 k (k.a + off) = true → (j : Int) ≤ k.a + off)) (fun i _ => n - (intOf i).toNat)
        case atStart => exact ⟨0, Nat.zero_le _, rfl, hB1, B1, fun h => by have := cov5_lit.1 h; have := ok5_lit HL.out; omega⟩
        case round =>
          obtain ⟨j, hj, rfl, hB, Bx, hall⟩ := hrel
          have HALL : Hid (cov5 k (k.a + off) = true → (j : Int) ≤ k.a + off) := hall
          clear q1 B1 hB1 hall
          have q1 := Bx.cell
          by_cases hlt : j < n
          · have gk : (j : Int) < (n : Int) := by omega
            by_cases he : off = (j : Int) - k.a
            · have hjj : (j : Int) = k.a + off := by omega
              cases hv : cov5 k (j : Int)
              · have cC' := fun w => cC (j : Int) w (by omega)
                have hv' : covB k.b k.l (j : Int) = false := hv
                rw [hv'] at cC'
                have HV : Hid (cov5 k (k.a + off) = false) := by show _ = _; rw [← hjj]; exact hv
                clear hv hv' hjj cC HR
                subst he
                go_wp2_with (go_at_call 29; refine (cC' _).mono ?_; rintro e w2 ⟨rfl, hbb⟩; have hB2 := Below.step0 hB hbb; have Bx2 := Bx.below hbb)
                go_roundw
                case rel => exact ⟨j + 1, by omega, rfl, hB2, Bx2, fun h => by rw [HV.out] at h; cases h⟩
                case measure => simp [intOf]; omega
              · have cC' := fun w => cC (j : Int) w (by omega)
                have hv' : covB k.b k.l (j : Int) = true := hv
                rw [hv'] at cC'
                have hr : R = 0 := by rw [← HR.out, if_pos ⟨by rw [← hjj]; exact hv, by omega⟩]
                have hpl : (pl k off : Int) = (j : Int) := by unfold pl; omega
                have hN : N = (j : Int) := by rw [← HN.out, if_pos hr, hpl]
                subst hr
                subst hN
                clear hv hv' hjj cC HR hpl HN
                subst he
                go_wp2_with (go_at_call 29; refine (cC' _).mono ?_; rintro e w2 ⟨rfl, hbb⟩; have hB2 := Below.step0 hB hbb; have Bx2 := Bx.below hbb)
                exact bodyPost_ret (v := .tuple #[.int .i64 (j : Int), .int .i64 0]) (by simp [results, Try.results22, go_sem]) rfl ⟨rfl, hB2⟩
            · clear cC HR
              go_wp2
              go_roundw
              case rel => exact ⟨j + 1, by omega, rfl, hB, Bx, fun h => by have := HALL.out h; omega⟩
              case measure => simp [intOf]; omega
          · obtain rfl : j = n := by omega
            have gk : ¬ (j : Int) < (j : Int) := by omega
            have hr : R = 13 := by rw [← HR.out, if_neg (fun h => by have := HALL.out h.1; omega)]
            have hN : N = 0 := by rw [← HN.out, if_neg (by rw [hr]; decide)]
            subst hr
            subst hN
            clear cC HR HN
            go_wp2
            exact bodyPost_ret (v := .tuple #[.int .i64 0, .int .i64 13]) (by simp [results, Try.results22, go_sem]) rfl ⟨rfl, hB⟩
    · have hr : plE n k off q = 11 := by unfold plE; rw [if_pos hc, if_neg hs]
      rw [hr, if_neg (by decide)]
      have gs : 0 < k.s := by omega
      clear cC hr hs hc hc' hok hl
      go_enter Try.func22, Try.ntmps22
      go_wp2_with (first | (go_at_call 28; refine (cK _).mono ?_; rintro e w1 ⟨rfl, hbb⟩; have B1 := (Box.new _ _ _).below hbb; have q1 := B1.cell; have hB1 := hB0 _ hbb; clear hbb) | (go_at_call 23; refine (ref_within _ _ _).mono ?_; simp only [hp]; rintro e w2 ⟨rfl, rfl⟩))
      exact bodyPost_ret (v := .tuple #[.int .i64 0, .int .i64 11]) (by simp [results, Try.results22, go_sem]) rfl ⟨rfl, hB1⟩
  · have hc' : chkE k.p k.b k.l k.a k.s = 1 := hc
    rw [hc'] at cK
    have hr : plE n k off q = 1 := by unfold plE; rw [if_neg (by rw [hc]; decide), hc]
    rw [hr, if_neg (by decide)]
    clear cC hr hc hc' hno
    go_enter Try.func22, Try.ntmps22
    go_wp2_with (first | (go_at_call 28; refine (cK _).mono ?_; rintro e w1 ⟨rfl, hbb⟩; have B1 := (Box.new _ _ _).below hbb; have q1 := B1.cell; have hB1 := hB0 _ hbb; clear hbb) | (go_at_call 23; refine (ref_within _ _ _).mono ?_; simp only [hp]; rintro e w2 ⟨rfl, rfl⟩))
    exact bodyPost_ret (v := .tuple #[.int .i64 0, .int .i64 1]) (by simp [results, Try.results22, go_sem]) rfl ⟨rfl, hB1⟩
set_option maxHeartbeats 4000000 in
theorem ref_load (s : Option Addr) (c : Nat) (vs : List MV) (k : K5) (off : Int) (w : World) (hA : ValsAt w s vs) (hz : vs.length ≤ maxLen) (hk : k5b k) (ho : -9223372036854775808 ≤ off ∧ off ≤ 9223372036854775807) :
    Calls Try.prog 10 #[.slice s vs.length c, .agg #[.int .i64 k.p, .int .i64 k.b, .int .i64 k.l, .int .i64 k.a, .int .i64 k.s], .int .i64 off] w
      fun e w' => e = .returned (.tuple #[.agg #[.bool (loadV vs k off).i, .int .i64 (loadV vs k off).n, .int .i64 (loadV vs k off).p, .int .i64 (loadV vs k off).b, .int .i64 (loadV vs k off).l, .int .i64 (loadV vs k off).a, .int .i64 (loadV vs k off).s], .int .i64 (loadE vs k off)]) ∧ Below w.heap.size w w' := by
  have cM := fun w hA => ref_memcheck s c vs w hA
  have cP := fun w => ref_place s c vs.length k off 1 w hk ho hz
  have HA : Hid (∀ w', Below w.heap.size w w' → ValsAt w' s vs) := fun w' hb => hA.below hb
  by_cases hm : memE vs = 0
  · rw [hm] at cM
    by_cases hp : plE vs.length k off 1 = 0
    · have hE : loadE vs k off = 0 := load_mk hm hp
      obtain ⟨_, P⟩ := load_yes hE
      rw [if_pos hp, hp] at cP
      have hlt := P.lt
      obtain ⟨v, hv⟩ : ∃ v, vs[pl k off]? = some v := ⟨_, List.getElem?_eq_getElem hlt⟩
      have hD : vs.getD (pl k off) nil0 = v := by rw [List.getD_eq_getElem?_getD, hv]; rfl
      have hV : loadV vs k off = if v.i = true ∧ inB 8 k.p = false then nil0 else v := by unfold loadV; rw [if_pos hE, hD]
      rw [hE, hV]
      have hl4 := (mem_small hm).1
      have HV : Hid (vs[pl k off]? = some v) := hv
      generalize pl k off = j at *
      have gj : (j : Int) < (vs.length : Int) := by omega
      clear hE hm hp P hD hV hv
      cases hi : v.i
      · rw [if_neg (by simp)]
        go_enter Try.func10, Try.ntmps10
        go_wp2_with (first | (go_at_call 12; refine (cM _ (HA.out _ (two _ _))).mono ?_; rintro e w1 ⟨rfl, hbb⟩; have B1 := ((Box.new _ _ _).alloc _).below hbb; have B2 := (Box.new1 _ _ _ _).below hbb; have q1 := B1.cell; have q2 := B2.cell; have f2 := B2.free; have hB1 := Below.step0 (two _ _) hbb; clear hbb cM) | (go_at_call 22; refine (cP _).mono ?_; rintro e w2 ⟨rfl, hbb⟩; replace B1 := B1.below hbb; replace B2 := B2.below hbb; replace q1 := B1.cell; replace q2 := B2.cell; replace f2 := B2.free; have hB2 := Below.step0 hB1 hbb; obtain ⟨Bm, om, rfl, hBm, c0, c1, c2, c3, c4, c5, c6⟩ := (HA.out _ hB2).at HV.out; clear hbb cP) | (go_at_call 23; refine (ref_within _ _ _).mono ?_; simp only [hp8]; rintro e w3 ⟨rfl, rfl⟩))
        exact bodyPost_ret (v := .tuple #[.agg #[.bool false, .int .i64 v.n, .int .i64 v.p, .int .i64 v.b, .int .i64 v.l, .int .i64 v.a, .int .i64 v.s], .int .i64 0]) (by simp [results, Try.results10, go_sem, q2]) rfl ⟨by rw [hi], below7 hB2⟩
      · cases hp8 : inB 8 k.p
        · rw [if_pos ⟨rfl, rfl⟩]
          go_enter Try.func10, Try.ntmps10
          go_wp2_with (first | (go_at_call 12; refine (cM _ (HA.out _ (two _ _))).mono ?_; rintro e w1 ⟨rfl, hbb⟩; have B1 := ((Box.new _ _ _).alloc _).below hbb; have B2 := (Box.new1 _ _ _ _).below hbb; have q1 := B1.cell; have q2 := B2.cell; have f2 := B2.free; have hB1 := Below.step0 (two _ _) hbb; clear hbb cM) | (go_at_call 22; refine (cP _).mono ?_; rintro e w2 ⟨rfl, hbb⟩; replace B1 := B1.below hbb; replace B2 := B2.below hbb; replace q1 := B1.cell; replace q2 := B2.cell; replace f2 := B2.free; have hB2 := Below.step0 hB1 hbb; obtain ⟨Bm, om, rfl, hBm, c0, c1, c2, c3, c4, c5, c6⟩ := (HA.out _ hB2).at HV.out; clear hbb cP) | (go_at_call 23; refine (ref_within _ _ _).mono ?_; simp only [hp8]; rintro e w3 ⟨rfl, rfl⟩))
          exact bodyPost_ret (v := .tuple #[.agg #[.bool false, .int .i64 0, .int .i64 0, .int .i64 0, .int .i64 0, .int .i64 0, .int .i64 0], .int .i64 0]) (by simp [results, Try.results10, go_sem, q2]) rfl ⟨rfl, below7 hB2⟩
        · rw [if_neg (by simp)]
          go_enter Try.func10, Try.ntmps10
          go_wp2_with (first | (go_at_call 12; refine (cM _ (HA.out _ (two _ _))).mono ?_; rintro e w1 ⟨rfl, hbb⟩; have B1 := ((Box.new _ _ _).alloc _).below hbb; have B2 := (Box.new1 _ _ _ _).below hbb; have q1 := B1.cell; have q2 := B2.cell; have f2 := B2.free; have hB1 := Below.step0 (two _ _) hbb; clear hbb cM) | (go_at_call 22; refine (cP _).mono ?_; rintro e w2 ⟨rfl, hbb⟩; replace B1 := B1.below hbb; replace B2 := B2.below hbb; replace q1 := B1.cell; replace q2 := B2.cell; replace f2 := B2.free; have hB2 := Below.step0 hB1 hbb; obtain ⟨Bm, om, rfl, hBm, c0, c1, c2, c3, c4, c5, c6⟩ := (HA.out _ hB2).at HV.out; clear hbb cP) | (go_at_call 23; refine (ref_within _ _ _).mono ?_; simp only [hp8]; rintro e w3 ⟨rfl, rfl⟩))
          exact bodyPost_ret (v := .tuple #[.agg #[.bool true, .int .i64 v.n, .int .i64 v.p, .int .i64 v.b, .int .i64 v.l, .int .i64 v.a, .int .i64 v.s], .int .i64 0]) (by simp [results, Try.results10, go_sem, q2]) rfl ⟨by rw [hi], below7 hB2⟩
    · have hE : loadE vs k off = plE vs.length k off 1 := by unfold loadE; rw [if_pos hm]
      have hV := load_no (show ¬ loadE vs k off = 0 by rw [hE]; exact hp)
      rw [if_neg hp] at cP
      rw [hE, hV]
      have ge : (plE vs.length k off 1 != 0) = true := by simpa using hp
      generalize plE vs.length k off 1 = E at *
      clear hE hV hp hm
      go_enter Try.func10, Try.ntmps10
      go_wp2_with (first | (go_at_call 12; refine (cM _ (HA.out _ (two _ _))).mono ?_; rintro e w1 ⟨rfl, hbb⟩; have B1 := ((Box.new _ _ _).alloc _).below hbb; have B2 := (Box.new1 _ _ _ _).below hbb; have q1 := B1.cell; have q2 := B2.cell; have f2 := B2.free; have hB1 := Below.step0 (two _ _) hbb; clear hbb cM) | (go_at_call 22; refine (cP _).mono ?_; rintro e w2 ⟨rfl, hbb⟩; replace B1 := B1.below hbb; replace B2 := B2.below hbb; replace q1 := B1.cell; replace q2 := B2.cell; replace f2 := B2.free; have hB2 := Below.step0 hB1 hbb; clear hbb cP) | (go_at_call 23; refine (ref_within _ _ _).mono ?_; simp only [hp8]; rintro e w3 ⟨rfl, rfl⟩))
      exact bodyPost_ret (v := .tuple #[.agg #[.bool false, .int .i64 0, .int .i64 0, .int .i64 0, .int .i64 0, .int .i64 0, .int .i64 0], .int .i64 E]) (by simp [results, Try.results10, go_sem, q2]) rfl ⟨rfl, below7 hB2⟩
  · have hE : loadE vs k off = memE vs := by unfold loadE; rw [if_neg hm]
    have hV := load_no (show ¬ loadE vs k off = 0 by rw [hE]; exact hm)
    rw [hE, hV]
    have ge : (memE vs != 0) = true := by simpa using hm
    generalize memE vs = E at *
    clear hE hV hm
    go_enter Try.func10, Try.ntmps10
    go_wp2_with (first | (go_at_call 12; refine (cM _ (HA.out _ (two _ _))).mono ?_; rintro e w1 ⟨rfl, hbb⟩; have B1 := ((Box.new _ _ _).alloc _).below hbb; have B2 := (Box.new1 _ _ _ _).below hbb; have q1 := B1.cell; have q2 := B2.cell; have f2 := B2.free; have hB1 := Below.step0 (two _ _) hbb; clear hbb cM) | (go_at_call 22; refine (cP _).mono ?_; rintro e w2 ⟨rfl, hbb⟩; replace B1 := B1.below hbb; replace B2 := B2.below hbb; replace q1 := B1.cell; replace q2 := B2.cell; replace f2 := B2.free; have hB2 := Below.step0 hB1 hbb; clear hbb cP) | (go_at_call 23; refine (ref_within _ _ _).mono ?_; simp only [hp8]; rintro e w3 ⟨rfl, rfl⟩))
    exact bodyPost_ret (v := .tuple #[.agg #[.bool false, .int .i64 0, .int .i64 0, .int .i64 0, .int .i64 0, .int .i64 0, .int .i64 0], .int .i64 E]) (by simp [results, Try.results10, go_sem, q2]) rfl ⟨rfl, below7 hB1⟩
end Go.Proofs.Ytpkmpkbgngbkjaa
