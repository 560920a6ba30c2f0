/- mem.Check and mem.place, and the document's own, answer what chapter 8 says of them, for whatever memory and key, and turn nothing that was in memory. The calls of package num answer what chapter 1 says of them, for whatever numbers, and touch no memory. -/
import Derived.Test.YtlfeglljpfihhaaGreatDoorRows
import Derived.Test.YtlfeglljpfihhaaGreatDoorCardBaseX
import Derived.Test.YtlfeglljpfihhaaGreatDoorCellChkX
import Derived.Test.YtlfeglljpfihhaaGreatDoorKeyCovX
import Derived.Test.YtlfeglljpfihhaaGreatDoorKeyChkX
import Derived.Test.YtlfeglljpfihhaaGreatDoorValArgX
import Derived.Test.YtlfeglljpfihhaaGreatDoorMemPureX
import Derived.WalkKit
import Derived.ProofKit
import Derived.OpenShut
namespace Go.Proofs.YtlfeglljpfihhaaGreatDoor
section
open Go.ChangeShapes Go.WideShapes Go.ChangeAt Go.RowKit
set_option linter.unusedSimpArgs false

theorem drop_mv {vs : List MV} {k : Nat} {v : MV} (h : vs[k]? = some v) : vs.drop k = v :: vs.drop (k + 1) := by
  obtain ⟨hk, e⟩ := List.getElem?_eq_some_iff.1 h
  rw [List.drop_eq_getElem_cons hk, e]
/-- A memory that is too large is told so at once, whatever lies there. -/
theorem mem_check_large (s : Option Addr) (n c : Nat) (w : World) (h : 400 < n) :
    Calls Tryz.prog 43 #[.slice s n c] w fun e w' => e = .returned (.int .i64 2) ∧ w' = w := by
  have g : (400 : Int) < (n : Int) := by omega
  go_enter Tryz.func43, Tryz.ntmps43
  go_wp2
  go_ret
  exact ⟨rfl, rfl⟩
set_option maxRecDepth 100000 in
set_option maxHeartbeats 2000000 in
theorem mem_check (s : Option Addr) (c : Nat) (vs : List MV) (w : World) (hA : ValsAt w s vs) (hn : mvsOk vs) :
    Calls Tryz.prog 43 #[.slice s vs.length c] w fun e w' => e = .returned (.int .i64 (memE vs)) ∧ Below w.heap.size w w' := by
  by_cases hl : 400 < vs.length
  · rw [mem_big hl]
    exact (mem_check_large s vs.length c w hl).mono fun e w' ⟨he, hw⟩ => ⟨he, by rw [hw]; exact Below.refl _ _⟩
  · obtain ⟨R, hR⟩ : ∃ R, chkL vs = R := ⟨_, rfl⟩
    rw [mem_not hl, hR]
    have HR : Hid (chkL vs = R) := hR
    have HA : Hid (ValsAt w s vs) := hA
    have HN : Hid (mvsOk vs) := hn
    have g : ¬ (400 : Int) < (vs.length : Int) := by omega
    clear hR hA hn
    go_enter Tryz.func43, Tryz.ntmps43
    go_wp2
    go_loopw [11] (fun i wr => ∃ k : Nat, k ≤ vs.length ∧ i = .int .i64 (k : Int) ∧ Below w.heap.size w wr ∧ chkL (vs.drop k) = R) (fun i _ => vs.length - (intOf i).toNat)
    case atStart => exact ⟨0, Nat.zero_le _, rfl, Below.refl _ _, HR.out⟩
    case round =>
      obtain ⟨k, hk, rfl, hB, hs⟩ := hrel
      by_cases hlt : k < vs.length
      · have gk : (k : Int) < (vs.length : Int) := by omega
        obtain ⟨v, hv⟩ : ∃ v, vs[k]? = some v := ⟨_, List.getElem?_eq_getElem hlt⟩
        obtain ⟨B, off, rfl, hBl, c0, c1, c2, c3, c4, c5, c6⟩ := (HA.out.below hB).at hv
        have hok : mvOk v := mvs_at HN.out hv
        rw [drop_mv hv, chkL] at hs
        have cC := fun w => cell_check v.i v.n v.p v.b v.l v.a v.s w hok
        have kb : k ≤ 400 := by omega
        by_cases h1 : chk1 v = 0
        · rw [if_pos h1] at hs
          have HS : Hid (chkL (vs.drop (k + 1)) = R) := hs
          have h1' : chkV v.i v.n v.p v.b v.l v.a v.s = 0 := h1
          rw [h1'] at cC
          clear hs hv h1 h1' hok HN HA HR
          go_wp2_with (go_at_call 41; refine (cC _).mono ?_; rintro e w' ⟨rfl, hbb⟩; have hB1 := Below.step0 (hB.alloc hB.size _) hbb)
          go_roundw
          case rel => exact ⟨k + 1, by omega, rfl, hB1, HS.out⟩
          case measure => simp [intOf]; omega
        · rw [if_neg h1] at hs
          have h1' : ¬ chkV v.i v.n v.p v.b v.l v.a v.s = 0 := h1
          have hs' : chkV v.i v.n v.p v.b v.l v.a v.s = R := hs
          rw [hs'] at cC h1'
          have gR : (R != 0) = true := by simpa using h1'
          clear hs hs' hv h1 h1' hok HN HA HR
          go_wp2_with (go_at_call 41; refine (cC _).mono ?_; rintro e w' ⟨rfl, hbb⟩; have hB1 := Below.step0 (hB.alloc hB.size _) hbb)
          go_ret
          exact ⟨rfl, hB1⟩
      · obtain rfl : k = vs.length := by omega
        have gk : ¬ (vs.length : Int) < (vs.length : Int) := by omega
        rw [List.drop_length] at hs
        have hs' : R = 0 := hs.symm
        subst hs'
        clear hs HR
        go_wp2
        go_ret
        exact ⟨rfl, hB⟩
set_option maxHeartbeats 2000000 in
theorem mem_place (s : Option Addr) (c n : Nat) (k : K5) (off q : Int) (w : World) (hk : k5b k) (ho : -9223372036854775808 ≤ off ∧ off ≤ 9223372036854775807) :
    Calls Tryz.prog 108 #[.slice s n c, .agg #[.int .i64 k.p, .int .i64 k.b, .int .i64 k.l, .int .i64 k.a, .int .i64 k.s], .int .i64 off, .int .i64 q] w
      fun e w' => e = .returned (.tuple #[.int .i64 (if plE n k off q = 0 then (pl k off : Int) else 0), .int .i64 (plE n k off q)]) ∧ Below w.heap.size w w' := by
  have cK := fun w => keys_check k.p k.b k.l k.a k.s w hk
  have hB0 : ∀ w' : World, Below (w.alloc (.cells #[.int .i64 k.p, .int .i64 k.b, .int .i64 k.l, .int .i64 k.a, .int .i64 k.s] 23)).heap.size (w.alloc (.cells #[.int .i64 k.p, .int .i64 k.b, .int .i64 k.l, .int .i64 k.a, .int .i64 k.s] 23)) w' → Below w.heap.size w w' := fun w' h => Below.step0 ((Below.refl _ _).alloc (Nat.le_refl _) _) h
  rcases chk5_cases k with ⟨hok, hc⟩ | ⟨hno, hc⟩
  · have hc' : chkE k.p k.b k.l k.a k.s = 0 := hc
    rw [hc'] at cK
    obtain ⟨hcw, hcw2⟩ := cov_wrap hok ho
    have hx : -9223372036854775808 ≤ IntKind.i64.wrap (k.a + off) ∧ IntKind.i64.wrap (k.a + off) ≤ 9223372036854775807 := by rw [IntKind.wrap_i64]; omega
    have cC := fun w => keys_covers k.p k.b k.l k.a k.s (IntKind.i64.wrap (k.a + off)) w hk hx
    have hcw' : covB k.b k.l (IntKind.i64.wrap (k.a + off)) = cov5 k (k.a + off) := hcw
    rw [hcw'] at cC
    by_cases hs : k.s = 0
    · have gs : (k.s != 0) = false := by simpa using hs
      cases hp : inB q k.p
      · have hr : plE n k off q = 12 := by unfold plE; rw [if_pos hc, if_pos hs, if_neg (by rw [hp]; simp)]
        rw [hr, if_neg (by decide)]
        clear hcw hcw2 hcw' cC hr hs hc hc' hok
        go_enter Tryz.func108, Tryz.ntmps108
        go_wp2_with (first | (go_at_call 42; refine (cK _).mono ?_; rintro e w1 ⟨rfl, hbb⟩; have B1 := (Box.new _ _ _).below hbb; have q1 := B1.cell; have hB1 := hB0 _ hbb; clear hbb) | (go_at_call 35; refine (perm_within _ _ _).mono ?_; simp only [hp]; rintro e w2 ⟨rfl, rfl⟩))
        exact bodyPost_ret (v := .tuple #[.int .i64 0, .int .i64 12]) (by simp [results, Tryz.results108, go_sem]) rfl ⟨rfl, hB1⟩
      · cases hv : cov5 k (k.a + off)
        · have hr : plE n k off q = 13 := by unfold plE; rw [if_pos hc, if_pos hs, if_pos hp, if_neg (by rw [hv]; simp)]
          rw [hr, if_neg (by decide)]
          rw [hv] at cC
          generalize hx : IntKind.i64.wrap (k.a + off) = x at *
          clear hcw hcw2 hcw' hr hs hc hc' hok ho
          go_enter Tryz.func108, Tryz.ntmps108
          go_wp2_with (first | (go_at_call 42; refine (cK _).mono ?_; rintro e w1 ⟨rfl, hbb⟩; have B1 := (Box.new _ _ _).below hbb; have q1 := B1.cell; have hB1 := hB0 _ hbb; clear hbb) | (go_at_call 35; refine (perm_within _ _ _).mono ?_; simp only [hp]; rintro e w2 ⟨rfl, rfl⟩) | (go_at_call 66; refine (cC _).mono ?_; rintro e w2 ⟨rfl, hbb⟩; have hB2 := Below.step0 hB1 hbb; clear hbb))
          exact bodyPost_ret (v := .tuple #[.int .i64 0, .int .i64 13]) (by simp [results, Tryz.results108, go_sem]) rfl ⟨rfl, hB2⟩
        · have hw := hcw2 hv
          have hl := ok5_lit hok
          have hcl := cov5_lit.1 hv
          rw [hv, hw] at cC
          have bd : 0 ≤ k.a + off ∧ k.a + off ≤ 400 := by omega
          by_cases hlt : k.a + off < n
          · have hr : plE n k off q = 0 := plE_mk hok hs hp hv hlt
            have hat := (plE_yes hr).at_
            rw [hr, if_pos rfl, hat]
            have gl : ¬ (n : Int) ≤ k.a + off := by omega
            clear hcw hcw2 hcw' hr hs hc hc' hok hx hl hcl hat hv hlt
            go_enter Tryz.func108, Tryz.ntmps108
            go_wp2_with (first | (go_at_call 42; refine (cK _).mono ?_; rintro e w1 ⟨rfl, hbb⟩; have B1 := (Box.new _ _ _).below hbb; have q1 := B1.cell; have hB1 := hB0 _ hbb; clear hbb) | (go_at_call 35; refine (perm_within _ _ _).mono ?_; simp only [hp]; rintro e w2 ⟨rfl, rfl⟩) | (go_at_call 66; refine (cC _).mono ?_; rintro e w2 ⟨rfl, hbb⟩; have hB2 := Below.step0 hB1 hbb; clear hbb))
            exact bodyPost_ret (v := .tuple #[.int .i64 (k.a + off), .int .i64 0]) (by simp [results, Tryz.results108, go_sem]) rfl ⟨rfl, hB2⟩
          · have hr : plE n k off q = 13 := by unfold plE; rw [if_pos hc, if_pos hs, if_pos hp, if_neg (fun h => hlt h.2)]
            rw [hr, if_neg (by decide)]
            have gl : (n : Int) ≤ k.a + off := by omega
            clear hcw hcw2 hcw' hr hs hc hc' hok hx hl hcl hv hlt
            go_enter Tryz.func108, Tryz.ntmps108
            go_wp2_with (first | (go_at_call 42; refine (cK _).mono ?_; rintro e w1 ⟨rfl, hbb⟩; have B1 := (Box.new _ _ _).below hbb; have q1 := B1.cell; have hB1 := hB0 _ hbb; clear hbb) | (go_at_call 35; refine (perm_within _ _ _).mono ?_; simp only [hp]; rintro e w2 ⟨rfl, rfl⟩) | (go_at_call 66; refine (cC _).mono ?_; rintro e w2 ⟨rfl, hbb⟩; have hB2 := Below.step0 hB1 hbb; clear hbb))
            exact bodyPost_ret (v := .tuple #[.int .i64 0, .int .i64 13]) (by simp [results, Tryz.results108, go_sem]) rfl ⟨rfl, hB2⟩
    · have gs : (k.s != 0) = true := by simpa using hs
      have hr : plE n k off q = 11 := by unfold plE; rw [if_pos hc, if_neg hs]
      rw [hr, if_neg (by decide)]
      clear hcw hcw2 hcw' cC hr hs hc hc' hok
      go_enter Tryz.func108, Tryz.ntmps108
      go_wp2_with (first | (go_at_call 42; refine (cK _).mono ?_; rintro e w1 ⟨rfl, hbb⟩; have B1 := (Box.new _ _ _).below hbb; have q1 := B1.cell; have hB1 := hB0 _ hbb; clear hbb) | (go_at_call 35; refine (perm_within _ _ _).mono ?_; simp only [hp]; rintro e w2 ⟨rfl, rfl⟩) | (go_at_call 66; refine (cC _).mono ?_; rintro e w2 ⟨rfl, hbb⟩; have hB2 := Below.step0 hB1 hbb; clear hbb))
      exact bodyPost_ret (v := .tuple #[.int .i64 0, .int .i64 11]) (by simp [results, Tryz.results108, go_sem]) rfl ⟨rfl, hB1⟩
  · have hc' : chkE k.p k.b k.l k.a k.s = 1 := hc
    rw [hc'] at cK
    have hr : plE n k off q = 1 := by unfold plE; rw [if_neg (by rw [hc]; decide), hc]
    rw [hr, if_neg (by decide)]
    clear hr hc hc' hno
    go_enter Tryz.func108, Tryz.ntmps108
    go_wp2_with (first | (go_at_call 42; refine (cK _).mono ?_; rintro e w1 ⟨rfl, hbb⟩; have B1 := (Box.new _ _ _).below hbb; have q1 := B1.cell; have hB1 := hB0 _ hbb; clear hbb) | (go_at_call 35; refine (perm_within _ _ _).mono ?_; simp only [hp]; rintro e w2 ⟨rfl, rfl⟩) | (go_at_call 66; refine (cC _).mono ?_; rintro e w2 ⟨rfl, hbb⟩; have hB2 := Below.step0 hB1 hbb; clear hbb))
    exact bodyPost_ret (v := .tuple #[.int .i64 0, .int .i64 1]) (by simp [results, Tryz.results108, go_sem]) rfl ⟨rfl, hB1⟩
end
section
open Go.ChangeShapes Go.WideShapes Go.ChangeAt Go.RowKit

theorem wb (a : Int) : -2147483648 ≤ wrap32 a ∧ wrap32 a ≤ 2147483647 := by unfold wrap32; omega
theorem ret_int {k : IntKind} {a b : Int} (h : a = b) : Ending.returned (.int k a) = .returned (.int k b) := by rw [h]
theorem mul_b (a b : Int) (ha : -2147483648 ≤ a ∧ a ≤ 2147483647) (hb : -2147483648 ≤ b ∧ b ≤ 2147483647) :
    -4611686018427387904 ≤ a * b ∧ a * b ≤ 4611686018427387904 := by
  have h : (a * b).natAbs ≤ 2147483648 * 2147483648 := by
    rw [Int.natAbs_mul]; exact Nat.mul_le_mul (by omega) (by omega)
  omega
theorem div_b (a b : Int) (ha : -2147483648 ≤ a ∧ a ≤ 2147483647) : -2147483648 ≤ a.tdiv b ∧ a.tdiv b ≤ 2147483648 := by
  have h : (a.tdiv b).natAbs ≤ a.natAbs := by rw [Int.natAbs_tdiv]; exact Nat.div_le_self _ _
  omega
theorem w_bmod (n : Int) : wrap32 n = Int.bmod n 4294967296 := by unfold wrap32 Int.bmod; simp only []; split <;> omega
theorem w_add (a b : Int) : wrap32 (wrap32 a + wrap32 b) = wrap32 (a + b) := by simp only [w_bmod, Int.bmod_add_bmod, Int.add_bmod_bmod]
theorem w_sub (a b : Int) : wrap32 (wrap32 a - wrap32 b) = wrap32 (a - b) := by simp only [w_bmod, Int.bmod_sub_bmod, Int.sub_bmod_bmod]
theorem w_mul (a b : Int) : wrap32 (wrap32 a * wrap32 b) = wrap32 (a * b) := by simp only [w_bmod, Int.bmod_mul_bmod, Int.mul_bmod_bmod]
theorem w_w (a : Int) : wrap32 (wrap32 a) = wrap32 a := by simp only [w_bmod, Int.bmod_bmod]
theorem w_in (a : Int) (h : -2147483648 ≤ a ∧ a ≤ 2147483647) : wrap32 a = a := by unfold wrap32; omega
def addI (a b : Int) : Int := wrap32 (wrap32 a + wrap32 b)
def subI (a b : Int) : Int := wrap32 (wrap32 a - wrap32 b)
def mulI (a b : Int) : Int := wrap32 (wrap32 a * wrap32 b)
theorem addI_w (a b : Int) : addI a b = wrap32 (a + b) := w_add a b
theorem subI_w (a b : Int) : subI a b = wrap32 (a - b) := w_sub a b
theorem mulI_w (a b : Int) : mulI a b = wrap32 (a * b) := w_mul a b
def lessI (a b : Int) : Int := if wrap32 a < wrap32 b then 1 else 0

theorem num_wrap (a : Int) (w : World) :
    Calls Tryz.prog 72 #[.int .i64 a] w fun e w' => e = .returned (.int .i64 (wrap32 a)) ∧ w' = w := by
  have h1 := (wb a).1
  have h2 := (wb a).2
  go_enter Tryz.func72, Tryz.ntmps72
  go_wp2
  go_ret
  exact ⟨rfl, rfl⟩
theorem num_add (a b : Int) (w : World) :
    Calls Tryz.prog 102 #[.int .i64 a, .int .i64 b] w fun e w' => e = .returned (.int .i64 (addI a b)) ∧ w' = w := by
  unfold addI
  have h1 := wb a
  have h2 := wb b
  go_enter Tryz.func102, Tryz.ntmps102
  go_wp2_with (go_at_call 72; refine (num_wrap _ _).mono ?_; rintro e w' ⟨rfl, rfl⟩)
  go_ret
  exact ⟨rfl, rfl⟩
theorem num_sub (a b : Int) (w : World) :
    Calls Tryz.prog 103 #[.int .i64 a, .int .i64 b] w fun e w' => e = .returned (.int .i64 (subI a b)) ∧ w' = w := by
  unfold subI
  have h1 := wb a
  have h2 := wb b
  go_enter Tryz.func103, Tryz.ntmps103
  go_wp2_with (go_at_call 72; refine (num_wrap _ _).mono ?_; rintro e w' ⟨rfl, rfl⟩)
  go_ret
  exact ⟨rfl, rfl⟩
theorem num_mul (a b : Int) (w : World) :
    Calls Tryz.prog 104 #[.int .i64 a, .int .i64 b] w fun e w' => e = .returned (.int .i64 (mulI a b)) ∧ w' = w := by
  unfold mulI
  have h1 := mul_b _ _ (wb a) (wb b)
  go_enter Tryz.func104, Tryz.ntmps104
  go_wp2_with (go_at_call 72; refine (num_wrap _ _).mono ?_; rintro e w' ⟨rfl, rfl⟩)
  go_ret
  exact ⟨rfl, rfl⟩
theorem num_less (a b : Int) (w : World) :
    Calls Tryz.prog 107 #[.int .i64 a, .int .i64 b] w fun e w' => e = .returned (.int .i64 (lessI a b)) ∧ w' = w := by
  unfold lessI
  by_cases h : wrap32 a < wrap32 b
  · rw [if_pos h]
    go_enter Tryz.func107, Tryz.ntmps107
    go_wp2_with (go_at_call 72; refine (num_wrap _ _).mono ?_; rintro e w' ⟨rfl, rfl⟩)
    go_ret
    exact ⟨rfl, rfl⟩
  · rw [if_neg h]
    go_enter Tryz.func107, Tryz.ntmps107
    go_wp2_with (go_at_call 72; refine (num_wrap _ _).mono ?_; rintro e w' ⟨rfl, rfl⟩)
    go_ret
    exact ⟨rfl, rfl⟩
theorem num_div_no (a b : Int) (w : World) (h : wrap32 b = 0) :
    Calls Tryz.prog 106 #[.int .i64 a, .int .i64 b] w fun e w' => e = .returned (.tuple #[.int .i64 0, .int .i64 14]) ∧ w' = w := by
  go_enter Tryz.func106, Tryz.ntmps106
  go_wp2_with (go_at_call 72; refine (num_wrap _ _).mono ?_; rintro e w' ⟨rfl, rfl⟩)
  go_ret2
  exact ⟨rfl, rfl⟩
theorem num_div_yes (a b : Int) (w : World) (h : (wrap32 b == 0) = false) :
    Calls Tryz.prog 106 #[.int .i64 a, .int .i64 b] w fun e w' => e = .returned (.tuple #[.int .i64 (wrap32 ((wrap32 a).tdiv (wrap32 b))), .int .i64 0]) ∧ w' = w := by
  have h1 := div_b (wrap32 a) (wrap32 b) (wb a)
  have h0 : ¬ wrap32 b = 0 := by simpa using h
  go_enter Tryz.func106, Tryz.ntmps106
  go_wp2_with (go_at_call 72; refine (num_wrap _ _).mono ?_; rintro e w' ⟨rfl, rfl⟩)
  go_ret2
  exact ⟨rfl, rfl⟩
def divI (a b : Int) : Int := if wrap32 b = 0 then 0 else wrap32 ((wrap32 a).tdiv (wrap32 b))
def divE (b : Int) : Int := if wrap32 b = 0 then 14 else 0
theorem num_div (a b : Int) (w : World) :
    Calls Tryz.prog 106 #[.int .i64 a, .int .i64 b] w fun e w' => e = .returned (.tuple #[.int .i64 (divI a b), .int .i64 (divE b)]) ∧ w' = w := by
  unfold divI divE
  by_cases h : wrap32 b = 0
  · simp only [h, if_true]; exact num_div_no a b w h
  · simp only [h, if_false]; exact num_div_yes a b w (by simpa using h)
theorem ref_rest (n m : Int) (w : World) (hn : -9223372036854775808 ≤ n ∧ n ≤ 9223372036854775807) (hm : 1 ≤ m ∧ m ≤ 4611686018427387904) :
    Calls Tryz.prog 6 #[.int .i64 n, .int .i64 m] w fun e w' => e = .returned (.int .i64 (n % m)) ∧ w' = w := by
  have m0 : ¬ m = 0 := by omega
  have b1 := Int.emod_nonneg n m0
  have b2 := Int.emod_lt_of_pos n (b := m) (by omega)
  by_cases h : 0 ≤ n
  · go_enter Tryz.func6, Tryz.ntmps6
    go_wp2
    go_ret
    exact ⟨rfl, rfl⟩
  · have e1 := Int.tmod_eq_emod (a := n) (b := m)
    have e2 : (m.natAbs : Int) = m := by omega
    by_cases hd : m ∣ n
    · rw [if_pos (Or.inr hd), Int.natCast_zero, Int.sub_zero] at e1
      have e3 := Int.emod_eq_zero_of_dvd hd
      rw [e3] at e1
      rw [e3]
      clear hd e2 b1 b2 e3
      go_enter Tryz.func6, Tryz.ntmps6
      go_wp2
      go_ret
      exact ⟨rfl, rfl⟩
    · rw [if_neg (by simp only [hd, or_false]; exact h), e2] at e1
      have e3 : n % m = n.tmod m + m := by omega
      have l1 : n.tmod m < 0 := by omega
      have l2 : - m ≤ n.tmod m := by omega
      have l3 : 0 ≤ n.tmod m + m := by omega
      rw [e3]
      clear hd e1 e2 b1 b2 e3
      go_enter Tryz.func6, Tryz.ntmps6
      go_wp2
      go_ret
      exact ⟨rfl, rfl⟩
end
end Go.Proofs.YtlfeglljpfihhaaGreatDoor
