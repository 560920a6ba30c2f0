/- package step: what the machine's methods do to it. -/
import Derived.Test.YtlfeglljpfihhaaGreatDoorRows
import Derived.Test.YtlfeglljpfihhaaGreatDoorCardBaseX
import Derived.Test.YtlfeglljpfihhaaGreatDoorValArgX
import Derived.Test.YtlfeglljpfihhaaGreatDoorMemPureX
import Derived.Test.YtlfeglljpfihhaaGreatDoorMemChkX
import Derived.Test.YtlfeglljpfihhaaGreatDoorKeyCovX
import Derived.Test.YtlfeglljpfihhaaGreatDoorKeySealX
import Derived.Test.YtlfeglljpfihhaaGreatDoorStepRowX
import Derived.Test.YtlfeglljpfihhaaGreatDoorStepOffX
import Derived.Test.YtlfeglljpfihhaaGreatDoorStepOwnedX
import Derived.WalkKit
import Derived.ProofKit
import Derived.OpenShut
import Derived.WalkLawsBesides
import Derived.RegionCalls
namespace Go.Proofs.YtlfeglljpfihhaaGreatDoor
open Go.ChangeShapes Go.WideShapes Go.ChangeAt Go.RowKit
set_option linter.unusedSimpArgs false
set_option linter.unusedVariables false
set_option maxRecDepth 100000

theorem step_oneif (b : Bool) (w : World) : Calls Tryz.prog 115 #[.bool b] w fun r w' => r = .returned (.int .i64 (if b = true then 1 else 0)) ∧ w' = w := by
  cases b
  all_goals
    go_enter Tryz.func115, Tryz.ntmps115
    go_wp2
    go_ret
    exact ⟨rfl, rfl⟩
section
variable {w : World} {S bb : Nat} {x : MC} {q : MA} {i : ID} {n : K5} {k : Nat} {v : MV}
theorem St.put (h : St w S bb x q i n) (hk : k < 8) (u : MV) :
    St (((((((w.setCell ⟨S, k * 7, none⟩ (.bool u.i)).setCell ⟨S, k * 7 + 1, none⟩ (.int .i64 u.n)).setCell ⟨S, k * 7 + 2, none⟩ (.int .i64 u.p)).setCell ⟨S, k * 7 + 3, none⟩ (.int .i64 u.b)).setCell ⟨S, k * 7 + 4, none⟩ (.int .i64 u.l)).setCell ⟨S, k * 7 + 5, none⟩ (.int .i64 u.a)).setCell ⟨S, k * 7 + 6, none⟩ (.int .i64 u.s)) S bb (putR x k u) q i n ∧
    Off S w (((((((w.setCell ⟨S, k * 7, none⟩ (.bool u.i)).setCell ⟨S, k * 7 + 1, none⟩ (.int .i64 u.n)).setCell ⟨S, k * 7 + 2, none⟩ (.int .i64 u.p)).setCell ⟨S, k * 7 + 3, none⟩ (.int .i64 u.b)).setCell ⟨S, k * 7 + 4, none⟩ (.int .i64 u.l)).setCell ⟨S, k * 7 + 5, none⟩ (.int .i64 u.a)).setCell ⟨S, k * 7 + 6, none⟩ (.int .i64 u.s)) := by
  have hl : (stC x q i n).length = 73 := by unfold stC; rw [List.length_append, mc_len h.r8]; rfl
  have hO : Off S w (((((((w.setCell ⟨S, k * 7, none⟩ (.bool u.i)).setCell ⟨S, k * 7 + 1, none⟩ (.int .i64 u.n)).setCell ⟨S, k * 7 + 2, none⟩ (.int .i64 u.p)).setCell ⟨S, k * 7 + 3, none⟩ (.int .i64 u.b)).setCell ⟨S, k * 7 + 4, none⟩ (.int .i64 u.l)).setCell ⟨S, k * 7 + 5, none⟩ (.int .i64 u.a)).setCell ⟨S, k * 7 + 6, none⟩ (.int .i64 u.s)) := (((((((Off.refl _ _).set _ _).set _ _).set _ _).set _ _).set _ _).set _ _).set _ _
  refine ⟨⟨?_, ⟨(hO.mc h.at_ h.far).m, (hO.mc h.at_ h.far).s, (hO.mc h.at_ h.far).o, h.at_.c⟩, h.far, (by unfold putR; rw [List.length_set]; exact h.r8), Nat.lt_of_lt_of_le h.lb hO.size⟩, hO⟩
  have b := ((((((h.box.setL (v := .bool u.i) (j := k * 7) (by omega)).setL (v := .int .i64 u.n) (j := k * 7 + 1) (by simp only [List.length_set]; omega)).setL (v := .int .i64 u.p) (j := k * 7 + 2) (by simp only [List.length_set]; omega)).setL (v := .int .i64 u.b) (j := k * 7 + 3) (by simp only [List.length_set]; omega)).setL (v := .int .i64 u.l) (j := k * 7 + 4) (by simp only [List.length_set]; omega)).setL (v := .int .i64 u.a) (j := k * 7 + 5) (by simp only [List.length_set]; omega)).setL (v := .int .i64 u.s) (j := k * 7 + 6) (by simp only [List.length_set]; omega)
  rw [set_reg x q i n k u h.r8 hk] at b
  exact b
theorem St.reg? (h : St w S bb x q i n) (hk : k < 8) : ∃ v, x.r[k]? = some v := ⟨_, List.getElem?_eq_getElem (by rw [h.r8]; exact hk)⟩
set_option maxHeartbeats 300000 in
theorem step_putnumber (h : St w S bb x q i n) (ha : i.a = (k : Int)) (hk : k < 8) (m : Int) :
    Calls Tryz.prog 76 #[.pointer (some ⟨S, 0, none⟩), .int .i64 m] w fun r w' => r = .returned (.tuple #[]) ∧ Off S w w' ∧ St w' S bb (putR x k (nV m)) q i n := by
  obtain ⟨v, hv⟩ := h.reg? hk
  obtain ⟨c0, c1, c2, c3, c4, c5, c6⟩ := h.reg hv
  have hia := h.cells.ia
  rw [ha] at hia
  have f := h.box.free
  have g1 : (k : Int) < 8 := by omega
  obtain ⟨p1, p2⟩ := St.put h hk (nV m)
  have H1 : Hid (St _ S bb (putR x k (nV m)) q i n) := p1
  have H2 : Hid (Off S w _) := p2
  clear p1 p2 h
  go_enter Tryz.func76, Tryz.ntmps76
  go_wp2
  go_region
  all_goals go_wp2
  go_end0
  exact ⟨rfl, H2.out.drew, H1.out.drew⟩
set_option maxHeartbeats 300000 in
theorem step_putkey (h : St w S bb x q i n) (ha : i.a = (k : Int)) (hk : k < 8) (m : K5) :
    Calls Tryz.prog 85 #[.pointer (some ⟨S, 0, none⟩), .agg #[.int .i64 m.p, .int .i64 m.b, .int .i64 m.l, .int .i64 m.a, .int .i64 m.s]] w fun r w' => r = .returned (.tuple #[]) ∧ Off S w w' ∧ St w' S bb (putR x k (kV m)) q i n := by
  obtain ⟨v, hv⟩ := h.reg? hk
  obtain ⟨p1, p2⟩ := St.put h hk (kV m)
  have H1 : Hid (St _ S bb (putR x k (kV m)) q i n) := p1
  have H2 : Hid (Off S w _) := p2
  obtain ⟨c0, c1, c2, c3, c4, c5, c6⟩ := h.reg hv
  have hia := h.cells.ia
  rw [ha] at hia
  have f := h.box.free
  have hlt := h.box.lt
  have hne : ¬ S = w.heap.size := fun e => by omega
  have hne2 : ¬ w.heap.size = S := fun e => hne e.symm
  have g1 : (k : Int) < 8 := by omega
  clear p1 p2 h
  go_enter Tryz.func85, Tryz.ntmps85
  go_wp2
  go_region
  all_goals go_wp2
  go_end0
  exact ⟨rfl, (H2.out.alloc _).drew, (H1.out.below ((Below.refl _ _).alloc (Nat.le_refl _) _)).drew⟩
/-- The place of the key by which it goes on is another one. -/
theorem St.next (h : St w S bb x q i n) (t : Int) : St (w.setCell ⟨S, 71, none⟩ (.int .i64 t)) S bb x q i { n with a := t } ∧ Off S w (w.setCell ⟨S, 71, none⟩ (.int .i64 t)) := by
  have hl : (stC x q i n).length = 73 := by unfold stC; rw [List.length_append, mc_len h.r8]; rfl
  have hO : Off S w (w.setCell ⟨S, 71, none⟩ (.int .i64 t)) := (Off.refl _ _).set _ _
  refine ⟨⟨?_, hO.mc h.at_ h.far, h.far, h.r8, Nat.lt_of_lt_of_le h.lb hO.size⟩, hO⟩
  have b := h.box.setL (v := .int .i64 t) (j := 71) (by omega)
  have e : (stC x q i n).set 71 (.int .i64 t) = stC x q i { n with a := t } := by
    unfold stC
    rw [List.set_append_right _ _ (by rw [mc_len h.r8]; omega), mc_len h.r8]
    rfl
  rw [e] at b
  exact b
set_option maxHeartbeats 300000 in
theorem step_jump_yes (h : St w S bb x q i n) (b1 : 0 ≤ x.k.a + i.c) (b2 : x.k.a + i.c ≤ 400) :
    Calls Tryz.prog 79 #[.pointer (some ⟨S, 0, none⟩)] w fun r w' => r = .returned (.tuple #[]) ∧ Off S w w' ∧ St w' S bb x q i { n with a := x.k.a + i.c } := by
  have hc := h.cells
  have hk := hc.k3
  have hic := hc.ic
  have hn := hc.n3
  have f := h.box.free
  obtain ⟨t, ht⟩ : ∃ t, t = x.k.a + i.c := ⟨_, rfl⟩
  rw [← ht] at b1 b2 ⊢
  obtain ⟨p1, p2⟩ := St.next h t
  have H1 : Hid (St _ S bb x q i { n with a := t }) := p1
  have H2 : Hid (Off S w _) := p2
  have hw : IntKind.i64.wrap (x.k.a + i.c) = t := by rw [IntKind.wrap_i64]; omega
  have g1 : ¬ t < 0 := by omega
  have g2 : ¬ 400 < t := by omega
  clear p1 p2 h hc b1 b2 ht
  go_enter Tryz.func79, Tryz.ntmps79
  go_wp2
  go_region
  all_goals go_wp2_with (go_at_call 73; refine (step_refuse_no' _ (by simp; omega) _ _).mono ?_; rintro e w1 ⟨rfl, rfl⟩)
  go_end0
  exact ⟨rfl, H2.out.drew, H1.out.drew⟩
set_option maxHeartbeats 300000 in
theorem step_jump_no (h : St w S bb x q i n) (b1 : x.k.a + i.c < 0 ∨ 400 < x.k.a + i.c) (b0 : -4000 ≤ x.k.a + i.c ∧ x.k.a + i.c ≤ 4000) :
    Calls Tryz.prog 79 #[.pointer (some ⟨S, 0, none⟩)] w fun r w' => r = thrown (.e 13) ∧ Below w.heap.size w w' := by
  have hc := h.cells
  have hk := hc.k3
  have hic := hc.ic
  have hw : IntKind.i64.wrap (x.k.a + i.c) = x.k.a + i.c := by rw [IntKind.wrap_i64]; omega
  clear h hc b0
  by_cases g1 : x.k.a + i.c < 0
  · clear b1
    go_enter Tryz.func79, Tryz.ntmps79
    go_wp2
    go_region
    all_goals go_wp2_with (go_at_call 73; refine (step_refuse_yes _ _).mono ?_; unfold thrown; rintro e w1 ⟨rfl, rfl⟩)
    exact ⟨rfl, rfl, below_drew _⟩
  · have g2 : 400 < x.k.a + i.c := by omega
    clear b1
    go_enter Tryz.func79, Tryz.ntmps79
    go_wp2
    go_region
    all_goals go_wp2_with (go_at_call 73; refine (step_refuse_yes _ _).mono ?_; unfold thrown; rintro e w1 ⟨rfl, rfl⟩)
    exact ⟨rfl, rfl, below_drew _⟩
def recI (o a b : Int) : Int := if o = 3 then addI a b else if o = 4 then subI a b else if o = 5 then mulI a b else if o = 6 then divI a b else lessI a b
set_option maxHeartbeats 300000 in
theorem step_reckon (h : St w S bb x q i n) (a b : Int) (hd : i.o = 6 → divE b = 0) :
    Calls Tryz.prog 77 #[.pointer (some ⟨S, 0, none⟩), .int .i64 a, .int .i64 b] w fun r w' => r = .returned (.int .i64 (recI i.o a b)) ∧ w' = w := by
  have hio := h.cells.io
  clear h
  generalize i.o = o at *
  unfold recI
  by_cases h3 : o = 3
  · subst h3
    rw [if_pos rfl]
    go_enter Tryz.func77, Tryz.ntmps77
    go_wp2_with (go_at_call 102; refine (num_add _ _ _).mono ?_; rintro e w1 ⟨rfl, rfl⟩)
    go_ret
    exact ⟨rfl, rfl⟩
  by_cases h4 : o = 4
  · subst h4
    rw [if_neg h3, if_pos rfl]
    go_enter Tryz.func77, Tryz.ntmps77
    go_wp2_with (go_at_call 103; refine (num_sub _ _ _).mono ?_; rintro e w1 ⟨rfl, rfl⟩)
    go_ret
    exact ⟨rfl, rfl⟩
  by_cases h5 : o = 5
  · subst h5
    rw [if_neg h3, if_neg h4, if_pos rfl]
    go_enter Tryz.func77, Tryz.ntmps77
    go_wp2_with (go_at_call 104; refine (num_mul _ _ _).mono ?_; rintro e w1 ⟨rfl, rfl⟩)
    go_ret
    exact ⟨rfl, rfl⟩
  by_cases h6 : o = 6
  · subst h6
    rw [if_neg h3, if_neg h4, if_neg h5, if_pos rfl]
    have cD := fun w => num_div a b w
    rw [hd rfl] at cD
    clear hd
    go_enter Tryz.func77, Tryz.ntmps77
    go_wp2_with (first | (go_at_call 106; refine (cD _).mono ?_; rintro e w1 ⟨rfl, rfl⟩) | (go_at_call 105; refine (sure_int_yes _ _).mono ?_; rintro e w1 ⟨rfl, rfl⟩))
    go_ret
    exact ⟨rfl, rfl⟩
  · rw [if_neg h3, if_neg h4, if_neg h5, if_neg h6]
    have g3 : (o == 3) = false := by simpa using h3
    have g4 : (o == 4) = false := by simpa using h4
    have g5 : (o == 5) = false := by simpa using h5
    have g6 : (o == 6) = false := by simpa using h6
    clear hd
    go_enter Tryz.func77, Tryz.ntmps77
    go_wp2_with (go_at_call 107; refine (num_less _ _ _).mono ?_; rintro e w1 ⟨rfl, rfl⟩)
    go_ret
    exact ⟨rfl, rfl⟩
set_option maxHeartbeats 300000 in
theorem step_reckon_no (h : St w S bb x q i n) (a b : Int) (h6 : i.o = 6) (hd : ¬ divE b = 0) :
    Calls Tryz.prog 77 #[.pointer (some ⟨S, 0, none⟩), .int .i64 a, .int .i64 b] w fun r w' => r = thrown (.e (divE b)) ∧ w' = w := by
  have hio := h.cells.io
  rw [h6] at hio
  have cD := fun w => num_div a b w
  have cS := fun m w => sure_int_no m (divE b) hd w
  clear h
  generalize divE b = E at *
  go_enter Tryz.func77, Tryz.ntmps77
  go_wp2_with (first | (go_at_call 106; refine (cD _).mono ?_; rintro e w1 ⟨rfl, rfl⟩) | (go_at_call 105; refine (cS _ _).mono ?_; unfold thrown; rintro e w1 ⟨rfl, rfl⟩))
  exact ⟨rfl, rfl, rfl⟩
def shiftK (o : Int) (k : K5) (n : Int) : KK := if o = 12 then moveK k.p k.b k.l k.a k.s n else narrowK k.p k.b k.l k.a k.s n
set_option maxHeartbeats 300000 in
theorem step_shift (h : St w S bb x q i n) (k : K5) (hk : k5b k) (m : Int) (he : (shiftK i.o k m).e = 0) :
    Calls Tryz.prog 86 #[.pointer (some ⟨S, 0, none⟩), .agg #[.int .i64 k.p, .int .i64 k.b, .int .i64 k.l, .int .i64 k.a, .int .i64 k.s], .int .i64 m] w fun r w' => r = .returned (.agg #[.int .i64 (shiftK i.o k m).p, .int .i64 (shiftK i.o k m).b, .int .i64 (shiftK i.o k m).l, .int .i64 (shiftK i.o k m).a, .int .i64 (shiftK i.o k m).s]) ∧ Below w.heap.size w w' := by
  have hio := h.cells.io
  have hlt := h.box.lt
  have n1 : ¬ S = w.heap.size := by omega
  have n2 : ¬ S = w.heap.size + 1 := by omega
  have n3 : ¬ w.heap.size = S := by omega
  have n4 : ¬ w.heap.size + 1 = S := by omega
  unfold shiftK at he ⊢
  clear h
  generalize i.o = o at *
  by_cases h1 : o = 12
  · subst h1
    rw [if_pos rfl] at he ⊢
    have cM := fun w => keys_move k.p k.b k.l k.a k.s m w hk
    rw [he] at cM
    generalize moveK k.p k.b k.l k.a k.s m = K at *
    clear he hk
    go_enter Tryz.func86, Tryz.ntmps86
    go_wp2_with (first | (go_at_call 110; refine (cM _).mono ?_; rintro e w1 ⟨rfl, hbb⟩; have B1 := (Box.new1 _ _ _ _).below hbb; have q1 := B1.cell; have f1 := B1.free; have hB1 := Below.step0 (two _ _) hbb; clear hbb) | (go_at_call 87; refine (sure_key_yes _ _ _ _ _ _).mono ?_; rintro e w2 ⟨rfl, hbb⟩; replace B1 := B1.below hbb; replace q1 := B1.cell; replace f1 := B1.free; replace hB1 := Below.step0 hB1 hbb; clear hbb))
    exact bodyPost_ret (v := .agg #[.int .i64 K.p, .int .i64 K.b, .int .i64 K.l, .int .i64 K.a, .int .i64 K.s]) (by simp [results, Tryz.results86, go_sem, q1]) rfl ⟨rfl, ((((hB1.setCell (by simp) _).setCell (by simp) _).setCell (by simp) _).setCell (by simp) _).setCell (by simp) _⟩
  · rw [if_neg h1] at he ⊢
    have g1 : (o == 12) = false := by simpa using h1
    have cM := fun w => keys_narrow k.p k.b k.l k.a k.s m w hk
    rw [he] at cM
    generalize narrowK k.p k.b k.l k.a k.s m = K at *
    clear he hk h1
    go_enter Tryz.func86, Tryz.ntmps86
    go_wp2_with (first | (go_at_call 111; refine (cM _).mono ?_; rintro e w1 ⟨rfl, hbb⟩; have B1 := (Box.new1 _ _ _ _).below hbb; have q1 := B1.cell; have f1 := B1.free; have hB1 := Below.step0 (two _ _) hbb; clear hbb) | (go_at_call 87; refine (sure_key_yes _ _ _ _ _ _).mono ?_; rintro e w2 ⟨rfl, hbb⟩; replace B1 := B1.below hbb; replace q1 := B1.cell; replace f1 := B1.free; replace hB1 := Below.step0 hB1 hbb; clear hbb))
    exact bodyPost_ret (v := .agg #[.int .i64 K.p, .int .i64 K.b, .int .i64 K.l, .int .i64 K.a, .int .i64 K.s]) (by simp [results, Tryz.results86, go_sem, q1]) rfl ⟨rfl, ((((hB1.setCell (by simp) _).setCell (by simp) _).setCell (by simp) _).setCell (by simp) _).setCell (by simp) _⟩
set_option maxHeartbeats 300000 in
theorem step_shift_no (h : St w S bb x q i n) (k : K5) (hk : k5b k) (m : Int) (he : ¬ (shiftK i.o k m).e = 0) :
    Calls Tryz.prog 86 #[.pointer (some ⟨S, 0, none⟩), .agg #[.int .i64 k.p, .int .i64 k.b, .int .i64 k.l, .int .i64 k.a, .int .i64 k.s], .int .i64 m] w fun r w' => r = thrown (.e (shiftK i.o k m).e) ∧ Below w.heap.size w w' := by
  have hio := h.cells.io
  have hlt := h.box.lt
  have n1 : ¬ S = w.heap.size := by omega
  have n2 : ¬ S = w.heap.size + 1 := by omega
  have n3 : ¬ w.heap.size = S := by omega
  have n4 : ¬ w.heap.size + 1 = S := by omega
  unfold shiftK at he ⊢
  clear h
  generalize i.o = o at *
  by_cases h1 : o = 12
  · subst h1
    rw [if_pos rfl] at he ⊢
    have cM := fun w => keys_move k.p k.b k.l k.a k.s m w hk
    generalize moveK k.p k.b k.l k.a k.s m = K at *
    have cS := fun p b l a s w => sure_key_no p b l a s K.e he w
    clear he hk
    go_enter Tryz.func86, Tryz.ntmps86
    go_wp2_with (first | (go_at_call 110; refine (cM _).mono ?_; rintro e w1 ⟨rfl, hbb⟩; have hB1 := Below.step0 (two _ _) hbb; clear hbb) | (go_at_call 87; refine (cS _ _ _ _ _ _).mono ?_; unfold thrown; rintro e w2 ⟨rfl, hbb⟩; replace hB1 := Below.step0 hB1 hbb; clear hbb))
    exact ⟨rfl, rfl, hB1⟩
  · rw [if_neg h1] at he ⊢
    have g1 : (o == 12) = false := by simpa using h1
    have cM := fun w => keys_narrow k.p k.b k.l k.a k.s m w hk
    generalize narrowK k.p k.b k.l k.a k.s m = K at *
    have cS := fun p b l a s w => sure_key_no p b l a s K.e he w
    clear he hk h1
    go_enter Tryz.func86, Tryz.ntmps86
    go_wp2_with (first | (go_at_call 111; refine (cM _).mono ?_; rintro e w1 ⟨rfl, hbb⟩; have hB1 := Below.step0 (two _ _) hbb; clear hbb) | (go_at_call 87; refine (cS _ _ _ _ _ _).mono ?_; unfold thrown; rintro e w2 ⟨rfl, hbb⟩; replace hB1 := Below.step0 hB1 hbb; clear hbb))
    exact ⟨rfl, rfl, hB1⟩
def askI (v : MV) (c : Int) : Int := if c = 1 then v.p else if c = 2 then v.b else if c = 3 then v.l else if c = 4 then v.a else v.s
set_option maxHeartbeats 300000 in
theorem step_ask0 (h : St w S bb x q i n) (hb : i.b = (k : Int)) (hv : x.r[k]? = some v) (hc : i.c = 0) :
    Calls Tryz.prog 91 #[.pointer (some ⟨S, 0, none⟩)] w fun r w' => r = .returned (.int .i64 (if v.i = true then 1 else 0)) ∧ Below w.heap.size w w' := by
  obtain ⟨c0, c1, c2, c3, c4, c5, c6⟩ := h.reg hv
  have hic := h.cells.ic
  have hib := h.cells.ib
  rw [hc] at hic
  rw [hb] at hib
  have g1 : (k : Int) < 8 := by have := reg_lt h hv; omega
  clear h
  cases hi : v.i
  all_goals
    rw [hi] at c0
    go_enter Tryz.func91, Tryz.ntmps91
    go_wp2
    go_region_calls
    go_wp2
    go_ret
    exact ⟨rfl, below_drew _⟩
end
end Go.Proofs.YtlfeglljpfihhaaGreatDoor
