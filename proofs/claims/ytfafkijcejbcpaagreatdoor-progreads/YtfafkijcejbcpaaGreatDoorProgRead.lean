/- package prog: Read, in one def: what chapter 7 (P14) says; the cells and the labels lie in new memory. -/
import Derived.Test.YtfafkijcejbcpaaGreatDoorRows
import Derived.Test.YtfafkijcejbcpaaGreatDoorKeyPure
import Derived.Test.YtfafkijcejbcpaaGreatDoorShelf
import Derived.Test.YtfafkijcejbcpaaGreatDoorInstShape
import Derived.Test.YtfafkijcejbcpaaGreatDoorInstLaid
import Derived.Test.YtfafkijcejbcpaaGreatDoorInstDev
import Derived.Test.YtfafkijcejbcpaaGreatDoorTextPure
import Derived.Test.YtfafkijcejbcpaaGreatDoorSplitPure
import Derived.Test.YtfafkijcejbcpaaGreatDoorGoSplit
import Derived.Test.YtfafkijcejbcpaaGreatDoorProgPure
import Derived.Test.YtfafkijcejbcpaaGreatDoorProgState
import Derived.Test.YtfafkijcejbcpaaGreatDoorProgJoin
import Derived.Test.YtfafkijcejbcpaaGreatDoorProgFill
import Derived.WalkKit
import Derived.ProofKit
namespace Go.Proofs.YtfafkijcejbcpaaGreatDoor
open Go.ChangeShapes Go.WideShapes Go.ChangeAt Go.RowKit
set_option linter.unusedSimpArgs false

theorem ownsNil (w : World) (base : Nat) (e : TypeId) (size : Nat) : w.ownsRow base e size (.slice none 0 0) 0 [] := World.ownsRow_nil w base e size
theorem own_mono {w : World} {base base' : Nat} {e : TypeId} {size : Nat} {v : Value} {n : Nat} {xs : List Value} (h : w.ownsRow base e size v n xs) (hb : base' ≤ base) : w.ownsRow base' e size v n xs := by
  obtain ⟨h1, h2⟩ := h
  refine ⟨h1, ?_⟩
  rcases h2 with h2 | ⟨g, cap, cur, e1, e2, e3⟩
  · exact .inl h2
  · exact .inr ⟨g, cap, cur, e1, Nat.le_trans hb e2, e3⟩
/-- What Read leaves. -/
def Left (w w' : World) (V1 V2 : Value) (R : RD) : Prop :=
  w'.ownsRow w.heap.size 3 1 V1 R.cells.length (R.cells.map inC) ∧ w'.ownsRow w.heap.size 30 2 V2 R.labels.length (R.labels.flatMap lbC) ∧ Below w.heap.size w w'
theorem left_nil {w w' : World} (hb : Below w.heap.size w w') (n e : Int) : Left w w' (.slice none 0 0) (.slice none 0 0) ⟨[], [], n, e⟩ := ⟨ownsNil _ _ _ _, ownsNil _ _ _ _, hb⟩
set_option maxRecDepth 100000 in
set_option maxHeartbeats 4000000 in
theorem prog_read (l : List UInt8) (w : World) (hS : Shp w) (hP : Pw w) (hE : Er w) (m : Int) (hM : w.cell? ⟨0, 0, none⟩ = some (.int .i64 m)) (zM : 0 < w.heap.size) (hl : l.length < 4294967281) :
    Calls Tryz.prog 4 #[.string (bL l)] w fun e w' => ∃ V1 V2, e = .returned (.tuple #[V1, V2, .int .i64 (readS l).n, .int .i64 (readS l).e]) ∧ Left w w' V1 V2 (readS l) := by
  have cC := Tryz.strings_Count_one (bL l) 10 w
  rw [bL_list] at cC
  change Calls _ _ _ _ fun e w' => e = .returned (.int .i64 ((l.count 10 : Nat) : Int)) ∧ w' = w at cC
  have hcl : l.count 10 ≤ l.length := List.count_le_length
  obtain ⟨RR, hRR⟩ : ∃ R, readS l = R := ⟨_, rfl⟩
  rw [hRR]
  by_cases h150 : 150 ≤ l.count 10
  · obtain rfl : RR = ⟨[], [], 0, 2⟩ := by rw [← hRR, readS_large h150]
    have g : (150 : Int) ≤ ((l.count 10 : Nat) : Int) := by omega
    clear hRR h150
    generalize bL l = S at *
    go_enter Tryz.func4, Tryz.ntmps4
    go_wp2_with (go_at_call 8; refine cC.mono ?_; rintro e w' ⟨rfl, rfl⟩)
    exact bodyPost_ret (v := .tuple #[.slice none 0 0, .slice none 0 0, .int .i64 0, .int .i64 2]) (by simp [results, Tryz.results4, go_sem]) rfl ⟨_, _, rfl, left_nil (Below.refl _ _) _ _⟩
  · have g : ¬ (150 : Int) ≤ ((l.count 10 : Nat) : Int) := by omega
    have cS := go_split l 10 (w.alloc (.cells #[.slice none 0 0, .slice none 0 0, .slice none 0 0] 35)) m (by rw [cell_old _ _ _ _ zM]; exact hM) hl
    rw [World.size_alloc] at cS
    have hsl := sp_len 10 l
    obtain ⟨LS, hLS⟩ : ∃ LS, sp 10 l = LS := ⟨_, rfl⟩
    obtain ⟨N, hN⟩ : ∃ N, l.count 10 = N := ⟨_, rfl⟩
    rw [hLS] at hsl cS
    rw [hN] at hsl cS cC g
    have HH : Hid (∀ x ∈ LS, x.length ≤ 4294967281) := fun x hx => by
      have : ∀ (l : List UInt8), ∀ x ∈ sp 10 l, x.length ≤ l.length := by
        intro l
        induction l with
        | nil => intro x hx; simp [sp] at hx; simp [hx]
        | cons a l ih =>
          intro x hx
          by_cases ha : a = 10
          · subst ha
            rw [sp_sep] at hx
            rcases List.mem_cons.1 hx with rfl | hx
            · simp
            · have := ih x hx; simp; omega
          · obtain ⟨y, ys, e⟩ := List.exists_cons_of_ne_nil (sp_ne 10 l)
            rw [sp_other ha e] at hx
            rw [e] at ih
            rcases List.mem_cons.1 hx with rfl | hx
            · have := ih y (by simp); simp; omega
            · have := ih x (by simp [hx]); simp; omega
      have := this l x (by rw [hLS]; exact hx)
      omega
    have HR : Hid (readS l = RR) := hRR
    have H5 : Hid (¬ 150 ≤ l.count 10) := h150
    have HL : Hid (sp 10 l = LS) := hLS
    clear hRR hLS
    obtain ⟨W, hW⟩ : ∃ W, (w.alloc (.cells #[.slice none 0 0, .slice none 0 0, .slice none 0 0] 35)).alloc (.cells (LS.map fun x => Value.string (bL x)).toArray 9) = W := ⟨_, rfl⟩
    have bW : Below w.heap.size w W := by rw [← hW]; exact two _ _
    have PW : PI W w.heap.size (.slice none 0 0) (.slice none 0 0) (.slice none 0 0) ⟨[], [], []⟩ := by
      rw [← hW]
      exact ⟨(Box.new w _ _).alloc _, ownsNil _ _ _ _, ownsNil _ _ _ _, ownsNil _ _ _ _⟩
    have LW : W.heap[w.heap.size + 1]? = some (.cells (LS.map fun x => Value.string (bL x)).toArray 9) := by
      rw [← hW]
      have := heap_alloc_new (w.alloc (.cells #[.slice none 0 0, .slice none 0 0, .slice none 0 0] 35)) (.cells (LS.map fun x => Value.string (bL x)).toArray 9)
      rwa [World.size_alloc] at this
    rw [hW] at cS
    clear hW
    have HPW : Hid (PI W w.heap.size (.slice none 0 0) (.slice none 0 0) (.slice none 0 0) ⟨[], [], []⟩) := PW
    have HLW : Hid (W.heap[w.heap.size + 1]? = some (.cells (LS.map fun x => Value.string (bL x)).toArray 9)) := LW
    have HBW : Hid (Below w.heap.size w W) := bW
    clear PW LW bW
    have n150 : N ≤ 149 := by omega
    generalize bL l = S at *
    go_enter Tryz.func4, Tryz.ntmps4
    go_wp2_with (first | (go_at_call 8; refine cC.mono ?_; rintro e w' ⟨rfl, hw⟩; replace hw := hw.symm; subst hw) | (go_at_call 9; refine cS.mono ?_; rintro e w' ⟨rfl, hw⟩; replace hw := hw.symm; subst hw))
    clear cC cS
    go_loopw [18] (fun i wr => ∃ k : Nat, k ≤ N + 1 ∧ i = .int .i64 (k : Int) ∧ ∃ u1 u2 u3 st, PI wr w.heap.size u1 u2 u3 st ∧ Mv W wr w.heap.size (.slice none 0 0) (.slice none 0 0) (.slice none 0 0) u1 u2 u3 ∧ WFK st k ∧ goS st (k + 1) (LS.drop k) = goS ⟨[], [], []⟩ 1 LS) (fun i _ => N + 1 - (intOf i).toNat)
    case atStart => exact ⟨0, Nat.zero_le _, rfl, _, _, _, _, HPW.out, Mv.refl _ _ _ _ _, ⟨Nat.le_refl _, Nat.le_refl _, Nat.le_refl _, by simp, by simp⟩, rfl⟩
    case round =>
      obtain ⟨k, hk, rfl, u1, u2, u3, st, hpi, hmv, hwf, hgo⟩ := hrel
      have HB : Hid (Below w.heap.size w wr) := HBW.out.trans hmv.bel
      have HPI : Hid (PI wr w.heap.size u1 u2 u3 st) := hpi
      have HMV : Hid (Mv W wr w.heap.size (.slice none 0 0) (.slice none 0 0) (.slice none 0 0) u1 u2 u3) := hmv
      by_cases hlt : k < N + 1
      · have gk : (k : Int) < (N : Int) + 1 := by omega
        obtain ⟨x, hx⟩ : ∃ x, LS[k]? = some x := ⟨_, List.getElem?_eq_getElem (by omega)⟩
        have xm : x ∈ LS := by obtain ⟨h1, h2⟩ := List.getElem?_eq_some_iff.1 hx; rw [← h2]; exact List.getElem_mem h1
        have hline : wr.cell? ⟨w.heap.size + 1, k, none⟩ = some (.string (bL x)) := by
          have e1 := (hmv.off (w.heap.size + 1) (Array.getElem?_eq_some_iff.1 HLW.out).1 ⟨by omega, by simp [Value.ownBlock], by simp [Value.ownBlock], by simp [Value.ownBlock]⟩).1
          rw [World.cell?, e1, HLW.out]
          simp [hx]
        have hdr : LS.drop k = x :: LS.drop (k + 1) := by
          have h1 : k < LS.length := by omega
          rw [List.drop_eq_getElem_cons h1]
          rw [List.getElem?_eq_getElem h1] at hx
          injection hx with hx
          rw [hx]
        rw [hdr, goS] at hgo
        have cT := prog_take st w.heap.size u1 u2 u3 ((k : Int) + 1) x wr (hS.below HB.out) (hP.below HB.out) (hE.below HB.out) hpi (by have := hwf.n1; omega) (by have := hwf.n2; omega) (by have := hwf.n3; omega) (by have := HH.out x xm; omega)
        have ek : ((k + 1 : Nat) : Int) = (k : Int) + 1 := by omega
        rw [ek] at hgo
        have hwf' := takeS_wf hwf ((k : Int) + 1) x
        by_cases he : (takeS st ((k : Int) + 1) x).2 = 0
        · rw [if_pos he] at hgo
          rw [he] at cT
          have HGO : Hid (goS (takeS st ((k : Int) + 1) x).1 (k + 1 + 1) (LS.drop (k + 1)) = goS ⟨[], [], []⟩ 1 LS) := hgo
          have HWF : Hid (WFK (takeS st ((k : Int) + 1) x).1 (k + 1)) := hwf'
          generalize (takeS st ((k : Int) + 1) x).1 = st' at *
          clear hgo hwf' hdr hx hpi hmv hwf he
          generalize bL x = X at *
          go_wp2_with (go_at_call 10; refine cT.mono ?_; rintro e w1 ⟨rfl, y1, y2, y3, p1, m1⟩; have P1 : Hid (PI w1 w.heap.size y1 y2 y3 st') := p1; have M1 : Hid (Mv wr w1 w.heap.size u1 u2 u3 y1 y2 y3) := m1; clear p1 m1 cT)
          go_roundw
          case rel => exact ⟨k + 1, by omega, rfl, y1, y2, y3, st', P1.out, HMV.out.trans M1.out, HWF.out, HGO.out⟩
          case measure => simp [intOf]; omega
        · rw [if_neg he] at hgo
          have he' : ((takeS st ((k : Int) + 1) x).2 != 0) = true := by simpa using he
          obtain rfl : RR = ⟨[], [], (k : Int) + 1, (takeS st ((k : Int) + 1) x).2⟩ := by
            rw [← HR.out]
            exact readS_bad H5.out (by rw [HL.out]; exact hgo.symm) he
          clear HR
          have HBe := HBW.out
          generalize hE2 : (takeS st ((k : Int) + 1) x).2 = E2 at *
          generalize (takeS st ((k : Int) + 1) x).1 = st' at *
          clear hgo hwf' hdr hx hpi hmv hwf he
          generalize bL x = X at *
          go_wp2_with (go_at_call 10; refine cT.mono ?_; rintro e w1 ⟨rfl, y1, y2, y3, p1, m1⟩; have M1 : Hid (Below w.heap.size w w1) := HB.out.trans m1.bel; clear p1 m1 cT)
          refine bodyPost_ret (v := .tuple #[.slice none 0 0, .slice none 0 0, .int .i64 ((k : Int) + 1), .int .i64 E2]) (by simp [results, Tryz.results4, go_sem]) rfl ⟨_, _, rfl, left_nil M1.out _ _⟩
      · obtain rfl : k = N + 1 := by omega
        have gk : ¬ ((N + 1 : Nat) : Int) < (N : Int) + 1 := by omega
        rw [List.drop_of_length_le (by omega)] at hgo
        have hgo' : goS ⟨[], [], []⟩ 1 (sp 10 l) = (st, 0, 0) := by rw [HL.out]; exact hgo.symm
        have cJ := prog_fill st w.heap.size u1 u2 u3 wr (fun w' hb => hS.below (HB.out.trans hb)) hpi ⟨by have := hwf.n1; omega, by have := hwf.n2; omega, by have := hwf.n3; omega, fun b hb => by have := hwf.lb b hb; have := hwf.n1; omega, hwf.ld⟩
        obtain ⟨cs, jn, je, hj⟩ : ∃ cs jn je, joinS st.labels st.cells st.leads = (cs, jn, je) := ⟨_, _, _, rfl⟩
        rw [hj] at cJ
        dsimp only at cJ
        by_cases he : je = 0
        · subst he
          obtain rfl : RR = ⟨cs, st.labels, 0, 0⟩ := by rw [← HR.out]; exact readS_ok H5.out hgo' hj
          clear HR hgo hgo' hj hpi hmv hwf
          go_wp2_with (go_at_call 11; refine cJ.mono ?_; rintro e w1 ⟨rfl, p1, m1⟩; have P1 : Hid (PI w1 w.heap.size u1 u2 u3 ⟨cs, st.labels, st.leads⟩) := p1; have M1 : Hid (Below w.heap.size w w1) := HB.out.trans m1.bel; have q1 := p1.box.cell; have z1 := p1.box.lt; clear p1 m1 cJ)
          go_region
          all_goals go_wp2
          refine bodyPost_ret (v := .tuple #[u1, u2, .int .i64 0, .int .i64 0]) (by simp [results, Tryz.results4, go_sem]) rfl ⟨_, _, rfl, ?_⟩
          have P2 := P1.out.below (Below.refl _ _).drew
          exact ⟨own_mono P2.r1 (by omega), own_mono P2.r2 (by omega), M1.out.drew⟩
        · have he' : (je != 0) = true := by simpa using he
          obtain rfl : RR = ⟨[], [], jn, je⟩ := by rw [← HR.out]; exact readS_none H5.out hgo' hj he
          clear HR hgo hgo' hj hpi hmv hwf he
          go_wp2_with (go_at_call 11; refine cJ.mono ?_; rintro e w1 ⟨rfl, p1, m1⟩; have M1 : Hid (Below w.heap.size w w1) := HB.out.trans m1.bel; clear p1 m1 cJ)
          exact bodyPost_ret (v := .tuple #[.slice none 0 0, .slice none 0 0, .int .i64 jn, .int .i64 je]) (by simp [results, Tryz.results4, go_sem]) rfl ⟨_, _, rfl, left_nil M1.out _ _⟩
end Go.Proofs.YtfafkijcejbcpaaGreatDoor
