/- package prog: join: the cells that wait for a label are filled in. -/
import Derived.Test.YtfafkijcejbcpaaGreatDoorRows
import Derived.Test.YtfafkijcejbcpaaGreatDoorKeyPure
import Derived.Test.YtfafkijcejbcpaaGreatDoorShelf
import Derived.Test.YtfafkijcejbcpaaGreatDoorInstShape
import Derived.Test.YtfafkijcejbcpaaGreatDoorInstLaid
import Derived.Test.YtfafkijcejbcpaaGreatDoorInstDev
import Derived.Test.YtfafkijcejbcpaaGreatDoorInstOp
import Derived.Test.YtfafkijcejbcpaaGreatDoorTextPure
import Derived.Test.YtfafkijcejbcpaaGreatDoorProgPure
import Derived.Test.YtfafkijcejbcpaaGreatDoorProgState
import Derived.Test.YtfafkijcejbcpaaGreatDoorProgLabel
import Derived.WalkKit
import Derived.ProofKit
namespace Go.Proofs.YtfafkijcejbcpaaGreatDoor
open Go.ChangeShapes Go.WideShapes Go.ChangeAt Go.RowKit
set_option linter.unusedSimpArgs false

/-- Places are within what has been read. -/
structure WFS (st : PS) : Prop where
  n1 : st.cells.length ≤ 150
  n2 : st.labels.length ≤ 150
  n3 : st.leads.length ≤ 150
  lb : ∀ b ∈ st.labels, 0 ≤ b.at_ ∧ b.at_ ≤ 150
  ld : ∀ d ∈ st.leads, 0 ≤ d.at_ ∧ d.at_ < st.cells.length
theorem place_mem : ∀ {bs : List LB} {nm : List UInt8} {p : Int}, placeL bs nm = some p → ∃ b ∈ bs, b.at_ = p
  | [], _, _, h => by cases h
  | b :: bs, nm, p, h => by
    rw [placeL] at h
    split at h
    · injection h with h
      exact ⟨b, by simp, h⟩
    · obtain ⟨c, hc, e⟩ := place_mem h
      exact ⟨c, List.mem_cons_of_mem _ hc, e⟩
theorem own_free {w : World} {base : Nat} {e : TypeId} {size : Nat} {v : Value} {n : Nat} {xs : List Value} (h : w.ownsRow base e size v n xs) {g : Nat} (hg : v.ownBlock = some g) (o : Nat) : w.frozen? ⟨g, o, none⟩ = false := by
  obtain ⟨_, cur, hc⟩ := own_block h hg
  simp [World.frozen?, hc]
set_option maxRecDepth 100000 in
set_option maxHeartbeats 4000000 in
theorem prog_fill (st : PS) (B : Nat) (v1 v2 v3 : Value) (w : World) (hS : ∀ w', Below B w w' → Shp w') (h : PI w B v1 v2 v3 st) (hw : WFS st) :
    Calls Tryz.prog 11 #[.pointer (some ⟨B, 0, none⟩)] w fun e w' => e = .returned (.tuple #[.int .i64 (joinS st.labels st.cells st.leads).2.1, .int .i64 (joinS st.labels st.cells st.leads).2.2]) ∧ PI w' B v1 v2 v3 ⟨(joinS st.labels st.cells st.leads).1, st.labels, st.leads⟩ ∧ Mv w w' B v1 v2 v3 v1 v2 v3 := by
  obtain ⟨R, hR⟩ : ∃ R, joinS st.labels st.cells st.leads = R := ⟨_, rfl⟩
  rw [hR]
  have HR : Hid (joinS st.labels st.cells st.leads = R) := hR
  clear hR
  have HI : Hid (PI w B v1 v2 v3 st) := h
  have HS0 : Hid (∀ w', Below B w w' → Shp w') := hS
  have q0 := h.box.cell
  have z0 := h.box.lt
  obtain ⟨a3, c3, rfl⟩ := own_slice h.r3
  clear hS h
  go_enter Tryz.func11, Tryz.ntmps11
  go_wp2
  clear q0
  go_loopw [15] (fun i wr => ∃ k : Nat, k ≤ st.leads.length ∧ i = .int .i64 (k : Int) ∧ ∃ cs : List Int, cs.length = st.cells.length ∧ PI wr B v1 v2 (.slice a3 st.leads.length c3) ⟨cs, st.labels, st.leads⟩ ∧ Mv w wr B v1 v2 (.slice a3 st.leads.length c3) v1 v2 (.slice a3 st.leads.length c3) ∧ joinS st.labels cs (st.leads.drop k) = R) (fun i _ => st.leads.length - (intOf i).toNat)
  case atStart => exact ⟨0, Nat.zero_le _, rfl, st.cells, rfl, HI.out, Mv.refl _ _ _ _ _, HR.out⟩
  case round =>
    obtain ⟨k, hk, rfl, cs, hcl, hpi, hmv, hp⟩ := hrel
    by_cases hlt : k < st.leads.length
    · have gk : (k : Int) < (st.leads.length : Int) := by omega
      have kb : k ≤ 149 := by have := hw.n3; omega
      rcases own_cells hpi.r3 with ⟨h0, _⟩ | ⟨g, cap, e2, hg, hcap, hcells⟩
      · simp only at h0; omega
      injection e2 with e2 _ e3
      subst e2
      subst e3
      obtain ⟨d, hd⟩ : ∃ d, st.leads[k]? = some d := ⟨_, List.getElem?_eq_getElem hlt⟩
      have gd := ld_get st.leads k d hd
      have dmem : d ∈ st.leads := by obtain ⟨h1, h2⟩ := List.getElem?_eq_some_iff.1 hd; rw [← h2]; exact List.getElem_mem h1
      obtain ⟨t0, t1⟩ := hw.ld d dmem
      obtain ⟨dn, dat, dj⟩ := d
      dsimp only at t0 t1
      obtain ⟨kk, rfl⟩ := Int.eq_ofNat_of_zero_le t0
      have c0 : wr.cell? ⟨g, k * 7, none⟩ = some (.int .i64 dn) := hcells _ _ (gd 0 (by omega))
      have c1 : wr.cell? ⟨g, k * 7 + 1, none⟩ = some (.int .i64 (kk : Int)) := hcells _ _ (gd 1 (by omega))
      have c2 : wr.cell? ⟨g, k * 7 + 2, none⟩ = some (.int .i64 dj.o) := hcells _ _ (gd 2 (by omega))
      have c3' : wr.cell? ⟨g, k * 7 + 3, none⟩ = some (.int .i64 dj.a) := hcells _ _ (gd 3 (by omega))
      have c4 : wr.cell? ⟨g, k * 7 + 4, none⟩ = some (.int .i64 dj.b) := hcells _ _ (gd 4 (by omega))
      have c5 : wr.cell? ⟨g, k * 7 + 5, none⟩ = some (.int .i64 dj.c) := hcells _ _ (gd 5 (by omega))
      have c6 : wr.cell? ⟨g, k * 7 + 6, none⟩ = some (.string (bL dj.lab)) := hcells _ _ (gd 6 (by omega))
      have hdr : st.leads.drop k = ⟨dn, (kk : Int), dj⟩ :: st.leads.drop (k + 1) := by
        rw [List.drop_eq_getElem_cons hlt]
        rw [List.getElem?_eq_getElem hlt] at hd
        injection hd with hd
        rw [hd]
      rw [hdr, joinS] at hp
      have cP := fun w h => prog_placeOf ⟨cs, st.labels, st.leads⟩ B v1 v2 (.slice (some ⟨g, 0, none⟩) st.leads.length c3) dj.lab w h hw.n2
      have HPI : Hid (PI wr B v1 v2 (.slice (some ⟨g, 0, none⟩) st.leads.length c3) ⟨cs, st.labels, st.leads⟩) := hpi
      have HMV : Hid (Mv w wr B v1 v2 (.slice (some ⟨g, 0, none⟩) st.leads.length c3) v1 v2 (.slice (some ⟨g, 0, none⟩) st.leads.length c3)) := hmv
      have HSR : Hid (Shp wr) := HS0.out _ hmv.bel
      have bA := Below.one wr (.cells #[.int .i64 dn, .int .i64 (kk : Int), .int .i64 dj.o, .int .i64 dj.a, .int .i64 dj.b, .int .i64 dj.c, .string (bL dj.lab)] 62)
      have BA := Box.new wr #[.int .i64 dn, .int .i64 (kk : Int), .int .i64 dj.o, .int .i64 dj.a, .int .i64 dj.b, .int .i64 dj.c, .string (bL dj.lab)] 62
      have zB := hpi.box.lt
      clear hcells gd hdr hd hpi hmv
      cases hpl : placeL st.labels dj.lab with
      | none =>
        rw [hpl] at hp cP
        simp only [Option.getD_none, Option.isSome_none] at hp cP
        subst hp
        clear HR
        generalize bL dj.lab = L at *
        go_wp2_with (go_at_call 27; refine (cP _ (HPI.out.below bA)).mono ?_; rintro e w1 ⟨rfl, hbb⟩; have B1 := BA.below hbb; have q1 := B1.cell; have b1 := Below.step0 bA hbb; clear cP hbb)
        go_ret2
        exact ⟨rfl, HPI.out.below b1, HMV.out.trans (Mv.below b1 (Nat.le_of_lt zB))⟩
      | some p =>
        rw [hpl] at hp cP
        simp only [Option.getD_some, Option.isSome_some] at hp cP
        obtain ⟨b, hb, hbp⟩ := place_mem hpl
        have pb := hw.lb b hb
        rw [hbp] at pb
        have n1 := hw.n1
        have wr1 : IntKind.i64.wrap (p - (kk : Int)) = p - (kk : Int) := by rw [IntKind.wrap_i64]; omega
        have cK := fun w hS => inst_pack dj.o dj.a dj.b (p - (kk : Int)) w hS
        clear hb hbp hpl b
        generalize bL dj.lab = L at *
        by_cases hck : chkD dj.o dj.a dj.b (p - (kk : Int)) = 0
        · rw [if_pos hck] at hp
          unfold packD at cK
          rw [if_pos hck, hck] at cK
          rcases own_cells HPI.out.r1 with ⟨h0, _⟩ | ⟨g1, cap1, e1, hg1, hcap1, hcells⟩
          · simp only at h0; omega
          subst e1
          have hkl : kk < cs.length := by omega
          obtain ⟨y, hy⟩ : ∃ y, cs[kk]? = some y := ⟨_, List.getElem?_eq_getElem hkl⟩
          have d1 : wr.cell? ⟨g1, kk, none⟩ = some (.int .i64 y) := hcells kk _ (by simp only [List.getElem?_map, hy]; rfl)
          have d2 : wr.frozen? ⟨g1, kk, none⟩ = false := own_free HPI.out.r1 rfl kk
          have HP : Hid (joinS st.labels (cs.set kk (numD dj.o dj.a dj.b (p - (kk : Int)))) (st.leads.drop (k + 1)) = R) := hp
          clear hp hck hcells hy HR
          generalize numD dj.o dj.a dj.b (p - (kk : Int)) = X at *
          go_wp2_with (first | (go_at_call 27; refine (cP _ (HPI.out.below bA)).mono ?_; rintro e w1 ⟨rfl, hbb⟩; have B1 := BA.below hbb; have q1 := B1.cell; have f1 := B1.free; have z1 := B1.lt; have b1 := Below.step0 bA hbb; have b2 : Below wr.heap.size wr (w1.setCell ⟨wr.heap.size, 5, none⟩ (.int .i64 (p - (kk : Int)))) := b1.setCell (Nat.le_refl _) _; have B2 : Box (w1.setCell ⟨wr.heap.size, 5, none⟩ (.int .i64 (p - (kk : Int)))) wr.heap.size #[.int .i64 dn, .int .i64 (kk : Int), .int .i64 dj.o, .int .i64 dj.a, .int .i64 dj.b, .int .i64 (p - (kk : Int)), .string L] := B1.set 5 _ (by simp); clear cP hbb) | (go_at_call 28; refine (cK _ (HSR.out.below b2)).mono ?_; rintro e w3 ⟨rfl, hbb⟩; have b3 := Below.step0 b2 hbb; have B3 := B2.below hbb; have q3 := B3.cell; have z3 := B3.lt; have qB := (HPI.out.below b3).box.cell; have zB3 := (HPI.out.below b3).box.lt; have d3 : w3.cell? ⟨g1, kk, none⟩ = some (.int .i64 y) := (by rw [b3.cell (p := ⟨g1, kk, none⟩) hg1]; exact d1); have d4 : w3.frozen? ⟨g1, kk, none⟩ = false := (by rw [b3.frozen (p := ⟨g1, kk, none⟩) hg1]; exact d2); clear hbb B2 q1 f1))
          have hn64 : (kk : Int) < (cs.length : Int) := by omega
          go_region
          all_goals go_wp2
          go_roundw
          case rel =>
            have h5 := (HPI.out.below b3).fill kk X
            have m5 := (HMV.out.trans (Mv.below b3 (Nat.le_of_lt zB))).setv1 (by have := (own_block HPI.out.r1 (g := g1) rfl).1; omega) kk (.int .i64 X)
            exact ⟨k + 1, by omega, rfl, cs.set kk X, by rw [List.length_set]; exact hcl, h5.below (Below.refl _ _).drew, m5.trans (Mv.below (Below.refl _ _).drew (Nat.le_of_lt h5.box.lt)), HP.out⟩
          case measure => simp [intOf]; omega
        · rw [if_neg hck] at hp
          have hck' : (chkD dj.o dj.a dj.b (p - (kk : Int)) != 0) = true := by simpa using hck
          subst hp
          clear HR hck
          generalize chkD dj.o dj.a dj.b (p - (kk : Int)) = X at *
          generalize packD dj.o dj.a dj.b (p - (kk : Int)) = Y at *
          go_wp2_with (first | (go_at_call 27; refine (cP _ (HPI.out.below bA)).mono ?_; rintro e w1 ⟨rfl, hbb⟩; have B1 := BA.below hbb; have q1 := B1.cell; have f1 := B1.free; have z1 := B1.lt; have b1 := Below.step0 bA hbb; have b2 : Below wr.heap.size wr (w1.setCell ⟨wr.heap.size, 5, none⟩ (.int .i64 (p - (kk : Int)))) := b1.setCell (Nat.le_refl _) _; have B2 : Box (w1.setCell ⟨wr.heap.size, 5, none⟩ (.int .i64 (p - (kk : Int)))) wr.heap.size #[.int .i64 dn, .int .i64 (kk : Int), .int .i64 dj.o, .int .i64 dj.a, .int .i64 dj.b, .int .i64 (p - (kk : Int)), .string L] := B1.set 5 _ (by simp); clear cP hbb) | (go_at_call 28; refine (cK _ (HSR.out.below b2)).mono ?_; rintro e w3 ⟨rfl, hbb⟩; have b3 := Below.step0 b2 hbb; have B3 := B2.below hbb; have q3 := B3.cell; have z3 := B3.lt; clear hbb B2 q1 f1))
          go_ret2
          exact ⟨rfl, HPI.out.below b3, HMV.out.trans (Mv.below b3 (Nat.le_of_lt zB))⟩
    · obtain rfl : k = st.leads.length := by omega
      have gk : ¬ (st.leads.length : Int) < (st.leads.length : Int) := by omega
      rw [List.drop_length] at hp
      have hp' : R = (cs, 0, 0) := hp.symm
      subst hp'
      clear HR
      go_wp2
      go_ret2
      exact ⟨rfl, hpi, hmv⟩
end Go.Proofs.YtfafkijcejbcpaaGreatDoor
