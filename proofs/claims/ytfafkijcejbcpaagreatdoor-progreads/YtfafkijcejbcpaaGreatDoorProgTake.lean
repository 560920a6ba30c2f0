/- package prog: takeCell: a line that is a cell. -/
import Derived.Test.YtfafkijcejbcpaaGreatDoorRows
import Derived.Test.YtfafkijcejbcpaaGreatDoorKeyPure
import Derived.Test.YtfafkijcejbcpaaGreatDoorShelf
import Derived.Test.YtfafkijcejbcpaaGreatDoorInstShape
import Derived.Test.YtfafkijcejbcpaaGreatDoorInstLaid
import Derived.Test.YtfafkijcejbcpaaGreatDoorTextPure
import Derived.Test.YtfafkijcejbcpaaGreatDoorProgPure
import Derived.Test.YtfafkijcejbcpaaGreatDoorProgCell
import Derived.Test.YtfafkijcejbcpaaGreatDoorProgJump
import Derived.Test.YtfafkijcejbcpaaGreatDoorProgState
import Derived.WalkKit
import Derived.ProofKit
import Derived.Deep.AppendLies
import Derived.Deep.RegionLaw
namespace Go.Proofs.YtfafkijcejbcpaaGreatDoor
open Go.ChangeShapes Go.WideShapes Go.ChangeAt Go.RowKit
set_option linter.unusedSimpArgs false

set_option maxRecDepth 100000 in
set_option maxHeartbeats 4000000 in
theorem takeCell_one (st : PS) (B : Nat) (v1 v2 v3 : Value) (n : Int) (l : List UInt8) (x : Int) (w : World) (hS : Shp w) (hP : Pw w) (hE : Er w) (h : PI w B v1 v2 v3 st) (hn : st.cells.length ≤ 150) (hl : l.length ≤ 80) (hc : cellL l = some x) :
    Calls Tryz.prog 26 #[.pointer (some ⟨B, 0, none⟩), .int .i64 n, .string (bL l)] w fun e w' => e = .returned (.int .i64 0) ∧ ∃ u1 u2 u3, PI w' B u1 u2 u3 ⟨st.cells ++ [x], st.labels, st.leads⟩ ∧ Mv w w' B v1 v2 v3 u1 u2 u3 := by
  have cR := prog_readCell l w hS hP hE (by omega)
  rw [hc] at cR
  simp only [Option.getD_some, Option.isSome_some] at cR
  obtain ⟨i0, hi, hz0, hz1, hz2⟩ := info_int
  have hB := h.box.lt
  generalize bL l = S at *
  clear hc hl
  go_enter Tryz.func26, Tryz.ntmps26
  go_wp2_with (first | (go_at_call 44; refine cR.mono ?_; rintro e w1 ⟨rfl, hbb⟩; have h1 := h.below hbb; have q1 := h1.box.cell; have f1 := h1.box.free; have z1 := h1.box.lt; have m1 : Mv w w1 B v1 v2 v3 v1 v2 v3 := Mv.below hbb (Nat.le_of_lt hB)) | (at_builtin; refine wpList_append_lies _ rfl _ _ _ rfl (B + 1) 3 i0 _ 1 8 Tryz.underlying22 hi hz0 hz1 hz2 rfl (by omega) _ st.cells.length _ rfl (h1.r1.alloc _) ⟨w1.heap.size, 0, none⟩ 1 1 [.int .i64 x] rfl rfl ?c1 ?c2 (by omega) ?c3 ?c4 ?c5 _ rfl ?_))
  case c1 => exact World.news_of_block (cs := #[.int .i64 x]) (t := 3) (fr := (0, 0)) (heap_alloc_new w1 (.cells #[.int .i64 x] 3))
  case c2 =>
    intro u hu
    simp only [List.mem_cons, List.not_mem_nil, or_false] at hu
    subst hu
    rfl
  case c3 => unfold maxLen; omega
  case c4 => omega
  case c5 => simp; omega
  intro g cap w2 hown hgrow hat hlt
  have h2 := h1.below (Below.one w1 (.cells #[.int .i64 x] 3))
  obtain ⟨h3, m3⟩ := h2.cell x hgrow (by rw [World.size_alloc]; exact hat) hown
  have m4 := (m1.trans (Mv.below (Below.one w1 (.cells #[.int .i64 x] 3)) (Nat.le_of_lt z1))).trans m3
  have H3 : Hid (PI (w2.setCell ⟨B, 0, none⟩ (.slice (some ⟨g, 0, none⟩) (st.cells.length + 1) cap)) B (.slice (some ⟨g, 0, none⟩) (st.cells.length + 1) cap) v2 v3 ⟨st.cells ++ [x], st.labels, st.leads⟩) := h3
  have H4 : Hid (Mv w (w2.setCell ⟨B, 0, none⟩ (.slice (some ⟨g, 0, none⟩) (st.cells.length + 1) cap)) B v1 v2 v3 (.slice (some ⟨g, 0, none⟩) (st.cells.length + 1) cap) v2 v3) := m4
  have hBr : some B ≠ v1.ownBlock := fun e => by have := (own_block h1.r1 e.symm).1; omega
  have B2 := box_grown (h1.box.alloc (.cells #[.int .i64 x] 3)) hgrow hBr
  clear h2 h3 m3 m4 hown hgrow hat h1 m1 q1 f1
  have q2 := B2.cell
  have f2 := B2.free
  go_wp2
  go_ret
  exact ⟨rfl, _, _, _, H3.out, H4.out⟩
set_option maxRecDepth 100000 in
set_option maxHeartbeats 4000000 in
theorem takeCell_no (st : PS) (B : Nat) (v1 v2 v3 : Value) (n : Int) (l : List UInt8) (w : World) (hS : Shp w) (hP : Pw w) (hE : Er w) (h : PI w B v1 v2 v3 st) (hl : l.length ≤ 80) (hc : cellL l = none) (hj : jumpL l = none) :
    Calls Tryz.prog 26 #[.pointer (some ⟨B, 0, none⟩), .int .i64 n, .string (bL l)] w fun e w' => e = .returned (.int .i64 3) ∧ ∃ u1 u2 u3, PI w' B u1 u2 u3 st ∧ Mv w w' B v1 v2 v3 u1 u2 u3 := by
  have cR := prog_readCell l w hS hP hE (by omega)
  rw [hc] at cR
  simp only [Option.getD_none, Option.isSome_none] at cR
  have cJ := fun w hS hP hE => prog_readJump l w hS hP hE (by omega)
  rw [hj] at cJ
  simp only [Option.isSome_none] at cJ
  have hB := h.box.lt
  generalize bL (jumpR l).lab = L at *
  generalize (jumpR l).o = o at *
  generalize (jumpR l).a = a at *
  generalize (jumpR l).b = b at *
  generalize (jumpR l).c = c at *
  generalize bL l = S at *
  clear hc hl hj
  go_enter Tryz.func26, Tryz.ntmps26
  go_wp2_with (first | (go_at_call 44; refine cR.mono ?_; rintro e w1 ⟨rfl, hbb⟩) | (go_at_call 45; refine (cJ _ (hS.below hbb) (hP.below hbb) (hE.below hbb)).mono ?_; rintro e w2 ⟨rfl, hb2⟩; have hb3 := Below.step0 hbb hb2))
  go_ret
  have hb4 := hb3.alloc hb3.size (.cells #[.int .i64 o, .int .i64 a, .int .i64 b, .int .i64 c] 43)
  exact ⟨rfl, _, _, _, h.below hb4, Mv.below hb4 (Nat.le_of_lt hB)⟩
set_option maxRecDepth 100000 in
set_option maxHeartbeats 8000000 in
theorem takeCell_lead (st : PS) (B : Nat) (v1 v2 v3 : Value) (n : Int) (l : List UInt8) (J : JL) (w : World) (hS : Shp w) (hP : Pw w) (hE : Er w) (h : PI w B v1 v2 v3 st) (hn : st.cells.length ≤ 150) (hn3 : st.leads.length ≤ 150) (hl : l.length ≤ 80) (hc : cellL l = none) (hj : jumpL l = some J) :
    Calls Tryz.prog 26 #[.pointer (some ⟨B, 0, none⟩), .int .i64 n, .string (bL l)] w fun e w' => e = .returned (.int .i64 0) ∧ ∃ u1 u2 u3, PI w' B u1 u2 u3 ⟨st.cells ++ [0], st.labels, st.leads ++ [⟨n, st.cells.length, J⟩]⟩ ∧ Mv w w' B v1 v2 v3 u1 u2 u3 := by
  have cR := prog_readCell l w hS hP hE (by omega)
  rw [hc] at cR
  simp only [Option.getD_none, Option.isSome_none] at cR
  have cJ := fun w hS hP hE => prog_readJump l w hS hP hE (by omega)
  have hjr : jumpR l = J := by unfold jumpR; rw [hj]; rfl
  rw [hj, hjr] at cJ
  simp only [Option.isSome_some] at cJ
  obtain ⟨i0, hi, hz0, hz1, hz2⟩ := info_ld
  have hB := h.box.lt
  obtain ⟨a1, c1, rfl⟩ := own_slice h.r1
  obtain ⟨L, hL⟩ : ∃ L, bL J.lab = L := ⟨_, rfl⟩
  rw [hL] at cJ
  have HL : Hid (ldC ⟨n, st.cells.length, J⟩ = [.int .i64 n, .int .i64 (st.cells.length : Int), .int .i64 J.o, .int .i64 J.a, .int .i64 J.b, .int .i64 J.c, .string L]) := by unfold ldC; rw [hL]; exact rfl
  generalize bL l = S at *
  clear hc hl hj hjr hL
  go_enter Tryz.func26, Tryz.ntmps26
  go_upto_region 6 with (first | (go_at_call 44; refine cR.mono ?_; rintro e w1 ⟨rfl, hbb⟩) | (go_at_call 45; refine (cJ _ (hS.below hbb) (hP.below hbb) (hE.below hbb)).mono ?_; rintro e w2 ⟨rfl, hb2⟩; have hb3 := Below.step0 hbb hb2; clear hb2 hbb))
  have h2 := h.below hb3
  have bW : Below w2.heap.size w2 (((w2.alloc (.cells #[.int .i64 J.o, .int .i64 J.a, .int .i64 J.b, .int .i64 J.c] 43)).alloc (.cells #[.int .i64 n, .int .i64 (st.cells.length : Int), .int .i64 J.o, .int .i64 J.a, .int .i64 J.b, .int .i64 J.c, .string L] 62)).drew) := (two _ _).drew
  have h3 := h2.below bW
  have m3 : Mv w (((w2.alloc (.cells #[.int .i64 J.o, .int .i64 J.a, .int .i64 J.b, .int .i64 J.c] 43)).alloc (.cells #[.int .i64 n, .int .i64 (st.cells.length : Int), .int .i64 J.o, .int .i64 J.a, .int .i64 J.b, .int .i64 J.c, .string L] 62)).drew) B (.slice a1 st.cells.length c1) v2 v3 (.slice a1 st.cells.length c1) v2 v3 := Mv.below (Below.step0 hb3 bW) (Nat.le_of_lt hB)
  have nw : ∀ (j : Nat) (u : Value), ([.int .i64 n, .int .i64 (st.cells.length : Int), .int .i64 J.o, .int .i64 J.a, .int .i64 J.b, .int .i64 J.c, .string L] : List Value)[j]? = some u → ((((w2.alloc (.cells #[.int .i64 J.o, .int .i64 J.a, .int .i64 J.b, .int .i64 J.c] 43)).alloc (.cells #[.int .i64 n, .int .i64 (st.cells.length : Int), .int .i64 J.o, .int .i64 J.a, .int .i64 J.b, .int .i64 J.c, .string L] 62)).drew)).cell? ((⟨w2.heap.size + 1, 0, none⟩ : Addr).add j) = some u := by
    have e := heap_alloc_new (w2.alloc (.cells #[.int .i64 J.o, .int .i64 J.a, .int .i64 J.b, .int .i64 J.c] 43)) (.cells #[.int .i64 n, .int .i64 (st.cells.length : Int), .int .i64 J.o, .int .i64 J.a, .int .i64 J.b, .int .i64 J.c, .string L] 62)
    rw [World.size_alloc] at e
    exact World.news_of_block (w := (((w2.alloc (.cells #[.int .i64 J.o, .int .i64 J.a, .int .i64 J.b, .int .i64 J.c] 43)).alloc (.cells #[.int .i64 n, .int .i64 (st.cells.length : Int), .int .i64 J.o, .int .i64 J.a, .int .i64 J.b, .int .i64 J.c, .string L] 62)).drew)) (cs := #[.int .i64 n, .int .i64 (st.cells.length : Int), .int .i64 J.o, .int .i64 J.a, .int .i64 J.b, .int .i64 J.c, .string L]) (t := 62) (fr := (0, 0)) e
  have one : ∀ u ∈ ([.int .i64 n, .int .i64 (st.cells.length : Int), .int .i64 J.o, .int .i64 J.a, .int .i64 J.b, .int .i64 J.c, .string L] : List Value), u.oneCell' = true := by
    intro u hu
    simp only [List.mem_cons, List.not_mem_nil, or_false] at hu
    rcases hu with rfl | rfl | rfl | rfl | rfl | rfl | rfl <;> rfl
  have sz : B + 1 ≤ ((((w2.alloc (.cells #[.int .i64 J.o, .int .i64 J.a, .int .i64 J.b, .int .i64 J.c] 43)).alloc (.cells #[.int .i64 n, .int .i64 (st.cells.length : Int), .int .i64 J.o, .int .i64 J.a, .int .i64 J.b, .int .i64 J.c, .string L] 62)).drew)).heap.size := h3.box.lt
  have mx : st.leads.length + 1 ≤ maxLen := by unfold maxLen; omega
  have R3 : Hid (((((w2.alloc (.cells #[.int .i64 J.o, .int .i64 J.a, .int .i64 J.b, .int .i64 J.c] 43)).alloc (.cells #[.int .i64 n, .int .i64 (st.cells.length : Int), .int .i64 J.o, .int .i64 J.a, .int .i64 J.b, .int .i64 J.c, .string L] 62)).drew)).ownsRow (B + 1) 62 7 v3 st.leads.length (st.leads.flatMap ldC)) := h3.r3
  have NW : Hid (∀ (j : Nat) (u : Value), ([.int .i64 n, .int .i64 (st.cells.length : Int), .int .i64 J.o, .int .i64 J.a, .int .i64 J.b, .int .i64 J.c, .string L] : List Value)[j]? = some u → ((((w2.alloc (.cells #[.int .i64 J.o, .int .i64 J.a, .int .i64 J.b, .int .i64 J.c] 43)).alloc (.cells #[.int .i64 n, .int .i64 (st.cells.length : Int), .int .i64 J.o, .int .i64 J.a, .int .i64 J.b, .int .i64 J.c, .string L] 62)).drew)).cell? ((⟨w2.heap.size + 1, 0, none⟩ : Addr).add j) = some u) := nw
  have ON : Hid (∀ u ∈ ([.int .i64 n, .int .i64 (st.cells.length : Int), .int .i64 J.o, .int .i64 J.a, .int .i64 J.b, .int .i64 J.c, .string L] : List Value), u.oneCell' = true) := one
  have SZ : Hid (B + 1 ≤ ((((w2.alloc (.cells #[.int .i64 J.o, .int .i64 J.a, .int .i64 J.b, .int .i64 J.c] 43)).alloc (.cells #[.int .i64 n, .int .i64 (st.cells.length : Int), .int .i64 J.o, .int .i64 J.a, .int .i64 J.b, .int .i64 J.c, .string L] 62)).drew)).heap.size) := sz
  have H3 : Hid (PI (((w2.alloc (.cells #[.int .i64 J.o, .int .i64 J.a, .int .i64 J.b, .int .i64 J.c] 43)).alloc (.cells #[.int .i64 n, .int .i64 (st.cells.length : Int), .int .i64 J.o, .int .i64 J.a, .int .i64 J.b, .int .i64 J.c, .string L] 62)).drew) B (.slice a1 st.cells.length c1) v2 v3 st) := h3
  have M3 : Hid (Mv w (((w2.alloc (.cells #[.int .i64 J.o, .int .i64 J.a, .int .i64 J.b, .int .i64 J.c] 43)).alloc (.cells #[.int .i64 n, .int .i64 (st.cells.length : Int), .int .i64 J.o, .int .i64 J.a, .int .i64 J.b, .int .i64 J.c, .string L] 62)).drew) B (.slice a1 st.cells.length c1) v2 v3 (.slice a1 st.cells.length c1) v2 v3) := m3
  have q2 := h2.box.cell
  have f2 := h2.box.free
  have z2 := h2.box.lt
  clear h3 m3 nw one sz bW hb3 h2 h cR cJ
  go_cut [] from 27 to 44 (fun wx => ∃ u3, PI wx B (.slice a1 st.cells.length c1) v2 u3 ⟨st.cells, st.labels, st.leads ++ [⟨n, st.cells.length, J⟩]⟩ ∧ Mv w wx B (.slice a1 st.cells.length c1) v2 v3 (.slice a1 st.cells.length c1) v2 u3)
  case first =>
    go_region_law (refine step_append_lies _ rfl (.tmp 31) (.tmp 41) 33 rfl (B + 1) 62 i0 _ 7 64 Tryz.underlying33 hi hz0 hz1 hz2 rfl (by omega) v3 st.leads.length (st.leads.flatMap ldC) rfl R3.out ⟨w2.heap.size + 1, 0, none⟩ 1 1 [.int .i64 n, .int .i64 (st.cells.length : Int), .int .i64 J.o, .int .i64 J.a, .int .i64 J.b, .int .i64 J.c, .string L] rfl rfl NW.out ON.out (by omega) mx (by omega) SZ.out _ rfl ?_; intro g cap w4 hown hgrow hat hlt; have h5 := H3.out.lead ⟨n, st.cells.length, J⟩ hgrow hat (by rw [HL.out]; exact hown); have B4 := box_grown H3.out.box hgrow (fun e => by have := (own_block H3.out.r3 e.symm).1; omega); have H5 : Hid (PI (w4.setCell ⟨B, 2, none⟩ (.slice (some ⟨g, 0, none⟩) (st.leads.length + 1) cap)) B (.slice a1 st.cells.length c1) v2 (.slice (some ⟨g, 0, none⟩) (st.leads.length + 1) cap) ⟨st.cells, st.labels, st.leads ++ [⟨n, st.cells.length, J⟩]⟩ ∧ Mv w (w4.setCell ⟨B, 2, none⟩ (.slice (some ⟨g, 0, none⟩) (st.leads.length + 1) cap)) B (.slice a1 st.cells.length c1) v2 v3 (.slice a1 st.cells.length c1) v2 (.slice (some ⟨g, 0, none⟩) (st.leads.length + 1) cap)) := ⟨h5.1, M3.out.trans h5.2⟩; have q4 := B4.cell; have f4 := B4.free; clear hown hgrow hat h5 B4)
    all_goals (go_wp2; go_meet; exact ⟨_, H5.out⟩)
  case rest =>
    obtain ⟨u3, h5, m5⟩ := hcut
    clear R3 NW ON SZ H3 M3 HL q2 f2 hi hz0 hz1 hz2 i0
    obtain ⟨i0, hi, hz0, hz1, hz2⟩ := info_int
    have q5 := h5.box.cell
    have f5 := h5.box.free
    have z5 := h5.box.lt
    go_wp2_with (at_builtin; refine wpList_append_lies _ rfl _ _ _ rfl (B + 1) 3 i0 _ 1 8 Tryz.underlying22 hi hz0 hz1 hz2 rfl (by omega) _ st.cells.length _ rfl (h5.r1.alloc _) ⟨wc.heap.size, 0, none⟩ 1 1 [.int .i64 0] rfl rfl ?c1 ?c2 (by omega) ?c3 ?c4 ?c5 _ rfl ?_)
    case c1 => exact World.news_of_block (cs := #[.int .i64 0]) (t := 3) (fr := (0, 0)) (heap_alloc_new wc (.cells #[.int .i64 0] 3))
    case c2 =>
      intro u hu
      simp only [List.mem_cons, List.not_mem_nil, or_false] at hu
      subst hu
      rfl
    case c3 => unfold maxLen; omega
    case c4 => omega
    case c5 => simp; omega
    intro g cap w4 hown hgrow hat hlt
    have h6 := h5.below (Below.one wc (.cells #[.int .i64 0] 3))
    obtain ⟨h7, m7⟩ := h6.cell 0 hgrow (by rw [World.size_alloc]; exact hat) hown
    have m8 := (m5.trans (Mv.below (Below.one wc (.cells #[.int .i64 0] 3)) (Nat.le_of_lt z5))).trans m7
    have H7 : Hid (PI (w4.setCell ⟨B, 0, none⟩ (.slice (some ⟨g, 0, none⟩) (st.cells.length + 1) cap)) B (.slice (some ⟨g, 0, none⟩) (st.cells.length + 1) cap) v2 u3 ⟨st.cells ++ [0], st.labels, st.leads ++ [⟨n, st.cells.length, J⟩]⟩) := h7
    have H8 : Hid (Mv w (w4.setCell ⟨B, 0, none⟩ (.slice (some ⟨g, 0, none⟩) (st.cells.length + 1) cap)) B (.slice a1 st.cells.length c1) v2 v3 (.slice (some ⟨g, 0, none⟩) (st.cells.length + 1) cap) v2 u3) := m8
    have hBr : some B ≠ (Value.slice a1 st.cells.length c1).ownBlock := fun e => by have := (own_block h5.r1 e.symm).1; omega
    have B2 := box_grown (h5.box.alloc (.cells #[.int .i64 0] 3)) hgrow hBr
    clear h6 h7 m7 m8 hown hgrow hat h5 m5 q5 f5
    have q2 := B2.cell
    have f2 := B2.free
    go_wp2
    go_ret
    exact ⟨rfl, _, _, _, H7.out, H8.out⟩
theorem prog_takeCell (st : PS) (B : Nat) (v1 v2 v3 : Value) (n : Int) (l : List UInt8) (w : World) (hS : Shp w) (hP : Pw w) (hE : Er w) (h : PI w B v1 v2 v3 st) (hn : st.cells.length ≤ 150) (hn3 : st.leads.length ≤ 150) (hl : l.length ≤ 80) :
    Calls Tryz.prog 26 #[.pointer (some ⟨B, 0, none⟩), .int .i64 n, .string (bL l)] w fun e w' => e = .returned (.int .i64 (takeCl st n l).2) ∧ ∃ u1 u2 u3, PI w' B u1 u2 u3 (takeCl st n l).1 ∧ Mv w w' B v1 v2 v3 u1 u2 u3 := by
  unfold takeCl
  cases hc : cellL l with
  | some x => exact takeCell_one st B v1 v2 v3 n l x w hS hP hE h hn hl hc
  | none =>
    cases hj : jumpL l with
    | some J => exact takeCell_lead st B v1 v2 v3 n l J w hS hP hE h hn hn3 hl hc hj
    | none => exact takeCell_no st B v1 v2 v3 n l w hS hP hE h hl hc hj
end Go.Proofs.YtfafkijcejbcpaaGreatDoor
