/- Chapter 7, P14: empty lines are of no matter; each other one that is no label is a cell: for every text (with what is read in all of bulk at most 1048576); nothing that was in memory is turned. -/
import Derived.Test.YtpggmmnjfofgcaaDoorRows
import Derived.Test.YtpggmmnjfofgcaaDoorCards
import Derived.Test.YtpggmmnjfofgcaaDoorTie
import Derived.Test.YtpggmmnjfofgcaaDoorCardBase
import Derived.Test.YtpggmmnjfofgcaaDoorInstShape
import Derived.Test.YtpggmmnjfofgcaaDoorInstLaid
import Derived.ChangeMaps5
import Derived.Test.YtpggmmnjfofgcaaDoorKeyPure
import Derived.Test.YtpggmmnjfofgcaaDoorTextPure
import Derived.Test.YtpggmmnjfofgcaaDoorSplitPure
import Derived.Test.YtpggmmnjfofgcaaDoorProgPure
import Derived.Test.YtpggmmnjfofgcaaDoorProgText
import Derived.Test.YtpggmmnjfofgcaaDoorProgState
import Derived.Test.YtpggmmnjfofgcaaDoorProgLabel
import Derived.Test.YtpggmmnjfofgcaaDoorGoSplit
import Derived.Test.YtpggmmnjfofgcaaDoorProgRead
import Derived.Test.YtpggmmnjfofgcaaDoorProgFacts
import Derived.Test.YtpggmmnjfofgcaaDoorEqInt
import Derived.Test.YtpggmmnjfofgcaaDoorEqLab
import Derived.Test.YtpggmmnjfofgcaaDoorLinesPure
import Derived.Test.YtpggmmnjfofgcaaDoorLinesEx
import Derived.Test.YtpggmmnjfofgcaaDoorLinesMore
import Derived.Deep.AppendLies
import Derived.Deep.CutBlock
import Derived.WalkKit
import Derived.ProofKit
import Derived.OpenShut
import Derived.Deep.DeepHandedRow
import Derived.Deep.DeepWitnessRowRef
import Derived.Lay
import Derived.MakeChecks
import Derived.SizedLaws
import Derived.Lib.LaidTab
namespace Go.Proofs.YtpggmmnjfofgcaaDoor.progLines
open Go.ChangeShapes Go.WideShapes Go.ChangeAt Go.RowKit
open Go.ChangeMaps
set_option linter.unusedVariables false
set_option linter.unusedSimpArgs false

theorem own : ownKnob Tryd.prog.godebug = none := by kernel_rfl

def stC (l : List UInt8) : Value := .string (bL l)
theorem labs_ex (w : World) : LabsAt (w.alloc (.cells #[.string ⟨#[97]⟩, .int .i64 0] 29)) (some ⟨w.heap.size, 0, none⟩) [⟨[97], 0⟩] := by
  refine .inr ⟨w.heap.size, rfl, by simp, fun i b hi => ?_⟩
  rcases i with _ | i
  · simp only [List.getElem?_cons_zero, Option.some.injEq] at hi
    subst hi
    exact ⟨(Box.new w #[.string ⟨#[97]⟩, .int .i64 0] 29).cell 0, (Box.new w #[.string ⟨#[97]⟩, .int .i64 0] 29).cell 1⟩
  · simp at hi
theorem one1 (T : ByteArray) : ∀ u ∈ ([.string T] : List Value), u.oneCell' = true := fun u hu => by
  simp only [List.mem_cons, List.not_mem_nil, or_false] at hu
  subst hu
  rfl
theorem own_slice' {w : World} {base : Nat} {e : TypeId} {size : Nat} {v : Value} {n : Nat} {xs : List Value} (h : w.ownsRow base e size v n xs) : ∃ a c, v = .slice a n c ∧ True := by
  obtain ⟨_, h⟩ := h
  rcases h with ⟨rfl, h0⟩ | ⟨g, cap, cur, rfl, _⟩
  · exact ⟨none, 0, by rw [h0], trivial⟩
  · exact ⟨_, _, rfl, trivial⟩
set_option maxHeartbeats 4000000 in
set_option maxRecDepth 1000000 in
theorem walk (a0 : ByteArray) (z0 : a0.size ≤ maxLen) (s0 : a0.size ≤ 1048576) (w : World)  (hS : Shp w) (m : Int) (hM : w.cell? ⟨1, 0, none⟩ = some (.int .i64 m)) (zM : 1 < w.heap.size) (hP : Pw w) (hE : Er w) :
    Calls Tryd.prog 3 #[.string a0] w fun e w' => e = .returned (.bool true) ∧ Below w.heap.size w w' := by
  obtain ⟨l, rfl⟩ : ∃ l, a0 = bL l := ⟨_, bL_of a0⟩
  have ll : l.length ≤ 1048576 := by rw [bL_size] at s0; exact s0
  have cl : l.count 10 ≤ 1048576 := Nat.le_trans List.count_le_length ll
  obtain ⟨xx, xy, hex⟩ := read_ex
  have cX := fun w hS hP hE m hM zM => prog_read exL w hS hP hE m hM zM (by decide)
  rw [hex] at cX
  have cR := fun w hS hP hE m hM zM => prog_read l w hS hP hE m hM zM (by omega)
  have cS := fun w m hM => go_split l 10 w m hM (by omega)
  have HM : Hid (∀ w', Below w.heap.size w w' → w'.cell? ⟨1, 0, none⟩ = some (.int .i64 m) ∧ 1 < w'.heap.size) := fun w' hb => ⟨by rw [hb.cell (p := ⟨1, 0, none⟩) zM]; exact hM, Nat.lt_of_lt_of_le zM hb.size⟩
  have cQ := fun a c w hA => ref_eqlab a (some ⟨w.heap.size, 0, none⟩) c 1 [⟨[97], 0⟩] [⟨[97], 0⟩] (w.alloc (.cells #[.string ⟨#[97]⟩, .int .i64 0] 29)) hA (labs_ex w) (by decide)
  rw [lbSame_self] at cQ
  simp only [List.length_cons, List.length_nil, Nat.zero_add] at cQ
  clear hM
  have hY : bL exL = (⟨#[97, 58, 10, 10, 115, 101, 116, 32, 114, 49, 32, 53, 10, 106, 117, 109, 112, 32, 97]⟩ : ByteArray) := rfl
  rw [hY] at cX
  dsimp only at cX
  clear hY hex
  by_cases he : (readS l).e = 0
  · obtain ⟨hcnt, hsh⟩ := read_short l he
    obtain ⟨hn1, hn2⟩ := read_both l he
    obtain ⟨f1, f2, f3⟩ := read_full l he
    rw [← ga_all] at f1 f2 f3
    have cZ := fun w hS hP hE m hM zM hl => prog_read (jn 10 (ga (sp 10 l) (sp 10 l).length)) w hS hP hE m hM zM hl
    have hspl : (sp 10 l).length ≤ 150 := by rw [sp_len]; omega
    have jl : (jn 10 (ga (sp 10 l) (sp 10 l).length)).length < 4294967281 := by
      have := jn_len 10 80 (ga (sp 10 l) (sp 10 l).length) (fun x hx => hsh x (by unfold ga at hx; rw [List.take_length] at hx; exact (List.mem_filter.1 hx).1))
      have h2 := ga_len (sp 10 l) (sp 10 l).length
      have h3 := Nat.mul_le_mul_right 81 (Nat.le_trans h2 hspl)
      omega
    have cZ' := fun w hS hP hE m hM zM => cZ w hS hP hE m hM zM jl
    clear cZ
    rw [← sp_len] at cS
    have cJ := fun r b w h => prog_join r (ga (sp 10 l) (sp 10 l).length) b w h (Nat.le_trans (ga_len _ _) hspl) (fun x hx => hsh x (by unfold ga at hx; rw [List.take_length] at hx; exact (List.mem_filter.1 hx).1))
    generalize hRZ : readS (jn 10 (ga (sp 10 l) (sp 10 l).length)) = Z at *
    obtain ⟨zc, zl, zn, ze⟩ := Z
    dsimp only at f1 f2 f3
    subst f1
    subst f2
    subst f3
    dsimp only at cZ'
    obtain ⟨J, hJ⟩ : ∃ J, bL (jn 10 (ga (sp 10 l) (sp 10 l).length)) = J := ⟨_, rfl⟩
    rw [hJ] at cZ' cJ
    clear hRZ hJ jl hcnt
    generalize readS l = RL at *
    obtain ⟨C, L, rn, re⟩ := RL
    dsimp only at *
    subst he
    have CM : Hid (C.length ≤ maxLen) := by have := gc_len (sp 10 l) (sp 10 l).length; have h2 := ga_len (sp 10 l) (sp 10 l).length; show _ ≤ _; unfold maxLen; omega
    have LM : Hid (L.length ≤ 1000000) := by have h2 := ga_len (sp 10 l) (sp 10 l).length; show _ ≤ _; omega
    have HN1 : Hid (C.length = gc (sp 10 l) (sp 10 l).length) := hn1
    have HN2 : Hid (L.length + gc (sp 10 l) (sp 10 l).length = (ga (sp 10 l) (sp 10 l).length).length) := hn2
    clear hn1 hn2
    generalize sp 10 l = LS at *
    obtain ⟨i0, hi, hz0, hz1, hz2⟩ := info_str
    generalize bL l = TXT at *
    go_enter Tryd.func3, Tryd.ntmps3
    go_upto_region 11 with (first | (go_at_call 5; first | (refine (cX _ hS hP hE m (HM.out _ (Below.refl _ _)).1 (HM.out _ (Below.refl _ _)).2).mono ?_; rintro e w1 ⟨V1, V2, rfl, o1, o2, hB1⟩; obtain ⟨xc, xd, rfl, -⟩ := own_ints rfl o1; obtain ⟨xl, xm, rfl, Al⟩ := own_labs rfl o2; replace Al := Al.below (Below.one w1 (.cells #[.string ⟨#[97]⟩, .int .i64 0] 29)); clear cX o1 o2) | (refine (cR _ (hS.below hB2) (hP.below hB2) (hE.below hB2) m (HM.out _ hB2).1 (HM.out _ hB2).2).mono ?_; rintro e w3 ⟨V3, V4, rfl, ⟨o3, o4, hbb⟩⟩; have hB3 := Below.step0 hB2 hbb; dsimp only at o3 o4; obtain ⟨yc, yd, rfl, A3⟩ := own_ints rfl o3; obtain ⟨yl, ym, rfl, A4⟩ := own_labs rfl o4; clear hbb cR o3 o4)) | (go_at_call 6; refine (cQ _ _ _ Al).mono ?_; rintro e w2 ⟨rfl, hbb⟩; have hB2 := Below.step0 (hB1.alloc hB1.size _) hbb; clear hbb cQ Al) | (go_at_call 7; refine (cS _ m (HM.out _ hB3).1).mono ?_; rintro e w4 ⟨rfl, rfl⟩; clear cS))
    obtain ⟨w4, hw4⟩ : ∃ w4, w4 = w3.alloc (.cells (LS.map fun x => Value.string (bL x)).toArray 9) := ⟨_, rfl⟩
    rw [← hw4]
    have hb4 : Below w3.heap.size w3 w4 := by rw [hw4]; exact (Below.refl _ _).alloc (Nat.le_refl _) _
    have B4 := Box.new w3 (LS.map fun x => Value.string (bL x)).toArray 9
    rw [← hw4] at B4
    have hB4 := Below.step0 hB3 hb4
    replace A3 := A3.below hb4
    replace A4 := A4.below hb4
    have lt4 := B4.lt
    have HC : Hid (∀ (k : Nat) (x : List UInt8), LS[k]? = some x → w4.cell? ⟨w3.heap.size, k, none⟩ = some (.string (bL x))) := fun k x hx => by
      rw [B4.cell]
      simp [hx]
    clear hw4 hb4 B4
    go_loopw [12, 13, 71] (fun u c i wr => ∃ k : Nat, k ≤ LS.length ∧ i = .int .i64 (k : Int) ∧ c = .int .i64 (gc LS k : Int) ∧ wr.ownsRow w4.heap.size 9 1 u (ga LS k).length ((ga LS k).map fun l => Value.string (bL l)) ∧ Below w4.heap.size w4 wr) (fun _ _ i _ => LS.length - (intOf i).toNat)
    case atStart => exact ⟨0, Nat.zero_le _, rfl, rfl, World.ownsRow_nil _ _ _ _, Below.refl _ _⟩
    case round =>
      obtain ⟨k, hk, rfl, rfl, ho, hR⟩ := hrel
      have hga := ga_len LS k
      have hgc := gc_len LS k
      by_cases hlt : k < LS.length
      · have gk : (k : Int) < (LS.length : Int) := by omega
        obtain ⟨x, hx⟩ : ∃ x, LS[k]? = some x := ⟨_, List.getElem?_eq_getElem hlt⟩
        have hcell := HC.out k x hx
        rw [← hR.cell (p := ⟨w3.heap.size, k, none⟩) lt4] at hcell
        by_cases hxe : x = []
        · subst hxe
          obtain ⟨g1, g2⟩ := ga_nil hx
          have hcell' : wr.cell? ⟨w3.heap.size, k, none⟩ = some (.string ⟨#[]⟩) := hcell
          rw [← g1] at ho
          have HO : Hid (wr.ownsRow w4.heap.size 9 1 _ (ga LS (k + 1)).length ((ga LS (k + 1)).map fun l => Value.string (bL l))) := ho
          have HR : Hid (Below w4.heap.size w4 wr) := hR
          have G2 : Hid (gc LS (k + 1) = gc LS k) := g2
          clear hcell g1 g2 ho hR hx cJ cZ'
          go_wp2
          go_roundw
          case rel => exact ⟨k + 1, by omega, rfl, by rw [G2.out], HO.out, HR.out⟩
          case measure => simp [intOf]; omega
        · obtain ⟨g1, g2⟩ := ga_add hx hxe
          have hx80 := hsh x (List.mem_of_getElem? hx)
          have cH := fun w => Tryd.strings_HasSuffix (bL x) ⟨#[58]⟩ w (by rw [bL_size]; omega)
          rw [bL_list] at cH
          change ∀ w, Calls _ _ _ _ fun e w' => e = .returned (.bool (isLb x)) ∧ w' = w at cH
          have hne : (bL x).toList.isEmpty = false := by
            rw [ByteArray.toList_eq, bL_list]
            cases x with
            | nil => exact absurd rfl hxe
            | cons a r => rfl
          have HG1 : Hid (ga LS (k + 1) = ga LS k ++ [x]) := g1
          have HG2 : Hid (gc LS (k + 1) = gc LS k + (if isLb x then 0 else 1)) := g2
          have HT : Hid ((ga LS (k + 1)).map (fun l => Value.string (bL l)) = (ga LS k).map (fun l => Value.string (bL l)) ++ [.string (bL x)]) := by show _ = _; rw [g1, List.map_append]; rfl
          have HLN : Hid ((ga LS (k + 1)).length = (ga LS k).length + 1) := by show _ = _; rw [g1, List.length_append]; rfl
          clear g1 g2 hx cJ cZ' hxe hx80
          obtain ⟨lb, hlb⟩ : ∃ lb, isLb x = lb := ⟨_, rfl⟩
          rw [hlb] at cH
          have HLB : Hid (isLb x = lb) := hlb
          clear hlb
          generalize bL x = T at *
          generalize hgl : (ga LS k).length = gl at *
          generalize (ga LS k).map (fun l => Value.string (bL l)) = rows at *
          have HGL : Hid ((ga LS k).length = gl) := hgl
          clear hgl
          generalize gc LS k = gn at *
          have hR0 := hR.size
          have mx : gl + 1 ≤ maxLen := by unfold maxLen; omega
          have hby : (gl + 1) * 16 ≤ 140737488355328 := by omega
          have hwr : IntKind.i64.wrap ((gn : Int) + 1) = (gn : Int) + 1 := by rw [IntKind.wrap_i64]; omega
          cases lb
          · go_wp2_with (first | (at_builtin; refine wpList_append_lies _ rfl _ _ _ rfl w4.heap.size 9 i0 _ 1 16 Tryd.underlying30 hi hz0 hz1 hz2 rfl (by omega) _ gl rows rfl (ho.alloc _) ⟨wr.heap.size, 0, none⟩ 1 1 [.string T] rfl rfl (World.news_of_block (cs := #[.string T]) (t := 9) (fr := (0, 0)) (heap_alloc_new wr (.cells #[.string T] 9))) (one1 T) (by omega) mx hby (by rw [World.size_alloc]; omega) _ rfl ?_; intro g cap w5 hown hgrow hat hlt5; have HB5 : Hid (Below w4.heap.size w4 w5) := Below.grown (hR.alloc hR.size _) hgrow (by rw [World.size_alloc]; omega) (fun j hj => (ho.lt j hj).1); have HO5 : Hid (w5.ownsRow w4.heap.size 9 1 (.slice (some ⟨g, 0, none⟩) (gl + 1) cap) (ga LS (k + 1)).length ((ga LS (k + 1)).map fun l => Value.string (bL l))) := (by rw [HLN.out, HT.out]; exact hown); clear hown hgrow hat ho hR hR0 hcell) | (go_at_call 8; refine (cH _).mono ?_; rintro e w6 ⟨rfl, rfl⟩; clear cH))
            go_roundw
            case rel => exact ⟨k + 1, by omega, rfl, by rw [HG2.out, HLB.out]; simp, HO5.out, HB5.out⟩
            case measure => simp [intOf]; omega
          · go_wp2_with (first | (at_builtin; refine wpList_append_lies _ rfl _ _ _ rfl w4.heap.size 9 i0 _ 1 16 Tryd.underlying30 hi hz0 hz1 hz2 rfl (by omega) _ gl rows rfl (ho.alloc _) ⟨wr.heap.size, 0, none⟩ 1 1 [.string T] rfl rfl (World.news_of_block (cs := #[.string T]) (t := 9) (fr := (0, 0)) (heap_alloc_new wr (.cells #[.string T] 9))) (one1 T) (by omega) mx hby (by rw [World.size_alloc]; omega) _ rfl ?_; intro g cap w5 hown hgrow hat hlt5; have HB5 : Hid (Below w4.heap.size w4 w5) := Below.grown (hR.alloc hR.size _) hgrow (by rw [World.size_alloc]; omega) (fun j hj => (ho.lt j hj).1); have HO5 : Hid (w5.ownsRow w4.heap.size 9 1 (.slice (some ⟨g, 0, none⟩) (gl + 1) cap) (ga LS (k + 1)).length ((ga LS (k + 1)).map fun l => Value.string (bL l))) := (by rw [HLN.out, HT.out]; exact hown); clear hown hgrow hat ho hR hR0 hcell) | (go_at_call 8; refine (cH _).mono ?_; rintro e w6 ⟨rfl, rfl⟩; clear cH))
            go_roundw
            case rel => exact ⟨k + 1, by omega, rfl, by rw [HG2.out, HLB.out]; simp, HO5.out, HB5.out⟩
            case measure => simp [intOf]; omega
      · obtain rfl : k = LS.length := by omega
        have gk : ¬ (LS.length : Int) < (LS.length : Int) := by omega
        have hB4r := Below.step0 hB4 hR
        obtain ⟨fa, fc, e12, -⟩ := own_slice' ho
        subst e12
        have cJ' := cJ _ _ _ ho
        replace A3 := A3.below hR
        replace A4 := A4.below hR
        have cEi := fun a b c d w hA hB => ref_eq a b c d C C w hA hB CM.out CM.out
        rw [decide_eq_true (rfl : C = C)] at cEi
        have cEl := fun a b c d w hA hB => ref_eqlab a b c d L L w hA hB LM.out
        rw [lbSame_self] at cEl
        have gq1 : ((C.length : Int) == (gc LS LS.length : Int)) = true := by rw [HN1.out]; simp
        have gq2 : ((L.length : Int) == ((ga LS LS.length).length : Int) - (gc LS LS.length : Int)) = true := by
          have := HN2.out
          rw [beq_iff_eq]
          omega
        have hwr : IntKind.i64.wrap (((ga LS LS.length).length : Int) - (gc LS LS.length : Int)) = ((ga LS LS.length).length : Int) - (gc LS LS.length : Int) := by rw [IntKind.wrap_i64]; omega
        clear cJ ho hR hB4
        generalize (ga LS LS.length).length = gl at *
        generalize gc LS LS.length = gn at *
        go_wp2_with (first | (go_at_call 9; refine cJ'.mono ?_; rintro e w5 ⟨rfl, hbb⟩; have hB5 := Below.step0 hB4r hbb; replace A3 := A3.below hbb; replace A4 := A4.below hbb; clear hbb cJ') | (go_at_call 5; (refine (cZ' _ (hS.below hB5) (hP.below hB5) (hE.below hB5) m (HM.out _ hB5).1 (HM.out _ hB5).2).mono ?_; rintro e w6 ⟨V5, V6, rfl, ⟨o5, o6, hbb⟩⟩; have hB6 := Below.step0 hB5 hbb; dsimp only at o5 o6; obtain ⟨uc, ud, rfl, A5⟩ := own_ints rfl o5; obtain ⟨ul, um, rfl, A6⟩ := own_labs rfl o6; replace A3 := A3.below hbb; replace A4 := A4.below hbb; clear hbb cZ' o5 o6)) | (go_at_call 10; refine (cEi _ _ _ _ _ A3 A5).mono ?_; rintro e w7 ⟨rfl, rfl⟩; clear cEi) | (go_at_call 6; refine (cEl _ _ _ _ _ A4 A6).mono ?_; rintro e w8 ⟨rfl, hbb⟩; have hB8 := Below.step0 hB6 hbb; clear hbb cEl))
        go_ret
        exact ⟨rfl, hB8⟩
  · have ge : ((readS l).e != 0) = true := by simpa using he
    obtain ⟨hc0, hl0⟩ := read_err l he
    obtain ⟨n1, n2⟩ := read_n l
    rw [sp_len] at n2
    have n2' : (readS l).n ≤ (l.count 10 : Int) + 1 := by omega
    clear he n2
    generalize (readS l).n = N at *
    generalize (readS l).e = E at *
    generalize bL l = TXT at *
    go_enter Tryd.func3, Tryd.ntmps3
    go_wp2_with (first | (go_at_call 5; first | (refine (cX _ hS hP hE m (HM.out _ (Below.refl _ _)).1 (HM.out _ (Below.refl _ _)).2).mono ?_; rintro e w1 ⟨V1, V2, rfl, o1, o2, hB1⟩; obtain ⟨xc, xd, rfl, -⟩ := own_ints rfl o1; obtain ⟨xl, xm, rfl, Al⟩ := own_labs rfl o2; replace Al := Al.below (Below.one w1 (.cells #[.string ⟨#[97]⟩, .int .i64 0] 29)); clear cX o1 o2) | (refine (cR _ (hS.below hB2) (hP.below hB2) (hE.below hB2) m (HM.out _ hB2).1 (HM.out _ hB2).2).mono ?_; rintro e w3 ⟨V3, V4, rfl, ⟨o3, o4, hbb⟩⟩; have hB3 := Below.step0 hB2 hbb; rw [hc0] at o3; rw [hl0] at o4; obtain ⟨yc, yd, rfl, -⟩ := own_ints (n := 0) rfl o3; obtain ⟨yl, ym, rfl, -⟩ := own_labs (n := 0) rfl o4; clear hbb cR o3 o4)) | (go_at_call 6; refine (cQ _ _ _ Al).mono ?_; rintro e w2 ⟨rfl, hbb⟩; have hB2 := Below.step0 (hB1.alloc hB1.size _) hbb; clear hbb cQ Al) | (go_at_call 7; refine (cS _ m (HM.out _ hB3).1).mono ?_; rintro e w4 ⟨rfl, rfl⟩; clear cS))
    go_ret
    exact ⟨rfl, hB3.alloc hB3.size _⟩

set_option maxRecDepth 1000000 in
theorem contract (H : Type) (enc : TypeId × Value → H) (W : World) (base : Nat) (args : Array Value) (ds gs : List (DataW H)) (before : List MemPlace)
    (hval : ∀ (j : Nat) t v, Tryd.f3.params[j]? = some t → args[j]? = some v → Value.okWide Tryd.prog W .any base t v)
    (hW : DataW.Whole enc Tryd.prog Tryd.f3.params.toList Rows.progLinesSpec.vars false W args.toList ds gs before) (hsh : W.ShapedOpen Tryd.prog) (hz : (DataW.weightsEach Tryd.prog (Tryd.f3.params.toList ++ (Rows.OpenSpec.upto Rows.progLinesSpec).bare.plain.varTypes Tryd.prog) (ds ++ gs)).all (· ≤ reachBytes) = true) (hL : laidMet Tryd.prog Rows.progLinesUptoRow.laid W) (hk : decide (Rows.uptoBulkAll (ds ++ gs) ≤ 1048576) = true) :
    Calls Tryd.prog 3 args W fun e W' => ∃ v, e = .returned v ∧ Rows.progLinesSpec.post enc Tryd.prog Tryd.f3 false true false false W args v W' := by
  have hW' := hW
  obtain ⟨p, q, hA0, hV, rfl, hfz, hnd⟩ := hW
  have hA : DataW.TrodAll enc Tryd.prog W 0 (fun _ => true) true Tryd.f3.params.toList args.toList ds p := hA0
  rw [Tryd.params3] at hA hval
  obtain ⟨v0, vs0, d0, ds0, p0, q0, hargs, rfl, rfl, h0, r0⟩ := trodAll_cons hA
  obtain ⟨rfl, rfl, rfl⟩ := trodAll_nil r0
  obtain rfl : args = #[v0] := by cases args; simp_all
  obtain ⟨rfl, rfl⟩ := trodVars_none hV
  obtain ⟨a0, rfl, rfl, rfl, z0⟩ := open_string Tryd.underlying9 (hval 0 9 v0 rfl rfl) h0
  clear hA0
  obtain ⟨m, hM⟩ : ∃ m, W.cell? ⟨1, 0, none⟩ = some (.int .i64 m) := maxLen_cell W hsh
  have zM : 1 < W.heap.size := by
    rcases Nat.lt_or_ge 1 W.heap.size with h | h
    · exact h
    · rw [World.cell?] at hM; simp [Array.getElem?_eq_none h] at hM
  refine (walk a0 z0 (by have h := of_decide_eq_true hk; simp only [List.cons_append, List.nil_append, List.append_nil, Rows.uptoBulkAll, Rows.uptoBulk] at h; have e : a0.size = a0.data.toList.length := (by simp); omega) W  (shp_of_laid hL (.tail _ (.tail _ (.tail _ (.tail _ (.tail _ (.tail _ (.head _)))))))) m hM zM (pw_of_laid hL (.tail _ (.tail _ (.head _)))) (er_of_laid hL (.tail _ (.tail _ (.tail _ (.tail _ (.tail _ (.head _)))))) (.tail _ (.tail _ (.tail _ (.tail _ (.head _))))))).mono fun e W' ⟨he, bel⟩ => ?_
  subst he
  exact ⟨_, rfl, _, _, _, [], [], [], hW', trodAll_mk1 (shut_bool Tryd.underlying4 _), (trodAll_cons_mk (shut_string Tryd.underlying9 z0) trodAll_mk0), rfl, bel.frame _, fun h => by cases h⟩

theorem reads (os : Os) {H : Type} (enc : TypeId × Value → H) : ∃ places, DataW.whole enc Tryd.prog ((World.laidAll Tryd.prog os Rows.progLinesUptoRow.laid).forCall (fun _ _ => 0) ⟨#[], #[.string ⟨#[]⟩], []⟩).memory Tryd.f3.params.toList Rows.progLinesSpec.vars false (#[.string ⟨#[]⟩] : Array Value).toList 8 = some ([.lit (.string [])], [], places) :=
  ⟨[], by kernel_rfl⟩
theorem laid_met (os : Os) : laidMet Tryd.prog Rows.progLinesUptoRow.laid ((World.laidAll Tryd.prog os Rows.progLinesUptoRow.laid).forCall (fun _ _ => 0) ⟨#[], #[.string ⟨#[]⟩], []⟩).memory :=
  laidMet_laidAll _ (by kernel_rfl) (by kernel_rfl)

set_option maxRecDepth 100000 in
theorem lifted (os : Os) (started : os.Started) (H : Type) (enc : TypeId × Value → H) (F : Stop.Interp) :
    ReturnsInHanded {} Tryd.checked os 3 .any ((Rows.OpenSpec.upto Rows.progLinesSpec).preRow enc Tryd.prog Tryd.f3 Rows.progLinesUptoRow.domain false Rows.progLinesUptoRow.laid) (((Rows.OpenSpec.upto Rows.progLinesSpec).at F).post enc Tryd.prog Tryd.f3 false true false false) := by
  obtain ⟨places, hx⟩ := reads os enc
  refine returnsInHanded_of_row (C := Tryd.checked) (s := Rows.OpenSpec.upto Rows.progLinesSpec) own started (by kernel_rfl) Tryd.func3
    (witness_row_atRef (enc := enc) (C := Tryd.checked) false (World.laidAll Tryd.prog os Rows.progLinesUptoRow.laid) #[.string ⟨#[]⟩] (World.laidAll_os _ _ _) (by kernel_rfl) (by kernel_rfl) (by kernel_rfl)
      (OpenSpec.preRow_of_cond 8 hx (by kernel_rfl) (fun k hk => by cases hk; kernel_rfl) (by kernel_rfl) (laid_met os))) ?_
  intro W base args ds gs before hval hW _ hcond hz hL hsh _
  exact contract H enc W base args ds gs before hval hW hsh hz hL (hcond _ rfl)

theorem said : Rows.ProgLinesUptoSaid :=
  OpenClaim.holds_of_cond 3 Tryd.f3 rfl rfl rfl rfl rfl rfl rfl ⟨rfl, rfl, rfl, rfl, rfl⟩ rfl rfl rfl rfl rfl (by kernel_rfl) Tryd.func3 (by kernel_rfl)
    (of_decide_eq_true (by kernel_rfl)) (by unfold Func.isWrapper; first | (rw [if_pos (by decide +kernel)]; kernel_rfl) | (rw [if_neg (by decide +kernel)]; exact ⟨rfl, rfl⟩))
    (fun os started H enc _ F => by rw [OpenClaim.pre_eq_preRow]; exact lifted os started H enc F)
theorem plain (f : FuncId) (fn : Func) (hf : Tryd.pinned.checked.prog.funcNamed Rows.progLinesUptoRow.func = some f) (hfn : Tryd.pinned.checked.prog.funcs[f]? = some fn) :
    true = Tryd.pinned.checked.prog.looks [] ∧ ∀ (j : Nat) t, fn.params[j]? = some t → Tryd.pinned.checked.prog.wantsStandIn t = false := by
  obtain rfl : f = 3 := Option.some.inj ((show Tryd.prog.funcNamed Rows.progLinesUptoRow.func = some 3 by kernel_rfl).symm.trans hf) |>.symm
  obtain rfl : fn = Tryd.f3 := (Option.some.inj (Tryd.func3.symm.trans hfn)).symm
  refine ⟨by kernel_rfl, fun j t ht => ?_⟩
  rw [Tryd.params3] at ht
  have hm : t ∈ [9] := by simpa using Array.mem_of_getElem? ht
  have hall : ([9].all fun u => !Tryd.prog.wantsStandIn u) = true := by kernel_rfl
  exact (show Tryd.prog.wantsStandIn t = false by simpa using List.all_eq_true.1 hall t hm)
theorem proved : Rows.ProgLinesUptoCardSaid :=
  Claim7.holds_tied_plain_at .later [] _ _ _ _ said (fun _ h => by cases h) (by kernel_rfl) (fun _ h => by cases h) progLinesUpto_row_tie rfl ⟨rfl, rfl⟩ (by kernel_rfl) rfl plain (by kernel_rfl)
#print axioms proved
end Go.Proofs.YtpggmmnjfofgcaaDoor.progLines
