/- Chapter 7, P14: a jump to a label leads to its place: for every text (with what is read in all of bulk at most 1048576); nothing that was in memory is turned. -/
import Derived.Test.YtpggmmnjfofgcaaDoorRows
import Derived.Test.YtpggmmnjfofgcaaDoorCards
import Derived.Test.YtpggmmnjfofgcaaDoorTie
import Derived.Test.YtpggmmnjfofgcaaDoorCardBase
import Derived.Test.YtpggmmnjfofgcaaDoorInstShape
import Derived.Test.YtpggmmnjfofgcaaDoorInstLaid
import Derived.ChangeMaps5
import Derived.Test.YtpggmmnjfofgcaaDoorKeyPure
import Derived.Test.YtpggmmnjfofgcaaDoorInstDev
import Derived.Test.YtpggmmnjfofgcaaDoorTextPure
import Derived.Test.YtpggmmnjfofgcaaDoorSplitPure
import Derived.Test.YtpggmmnjfofgcaaDoorProgPure
import Derived.Test.YtpggmmnjfofgcaaDoorProgText
import Derived.Test.YtpggmmnjfofgcaaDoorProgState
import Derived.Test.YtpggmmnjfofgcaaDoorProgLabel
import Derived.Test.YtpggmmnjfofgcaaDoorGoSplit
import Derived.Test.YtpggmmnjfofgcaaDoorProgRead
import Derived.Test.YtpggmmnjfofgcaaDoorProgFacts
import Derived.Test.YtpggmmnjfofgcaaDoorEqInt
import Derived.Test.YtpggmmnjfofgcaaDoorEqLab
import Derived.Test.YtpggmmnjfofgcaaDoorLinesPure
import Derived.Test.YtpggmmnjfofgcaaDoorLinesMore
import Derived.Test.YtpggmmnjfofgcaaDoorJumpPure
import Derived.Test.YtpggmmnjfofgcaaDoorJumpEx
import Derived.Test.YtpggmmnjfofgcaaDoorJumpMore
import Derived.Deep.CutBlock
import Derived.WalkKit
import Derived.ProofKit
import Derived.OpenShut
import Derived.Deep.DeepHandedRow
import Derived.Deep.DeepWitnessRowRef
import Derived.Lay
import Derived.MakeChecks
import Derived.SizedLaws
import Derived.Lib.LaidTab
namespace Go.Proofs.YtpggmmnjfofgcaaDoor.progJumps
open Go.ChangeShapes Go.WideShapes Go.ChangeAt Go.RowKit
open Go.ChangeMaps
set_option linter.unusedVariables false
set_option linter.unusedSimpArgs false

theorem own : ownKnob Tryd.prog.godebug = none := by kernel_rfl

theorem ints_first {w : World} {a : Option Addr} {x : Int} {xs : List Int} (h : IntsAt w a (x :: xs)) : ∃ B off : Nat, a = some ⟨B, off, none⟩ ∧ w.cell? ⟨B, off, none⟩ = some (.int .i64 x) := by
  rcases h with h | ⟨B, off, e, _, hc⟩
  · simp at h
  · exact ⟨B, off, e, hc 0 (by simp)⟩
theorem labs_first {w : World} {a : Option Addr} {b : LB} {bs : List LB} (h : LabsAt w a (b :: bs)) : ∃ B : Nat, a = some ⟨B, 0, none⟩ ∧ w.cell? ⟨B, 1, none⟩ = some (.int .i64 b.at_) := by
  rcases h with h | ⟨B, e, _, hc⟩
  · simp at h
  · exact ⟨B, e, (hc 0 b rfl).2⟩
theorem ints_at' {w : World} {a : Option Addr} {xs : List Int} {k : Nat} {x : Int} (h : IntsAt w a xs) (hx : xs[k]? = some x) : ∃ B off : Nat, a = some ⟨B, off, none⟩ ∧ w.cell? ⟨B, off + k, none⟩ = some (.int .i64 x) := by
  have hk := (List.getElem?_eq_some_iff.1 hx).1
  rcases h with h | ⟨B, off, e, _, hc⟩
  · omega
  · refine ⟨B, off, e, ?_⟩
    rw [hc k hk, List.getD_eq_getElem?_getD, hx]
    rfl
theorem labs_at' {w : World} {a : Option Addr} {bs : List LB} {k : Nat} {b : LB} (h : LabsAt w a bs) (hx : bs[k]? = some b) : ∃ B : Nat, a = some ⟨B, 0, none⟩ ∧ w.cell? ⟨B, k * 2, none⟩ = some (.string (bL b.nm)) ∧ w.cell? ⟨B, k * 2 + 1, none⟩ = some (.int .i64 b.at_) := by
  have hk := (List.getElem?_eq_some_iff.1 hx).1
  rcases h with h | ⟨B, e, _, hc⟩
  · omega
  · exact ⟨B, e, hc k b hx⟩
theorem readD_c {c : Int} (h : -2147483648 ≤ c ∧ c ≤ 2147483647) : -2000000 ≤ (readD c).c ∧ (readD c).c ≤ 2000000 := by
  unfold readD
  split
  · dsimp only; omega
  · dsimp only; omega
theorem go_words {x f q : List UInt8} {ws : List (List UInt8)} (hws : sp 32 x = f :: ws) (hq : (f :: ws).getLast? = some q) (w : World) (m : Int) (hM : w.cell? ⟨1, 0, none⟩ = some (.int .i64 m)) (hl : x.length < 4294967281) :
    Calls Tryd.prog 7 #[.string (bL x), .string ⟨#[32]⟩] w fun e w' => e = .returned (.slice (some ⟨w.heap.size, 0, none⟩) (ws.length + 1) (ws.length + 1)) ∧ Below w.heap.size w w' ∧ w.heap.size < w'.heap.size ∧
      w'.cell? ⟨w.heap.size, 0, none⟩ = some (.string (bL f)) ∧ w'.cell? ⟨w.heap.size, ws.length, none⟩ = some (.string (bL q)) := by
  have hn : x.count 32 = ws.length := by
    have := sp_len 32 x
    rw [hws, List.length_cons] at this
    omega
  have hq' : (f :: ws)[ws.length]? = some q := by
    rw [List.getLast?_eq_getElem?] at hq
    simpa using hq
  refine (go_split x 32 w m hM hl).mono ?_
  rintro e w' ⟨rfl, rfl⟩
  rw [hn, hws]
  have B := Box.new w (((f :: ws).map fun x => Value.string (bL x)).toArray) 9
  refine ⟨rfl, (Below.refl _ _).alloc (Nat.le_refl _) _, B.lt, ?_, ?_⟩
  · rw [B.cell]; rfl
  · rw [B.cell, List.getElem?_toArray, List.getElem?_map, hq']
    rfl
set_option maxHeartbeats 4000000 in
set_option maxRecDepth 1000000 in
theorem walk (a0 : ByteArray) (z0 : a0.size ≤ maxLen) (s0 : a0.size ≤ 1048576) (w : World)  (hS : Shp w) (m : Int) (hM : w.cell? ⟨1, 0, none⟩ = some (.int .i64 m)) (zM : 1 < w.heap.size) (hP : Pw w) (hE : Er w) :
    Calls Tryd.prog 4 #[.string a0] w fun e w' => e = .returned (.bool true) ∧ Below w.heap.size w w' := by
  obtain ⟨l, rfl⟩ : ∃ l, a0 = bL l := ⟨_, bL_of a0⟩
  have ll : l.length ≤ 1048576 := by rw [bL_size] at s0; exact s0
  have cl : l.count 10 ≤ 1048576 := Nat.le_trans List.count_le_length ll
  obtain ⟨xx, xy, hex⟩ := read_exj
  have cX := fun w hS hP hE m hM zM => prog_read exJ w hS hP hE m hM zM (by decide)
  rw [hex] at cX
  have cR := fun w hS hP hE m hM zM => prog_read l w hS hP hE m hM zM (by omega)
  have cS := fun w m hM => go_split l 10 w m hM (by omega)
  have HM : Hid (∀ w', Below w.heap.size w w' → w'.cell? ⟨1, 0, none⟩ = some (.int .i64 m) ∧ 1 < w'.heap.size) := fun w' hb => ⟨by rw [hb.cell (p := ⟨1, 0, none⟩) zM]; exact hM, Nat.lt_of_lt_of_le zM hb.size⟩
  have cI := fun w hS => inst_read (numD 9 2 0 2) w hS (by unfold numD; omega) ⟨9, 2, 0, 2, 0⟩ read_if
  dsimp only at cI
  clear hM
  have hY : bL exJ = (⟨#[105, 102, 32, 114, 50, 32, 98, 10, 104, 97, 108, 116, 10, 98, 58, 10, 106, 117, 109, 112, 32, 98]⟩ : ByteArray) := rfl
  rw [hY] at cX
  dsimp only at cX
  clear hY hex
  generalize numD 9 2 0 2 = n9 at *
  by_cases he : (readS l).e = 0
  · obtain ⟨hcnt, hsh⟩ := read_short l he
    have hfill := read_fills l he
    have hbn := read_b l
    have HLD : Hid (∀ (i : Nat) (x : List UInt8) (ws : List (List UInt8)) (f q : List UInt8) (b : LB) (c : Int), ((sp 10 l).filter isCl)[i]? = some x → sp 32 x = f :: ws → ws ≠ [] → (f :: ws).getLast? = some q → b ∈ (readS l).labels → b.nm = q → (f = [106, 117, 109, 112] ∨ f = [105, 102]) → (readS l).cells[i]? = some c → (readD c).e = 0 ∧ (i : Int) + (readD c).c = b.at_) := fun i x ws f q b c h1 h2 h3 h4 h5 h6 h7 h8 => read_leads he h1 h2 h3 h4 h5 h6 h7 h8
    have hspl : (sp 10 l).length ≤ 150 := by rw [sp_len]; omega
    have hcl := hfill.2.1
    rw [← gj_all] at hcl
    clear hfill hcnt
    have HLL : Hid ((readS l).labels.length ≤ 150) := by
      obtain ⟨_, h2⟩ := read_both l he
      have h3 := ga_len (sp 10 l) (sp 10 l).length
      show _ ≤ _
      omega
    generalize readS l = RL at *
    obtain ⟨C, L, rn, re⟩ := RL
    dsimp only at *
    subst he
    rw [← sp_len] at cS
    have HCL : Hid (C.length = gj (sp 10 l) (sp 10 l).length) := hcl
    have HBN : Hid (∀ v ∈ C, bN v) := hbn
    clear hcl hbn
    generalize sp 10 l = LS at *
    generalize bL l = TXT at *
    go_enter Tryd.func4, Tryd.ntmps4
    go_upto_region 12 with (first | (go_at_call 5; first | (refine (cX _ hS hP hE m (HM.out _ (Below.refl _ _)).1 (HM.out _ (Below.refl _ _)).2).mono ?_; rintro e w1 ⟨V1, V2, rfl, ⟨o1, o2, hB1⟩⟩; dsimp only at o1 o2; obtain ⟨xc, xd, rfl, Ac⟩ := own_ints rfl o1; obtain ⟨xl, xm, rfl, Al⟩ := own_labs rfl o2; obtain ⟨Bc, oc, rfl, dc⟩ := ints_first Ac; obtain ⟨Bl, rfl, dl⟩ := labs_first Al; clear cX o1 o2 Ac Al) | (refine (cR _ (hS.below (hB2.alloc hB2.size _)) (hP.below (hB2.alloc hB2.size _)) (hE.below (hB2.alloc hB2.size _)) m (HM.out _ (hB2.alloc hB2.size _)).1 (HM.out _ (hB2.alloc hB2.size _)).2).mono ?_; rintro e w3 ⟨V3, V4, rfl, ⟨o3, o4, hbb⟩⟩; have hB3 := Below.step0 (hB2.alloc hB2.size _) hbb; dsimp only at o3 o4; obtain ⟨yc, yd, rfl, A3⟩ := own_ints rfl o3; obtain ⟨yl, ym, rfl, A4⟩ := own_labs rfl o4; clear hbb cR o3 o4)) | (go_at_call 11; (refine (cI _ (hS.below hB1)).mono ?_; rintro e w2 ⟨rfl, hbb⟩; have hB2 := Below.step0 hB1 hbb; clear hbb cI)) | (go_at_call 7; refine (cS _ m (HM.out _ hB3).1).mono ?_; rintro e w4 ⟨rfl, rfl⟩; clear cS))
    obtain ⟨w4, hw4⟩ : ∃ w4, w4 = w3.alloc (.cells (LS.map fun x => Value.string (bL x)).toArray 9) := ⟨_, rfl⟩
    rw [← hw4]
    have hb4 : Below w3.heap.size w3 w4 := by rw [hw4]; exact (Below.refl _ _).alloc (Nat.le_refl _) _
    have B4 := Box.new w3 (LS.map fun x => Value.string (bL x)).toArray 9
    rw [← hw4] at B4
    have hB4 := Below.step0 hB3 hb4
    replace A3 := A3.below hb4
    replace A4 := A4.below hb4
    have lt4 := B4.lt
    have HC : Hid (∀ (k : Nat) (x : List UInt8), LS[k]? = some x → w4.cell? ⟨w3.heap.size, k, none⟩ = some (.string (bL x))) := fun k x hx => by
      rw [B4.cell]
      simp [hx]
    have HA3 : Hid (IntsAt w4 yc C) := A3
    have HA4 : Hid (LabsAt w4 yl L) := A4
    clear hw4 hb4 B4 dc dl A3 A4
    go_loopw [9, 69] (fun a i wr => ∃ k : Nat, k ≤ LS.length ∧ i = .int .i64 (k : Int) ∧ a = .int .i64 (gj LS k : Int) ∧ Below w4.heap.size w4 wr) (fun _ i _ => LS.length - (intOf i).toNat)
    case atStart => exact ⟨0, Nat.zero_le _, rfl, rfl, Below.refl _ _⟩
    case round =>
      obtain ⟨k, hk, rfl, rfl, hR⟩ := hrel
      have hgj := gj_le LS k
      by_cases hlt : k < LS.length
      · have gk : (k : Int) < (LS.length : Int) := by omega
        obtain ⟨x, hx⟩ : ∃ x, LS[k]? = some x := ⟨_, List.getElem?_eq_getElem hlt⟩
        have hcell := HC.out k x hx
        rw [← hR.cell (p := ⟨w3.heap.size, k, none⟩) lt4] at hcell
        have hst := gj_step hx
        by_cases hxe : x = []
        · subst hxe
          have hcell' : wr.cell? ⟨w3.heap.size, k, none⟩ = some (.string ⟨#[]⟩) := hcell
          have G2 : Hid (gj LS (k + 1) = gj LS k) := hst
          have HR : Hid (Below w4.heap.size w4 wr) := hR
          clear hcell hst hx hR
          go_wp2
          go_roundw
          case rel => exact ⟨k + 1, by omega, rfl, by rw [G2.out], HR.out⟩
          case measure => simp [intOf]; omega
        · have hx80 := hsh x (List.mem_of_getElem? hx)
          have cH := fun w => Tryd.strings_HasSuffix (bL x) ⟨#[58]⟩ w (by rw [bL_size]; omega)
          rw [bL_list] at cH
          change ∀ w, Calls _ _ _ _ fun e w' => e = .returned (.bool (isLb x)) ∧ w' = w at cH
          have hne : (bL x).toList.isEmpty = false := by
            rw [ByteArray.toList_eq, bL_list]
            cases x with
            | nil => exact absurd rfl hxe
            | cons a r => rfl
          cases hlb : isLb x
          · have hc1 : isCl x = true := by
              unfold isCl
              rw [hlb]
              cases x with
              | nil => exact absurd rfl hxe
              | cons a r => rfl
            rw [hc1, if_pos rfl] at hst
            have hat := gj_at hx hc1
            have hgc : gj LS k < C.length := by
              have h1 := HCL.out
              rw [gj_all] at h1
              have h2 := (List.getElem?_eq_some_iff.1 hat).1
              omega
            obtain ⟨c, hcc⟩ : ∃ c, C[gj LS k]? = some c := ⟨_, List.getElem?_eq_getElem hgc⟩
            have hcb := HBN.out c (List.mem_of_getElem? hcc)
            unfold bN at hcb
            obtain ⟨ys, hys⟩ := sp_first 32 x
            obtain ⟨f, ws, hws⟩ : ∃ f ws, sp 32 x = f :: ws := ⟨_, _, hys⟩
            obtain ⟨q, hq⟩ : ∃ q, (f :: ws).getLast? = some q := by
              cases h : (f :: ws).getLast? with
              | none => simp at h
              | some q => exact ⟨q, rfl⟩
            have wl : ws.length ≤ 80 := by
              have h1 := sp_len 32 x
              rw [hws, List.length_cons] at h1
              have h2 : x.count 32 ≤ x.length := List.count_le_length
              omega
            have cW := fun w m hM => go_words hws hq w m hM (show x.length < 4294967281 by omega)
            have HF : Hid (∀ b ∈ L, b.nm = q → ¬ ws.length = 0 → (f = [106, 117, 109, 112] ∨ f = [105, 102]) → (readD c).e = 0 ∧ (gj LS k : Int) + (readD c).c = b.at_) := fun b hb h1 h2 h3 => HLD.out (gj LS k) x ws f q b c hat hws (fun e => h2 (by rw [e]; rfl)) hq hb h1 h3 hcc
            have hUc := readD_c hcb
            have cJ := fun w hS => inst_read c w hS (by omega) (readD c) rfl
            obtain ⟨Bc, oc, eyc, dcc⟩ := ints_at' (HA3.out.below hR) hcc
            subst eyc
            have hBr := Below.step0 hB4 hR
            rw [hlb] at cH
            have HST : Hid (gj LS (k + 1) = gj LS k + 1) := hst
            have hwr : IntKind.i64.wrap ((gj LS k : Int) + 1) = (gj LS k : Int) + 1 := by rw [IntKind.wrap_i64]; omega
            have ggc : (gj LS k : Int) < (C.length : Int) := by omega
            clear hst hx hlb hxe hat hcc hcb hys hws hq hx80 hc1 hgc
            generalize bL x = T at *
            generalize readD c = U at *
            generalize gj LS k = gn at *
            go_upto_region 19 with (first | (go_at_call 8; refine (cH _).mono ?_; rintro e w5 ⟨rfl, hw5⟩; rw [hw5]; clear hw5 cH w5) | (go_at_call 7; refine (cW _ m (HM.out _ hBr).1).mono ?_; rintro e w5 ⟨rfl, hbb, hz5, q0, qn⟩; have hR5 := Below.step0 hR hbb; have hB5 := Below.step0 hBr hbb; have dc5 : w5.cell? ⟨Bc, oc + gn, none⟩ = some (.int .i64 c) := (by rw [hbb.cell (p := ⟨Bc, oc + gn, none⟩) (cell_lt dcc)]; exact dcc); clear cW dcc) | (go_at_call 11; refine (cJ _ (hS.below hB5)).mono ?_; rintro e w6 ⟨rfl, hbb6⟩; have hR6 := Below.step0 hR5 hbb6; have hB6 := Below.step0 hB5 hbb6; have r0 : w6.cell? ⟨wr.heap.size, 0, none⟩ = some (.string (bL f)) := (by rw [hbb6.cell (p := ⟨wr.heap.size, 0, none⟩) hz5]; exact q0); have rn : w6.cell? ⟨wr.heap.size, ws.length, none⟩ = some (.string (bL q)) := (by rw [hbb6.cell (p := ⟨wr.heap.size, ws.length, none⟩) hz5]; exact qn); have hz6 := Nat.lt_of_lt_of_le hz5 hbb6.size; clear hbb6 cJ q0 qn dc5))
            obtain ⟨w7, hw7⟩ : ∃ w7, w7 = w6.alloc (.cells #[.int .i64 U.o, .int .i64 U.a, .int .i64 U.b, .int .i64 U.c] 37) := ⟨_, rfl⟩
            rw [← hw7]
            have hb7 : Below w6.heap.size w6 w7 := by rw [hw7]; exact (Below.refl _ _).alloc (Nat.le_refl _) _
            have B7 := Box.new w6 #[.int .i64 U.o, .int .i64 U.a, .int .i64 U.b, .int .i64 U.c] 37
            rw [← hw7] at B7
            have hR7 := Below.step0 hR6 hb7
            have s0 : w7.cell? ⟨wr.heap.size, 0, none⟩ = some (.string (bL f)) := by rw [hb7.cell (p := ⟨wr.heap.size, 0, none⟩) hz6]; exact r0
            have sn : w7.cell? ⟨wr.heap.size, ws.length, none⟩ = some (.string (bL q)) := by rw [hb7.cell (p := ⟨wr.heap.size, ws.length, none⟩) hz6]; exact rn
            have hz7 := Nat.lt_of_lt_of_le hz6 hb7.size
            have HS0 : Hid (w7.cell? ⟨wr.heap.size, 0, none⟩ = some (.string (bL f))) := s0
            clear hw7 hb7 hR hBr hR5 hB5 hR6 hB6 r0 rn hbb hz5 hz6 s0 sn
            generalize wr.heap.size = bw at *
            go_loopw [97] (fun i wr => ∃ j : Nat, j ≤ L.length ∧ i = .int .i64 (j : Int) ∧ Below w7.heap.size w7 wr) (fun i _ => L.length - (intOf i).toNat)
            case atStart => exact ⟨0, Nat.zero_le _, rfl, Below.refl _ _⟩
            case round =>
              obtain ⟨j, hj, rfl, hQ⟩ := hrel
              have HLL' := HLL.out
              by_cases hjl : j < L.length
              · have gjl : (j : Int) < (L.length : Int) := by omega
                obtain ⟨b, hb⟩ : ∃ b, L[j]? = some b := ⟨_, List.getElem?_eq_getElem hjl⟩
                obtain ⟨Bb, eyl, e1, e2⟩ := labs_at' (HA4.out.below (Below.step0 hR7 hQ)) hb
                subst eyl
                have hmem := List.mem_of_getElem? hb
                have f0 : wr.cell? ⟨bw, 0, none⟩ = some (.string (bL f)) := by rw [hQ.cell (p := ⟨bw, 0, none⟩) hz7]; exact HS0.out
                have B8 := B7.below hQ
                have t8 := B8.lt
                have q8 := B8.cell
                have u0 : bw < wr.heap.size := Nat.lt_of_lt_of_le hz7 hQ.size
                have hj20 : j ≤ 1000000 := by omega
                have HQ : Hid (∀ A : Array Value, Below w7.heap.size w7 (wr.alloc (.cells A 29))) := fun A => hQ.alloc hQ.size _
                by_cases hw0 : ws.length = 0
                · have g1 : ¬ (1 : Int) < (ws.length : Int) + 1 := by omega
                  clear hb hmem hQ HF hw0
                  generalize bL b.nm = NM at *
                  generalize bL f = FF at *
                  go_wp2
                  go_roundw
                  case rel => exact ⟨j + 1, by omega, rfl, HQ.out _⟩
                  case measure => simp [intOf]; omega
                · have g1 : (1 : Int) < (ws.length : Int) + 1 := by omega
                  by_cases hnm : b.nm = q
                  · have es := str_same (show bL b.nm = bL q by rw [hnm])
                    by_cases hf1 : f = [106, 117, 109, 112]
                    · obtain ⟨u1, u2⟩ := HF.out b hmem hnm hw0 (.inl hf1)
                      have ef : ((bL f).toList == [106, 117, 109, 112]) = true := by rw [ByteArray.toList_eq, bL_list, hf1]; rfl
                      have hwu : IntKind.i64.wrap ((gn : Int) + U.c) = b.at_ := by rw [u2, IntKind.wrap_i64]; omega
                      have U1 : (U.e != 0) = false := by rw [u1]; rfl
                      clear hb hmem hQ HF hw0 hnm hf1 u1 u2
                      generalize bL b.nm = NM at *
                      generalize bL q = QQ at *
                      generalize bL f = FF at *
                      generalize b.at_ = ba at *
                      go_wp2
                      go_roundw
                      case rel => exact ⟨j + 1, by omega, rfl, HQ.out _⟩
                      case measure => simp [intOf]; omega
                    · have ef : ((bL f).toList == [106, 117, 109, 112]) = false := by rw [ByteArray.toList_eq, bL_list]; simpa using hf1
                      by_cases hf2 : f = [105, 102]
                      · obtain ⟨u1, u2⟩ := HF.out b hmem hnm hw0 (.inr hf2)
                        have eg : ((bL f).toList == [105, 102]) = true := by rw [ByteArray.toList_eq, bL_list, hf2]; rfl
                        have hwu : IntKind.i64.wrap ((gn : Int) + U.c) = b.at_ := by rw [u2, IntKind.wrap_i64]; omega
                        have U1 : (U.e != 0) = false := by rw [u1]; rfl
                        clear hb hmem hQ HF hw0 hnm hf1 hf2 u1 u2
                        generalize bL b.nm = NM at *
                        generalize bL q = QQ at *
                        generalize bL f = FF at *
                        generalize b.at_ = ba at *
                        go_wp2
                        go_roundw
                        case rel => exact ⟨j + 1, by omega, rfl, HQ.out _⟩
                        case measure => simp [intOf]; omega
                      · have eg : ((bL f).toList == [105, 102]) = false := by rw [ByteArray.toList_eq, bL_list]; simpa using hf2
                        clear hb hmem hQ HF hw0 hnm hf1 hf2
                        generalize bL b.nm = NM at *
                        generalize bL q = QQ at *
                        generalize bL f = FF at *
                        generalize b.at_ = ba at *
                        go_wp2
                        go_roundw
                        case rel => exact ⟨j + 1, by omega, rfl, HQ.out _⟩
                        case measure => simp [intOf]; omega
                  · have es := str_differ (fun h : bL b.nm = bL q => hnm (bL_inj h))
                    clear hb hmem hQ HF hw0 hnm
                    generalize bL b.nm = NM at *
                    generalize bL q = QQ at *
                    generalize bL f = FF at *
                    generalize b.at_ = ba at *
                    go_wp2
                    go_roundw
                    case rel => exact ⟨j + 1, by omega, rfl, HQ.out _⟩
                    case measure => simp [intOf]; omega
              · obtain rfl : j = L.length := by omega
                have gjl : ¬ (L.length : Int) < (L.length : Int) := by omega
                have HR9 : Hid (Below w4.heap.size w4 wr) := Below.step0 hR7 hQ
                clear hQ HF
                go_wp2
                go_roundw
                case rel => exact ⟨k + 1, by omega, rfl, by rw [HST.out]; rfl, HR9.out⟩
                case measure => simp [intOf]; omega
          · have hc0 : isCl x = false := by unfold isCl; rw [hlb]; simp
            rw [hc0, if_neg (by simp)] at hst
            have G2 : Hid (gj LS (k + 1) = gj LS k) := hst
            have HR : Hid (Below w4.heap.size w4 wr) := hR
            rw [hlb] at cH
            clear hst hx hR hlb hc0 hxe hx80
            generalize bL x = T at *
            go_wp2_with (go_at_call 8; refine (cH _).mono ?_; rintro e w6 ⟨rfl, rfl⟩; clear cH)
            go_roundw
            case rel => exact ⟨k + 1, by omega, rfl, by rw [G2.out], HR.out⟩
            case measure => simp [intOf]; omega
      · obtain rfl : k = LS.length := by omega
        have gk : ¬ (LS.length : Int) < (LS.length : Int) := by omega
        have gq : ((gj LS LS.length : Int) == (C.length : Int)) = true := by rw [HCL.out]; simp
        have hBr := Below.step0 hB4 hR
        generalize gj LS LS.length = gn at *
        go_wp2
        go_ret
        exact ⟨rfl, hBr⟩
  · have ge : ((readS l).e != 0) = true := by simpa using he
    generalize (readS l).n = N at *
    generalize hre : (readS l).e = E at *
    generalize bL l = TXT at *
    clear he hre
    go_enter Tryd.func4, Tryd.ntmps4
    go_wp2_with (first | (go_at_call 5; first | (refine (cX _ hS hP hE m (HM.out _ (Below.refl _ _)).1 (HM.out _ (Below.refl _ _)).2).mono ?_; rintro e w1 ⟨V1, V2, rfl, ⟨o1, o2, hB1⟩⟩; dsimp only at o1 o2; obtain ⟨xc, xd, rfl, Ac⟩ := own_ints rfl o1; obtain ⟨xl, xm, rfl, Al⟩ := own_labs rfl o2; obtain ⟨Bc, oc, rfl, dc⟩ := ints_first Ac; obtain ⟨Bl, rfl, dl⟩ := labs_first Al; clear cX o1 o2 Ac Al) | (refine (cR _ (hS.below (hB2.alloc hB2.size _)) (hP.below (hB2.alloc hB2.size _)) (hE.below (hB2.alloc hB2.size _)) m (HM.out _ (hB2.alloc hB2.size _)).1 (HM.out _ (hB2.alloc hB2.size _)).2).mono ?_; rintro e w3 ⟨V3, V4, rfl, ⟨o3, o4, hbb⟩⟩; have hB3 := Below.step0 (hB2.alloc hB2.size _) hbb; obtain ⟨yc, yd, rfl, -⟩ := own_ints rfl o3; obtain ⟨yl, ym, rfl, -⟩ := own_labs rfl o4; clear hbb cR o3 o4)) | (go_at_call 11; (refine (cI _ (hS.below hB1)).mono ?_; rintro e w2 ⟨rfl, hbb⟩; have hB2 := Below.step0 hB1 hbb; clear hbb cI)))
    go_ret
    exact ⟨rfl, hB3⟩

set_option maxRecDepth 1000000 in
theorem contract (H : Type) (enc : TypeId × Value → H) (W : World) (base : Nat) (args : Array Value) (ds gs : List (DataW H)) (before : List MemPlace)
    (hval : ∀ (j : Nat) t v, Tryd.f4.params[j]? = some t → args[j]? = some v → Value.okWide Tryd.prog W .any base t v)
    (hW : DataW.Whole enc Tryd.prog Tryd.f4.params.toList Rows.progJumpsSpec.vars false W args.toList ds gs before) (hsh : W.ShapedOpen Tryd.prog) (hz : (DataW.weightsEach Tryd.prog (Tryd.f4.params.toList ++ (Rows.OpenSpec.upto Rows.progJumpsSpec).bare.plain.varTypes Tryd.prog) (ds ++ gs)).all (· ≤ reachBytes) = true) (hL : laidMet Tryd.prog Rows.progJumpsUptoRow.laid W) (hk : decide (Rows.uptoBulkAll (ds ++ gs) ≤ 1048576) = true) :
    Calls Tryd.prog 4 args W fun e W' => ∃ v, e = .returned v ∧ Rows.progJumpsSpec.post enc Tryd.prog Tryd.f4 false true false false W args v W' := by
  have hW' := hW
  obtain ⟨p, q, hA0, hV, rfl, hfz, hnd⟩ := hW
  have hA : DataW.TrodAll enc Tryd.prog W 0 (fun _ => true) true Tryd.f4.params.toList args.toList ds p := hA0
  rw [Tryd.params4] at hA hval
  obtain ⟨v0, vs0, d0, ds0, p0, q0, hargs, rfl, rfl, h0, r0⟩ := trodAll_cons hA
  obtain ⟨rfl, rfl, rfl⟩ := trodAll_nil r0
  obtain rfl : args = #[v0] := by cases args; simp_all
  obtain ⟨rfl, rfl⟩ := trodVars_none hV
  obtain ⟨a0, rfl, rfl, rfl, z0⟩ := open_string Tryd.underlying9 (hval 0 9 v0 rfl rfl) h0
  clear hA0
  obtain ⟨m, hM⟩ : ∃ m, W.cell? ⟨1, 0, none⟩ = some (.int .i64 m) := maxLen_cell W hsh
  have zM : 1 < W.heap.size := by
    rcases Nat.lt_or_ge 1 W.heap.size with h | h
    · exact h
    · rw [World.cell?] at hM; simp [Array.getElem?_eq_none h] at hM
  refine (walk a0 z0 (by have h := of_decide_eq_true hk; simp only [List.cons_append, List.nil_append, List.append_nil, Rows.uptoBulkAll, Rows.uptoBulk] at h; have e : a0.size = a0.data.toList.length := (by simp); omega) W  (shp_of_laid hL (.tail _ (.tail _ (.tail _ (.tail _ (.tail _ (.tail _ (.head _)))))))) m hM zM (pw_of_laid hL (.tail _ (.tail _ (.head _)))) (er_of_laid hL (.tail _ (.tail _ (.tail _ (.tail _ (.tail _ (.head _)))))) (.tail _ (.tail _ (.tail _ (.tail _ (.head _))))))).mono fun e W' ⟨he, bel⟩ => ?_
  subst he
  exact ⟨_, rfl, _, _, _, [], [], [], hW', trodAll_mk1 (shut_bool Tryd.underlying4 _), (trodAll_cons_mk (shut_string Tryd.underlying9 z0) trodAll_mk0), rfl, bel.frame _, fun h => by cases h⟩

theorem reads (os : Os) {H : Type} (enc : TypeId × Value → H) : ∃ places, DataW.whole enc Tryd.prog ((World.laidAll Tryd.prog os Rows.progJumpsUptoRow.laid).forCall (fun _ _ => 0) ⟨#[], #[.string ⟨#[]⟩], []⟩).memory Tryd.f4.params.toList Rows.progJumpsSpec.vars false (#[.string ⟨#[]⟩] : Array Value).toList 8 = some ([.lit (.string [])], [], places) :=
  ⟨[], by kernel_rfl⟩
theorem laid_met (os : Os) : laidMet Tryd.prog Rows.progJumpsUptoRow.laid ((World.laidAll Tryd.prog os Rows.progJumpsUptoRow.laid).forCall (fun _ _ => 0) ⟨#[], #[.string ⟨#[]⟩], []⟩).memory :=
  laidMet_laidAll _ (by kernel_rfl) (by kernel_rfl)

set_option maxRecDepth 100000 in
theorem lifted (os : Os) (started : os.Started) (H : Type) (enc : TypeId × Value → H) (F : Stop.Interp) :
    ReturnsInHanded {} Tryd.checked os 4 .any ((Rows.OpenSpec.upto Rows.progJumpsSpec).preRow enc Tryd.prog Tryd.f4 Rows.progJumpsUptoRow.domain false Rows.progJumpsUptoRow.laid) (((Rows.OpenSpec.upto Rows.progJumpsSpec).at F).post enc Tryd.prog Tryd.f4 false true false false) := by
  obtain ⟨places, hx⟩ := reads os enc
  refine returnsInHanded_of_row (C := Tryd.checked) (s := Rows.OpenSpec.upto Rows.progJumpsSpec) own started (by kernel_rfl) Tryd.func4
    (witness_row_atRef (enc := enc) (C := Tryd.checked) false (World.laidAll Tryd.prog os Rows.progJumpsUptoRow.laid) #[.string ⟨#[]⟩] (World.laidAll_os _ _ _) (by kernel_rfl) (by kernel_rfl) (by kernel_rfl)
      (OpenSpec.preRow_of_cond 8 hx (by kernel_rfl) (fun k hk => by cases hk; kernel_rfl) (by kernel_rfl) (laid_met os))) ?_
  intro W base args ds gs before hval hW _ hcond hz hL hsh _
  exact contract H enc W base args ds gs before hval hW hsh hz hL (hcond _ rfl)

theorem said : Rows.ProgJumpsUptoSaid :=
  OpenClaim.holds_of_cond 4 Tryd.f4 rfl rfl rfl rfl rfl rfl rfl ⟨rfl, rfl, rfl, rfl, rfl⟩ rfl rfl rfl rfl rfl (by kernel_rfl) Tryd.func4 (by kernel_rfl)
    (of_decide_eq_true (by kernel_rfl)) (by unfold Func.isWrapper; first | (rw [if_pos (by decide +kernel)]; kernel_rfl) | (rw [if_neg (by decide +kernel)]; exact ⟨rfl, rfl⟩))
    (fun os started H enc _ F => by rw [OpenClaim.pre_eq_preRow]; exact lifted os started H enc F)
theorem plain (f : FuncId) (fn : Func) (hf : Tryd.pinned.checked.prog.funcNamed Rows.progJumpsUptoRow.func = some f) (hfn : Tryd.pinned.checked.prog.funcs[f]? = some fn) :
    true = Tryd.pinned.checked.prog.looks [] ∧ ∀ (j : Nat) t, fn.params[j]? = some t → Tryd.pinned.checked.prog.wantsStandIn t = false := by
  obtain rfl : f = 4 := Option.some.inj ((show Tryd.prog.funcNamed Rows.progJumpsUptoRow.func = some 4 by kernel_rfl).symm.trans hf) |>.symm
  obtain rfl : fn = Tryd.f4 := (Option.some.inj (Tryd.func4.symm.trans hfn)).symm
  refine ⟨by kernel_rfl, fun j t ht => ?_⟩
  rw [Tryd.params4] at ht
  have hm : t ∈ [9] := by simpa using Array.mem_of_getElem? ht
  have hall : ([9].all fun u => !Tryd.prog.wantsStandIn u) = true := by kernel_rfl
  exact (show Tryd.prog.wantsStandIn t = false by simpa using List.all_eq_true.1 hall t hm)
theorem proved : Rows.ProgJumpsUptoCardSaid :=
  Claim7.holds_tied_plain_at .later [] _ _ _ _ said (fun _ h => by cases h) (by kernel_rfl) (fun _ h => by cases h) progJumpsUpto_row_tie rfl ⟨rfl, rfl⟩ (by kernel_rfl) rfl plain (by kernel_rfl)
#print axioms proved
end Go.Proofs.YtpggmmnjfofgcaaDoor.progJumps
