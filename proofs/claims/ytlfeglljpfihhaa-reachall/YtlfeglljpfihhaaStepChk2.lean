/- step.Check answers what chapter 9 says of a machine, for whatever machine, and turns nothing that was in memory. -/
import Derived.Test.YtlfeglljpfihhaaRows
import Derived.Test.YtlfeglljpfihhaaBits
import Derived.Test.YtlfeglljpfihhaaKeyPure
import Derived.Test.YtlfeglljpfihhaaKeyChk
import Derived.Test.YtlfeglljpfihhaaCellPure
import Derived.Test.YtlfeglljpfihhaaCellChk
import Derived.Test.YtlfeglljpfihhaaValsArg
import Derived.Test.YtlfeglljpfihhaaMemPure
import Derived.Test.YtlfeglljpfihhaaMemChk
import Derived.Test.YtlfeglljpfihhaaMachArg
import Derived.Test.YtlfeglljpfihhaaStepChk
import Derived.WalkKit
import Derived.ProofKit
import Derived.OpenShut
import Derived.Laws.Rows
import Derived.Deep.MidRow
namespace Go.Proofs.Ytlfeglljpfihhaa
open Go.ChangeShapes Go.WideShapes Go.ChangeAt Go.RowKit
set_option linter.unusedSimpArgs false

theorem load_run {P : Program} (w : World) (B o n : Nat) (cs : List Value) (hn : cs.length = n) (h : ∀ (j : Nat) u, cs[j]? = some u → w.cell? ⟨B, o + j, none⟩ = some u) : (loadCellsFrom ⟨B, o, none⟩ 0 n #[]).run P w = .ok cs.toArray w := by
  subst hn
  have := run_loadCells_list (P := P) w ⟨B, o, none⟩ cs (fun j u hj => by rw [addr_add]; exact h j u hj)
  simpa [loadCells] using this
/-- The cells of a machine. -/
structure McCells (x : MC) (q : MA) (M : Array Value) : Prop where
  eq : M = (mcC x q).toArray
  size : M.size = 64
  r : ∀ (j : Nat) u, (x.r.flatMap mvC)[j]? = some u → M[j]? = some u
  c0 : M[56]? = some (.int .i64 x.k.p)
  c1 : M[57]? = some (.int .i64 x.k.b)
  c2 : M[58]? = some (.int .i64 x.k.l)
  c3 : M[59]? = some (.int .i64 x.k.a)
  c4 : M[60]? = some (.int .i64 x.k.s)
  c5 : M[61]? = some (.slice q.m x.m.length q.cm)
  c6 : M[62]? = some (.slice q.s x.s.length q.cs)
  c7 : M[63]? = some (.slice q.o x.o.length q.co)
theorem mc_cells (x : MC) (q : MA) (h8 : x.r.length = 8) : McCells x q (mcC x q).toArray := by
  have hl : (x.r.flatMap mvC).length = 56 := by rw [mv_len, h8]
  have g : ∀ j u, (mcT x q)[j]? = some u → (mcC x q).toArray[56 + j]? = some u := fun j u hj => by
    rw [List.getElem?_toArray]
    unfold mcC
    rw [List.getElem?_append_right (by omega), hl, Nat.add_sub_cancel_left]
    exact hj
  refine ⟨rfl, ?_, fun j u hj => ?_, g 0 _ rfl, g 1 _ rfl, g 2 _ rfl, g 3 _ rfl, g 4 _ rfl, g 5 _ rfl, g 6 _ rfl, g 7 _ rfl⟩
  · rw [List.size_toArray]; unfold mcC; rw [List.length_append, hl]; rfl
  · rw [List.getElem?_toArray]
    unfold mcC
    rw [List.getElem?_append_left (List.getElem?_eq_some_iff.1 hj).1]
    exact hj
theorem regs_index {r : List MV} {k : Nat} {v : MV} (w : World) (h8 : r.length = 8) (hv : r[k]? = some v) :
    (Instr.index 26 (.agg (r.flatMap mvC).toArray) (.int .i64 (k : Int))).run Try.prog w = .ok (.agg #[.bool v.i, .int .i64 v.n, .int .i64 v.p, .int .i64 v.b, .int .i64 v.l, .int .i64 v.a, .int .i64 v.s]) w := by
  have hk : k < 8 := by have := (List.getElem?_eq_some_iff.1 hv).1; omega
  have hx : (r.flatMap mvC).toArray.extract (k * 7) (k * 7 + 7) = #[.bool v.i, .int .i64 v.n, .int .i64 v.p, .int .i64 v.b, .int .i64 v.l, .int .i64 v.a, .int .i64 v.s] := by
    apply Array.ext_getElem?
    intro j
    rw [Array.getElem?_extract]
    by_cases hj : j < 7
    · have hl : (r.flatMap mvC).length = 56 := by rw [mv_len, h8]
      rw [if_pos (by rw [List.size_toArray]; omega), List.getElem?_toArray, mv_cell r k v j hv hj]
      exact (List.getElem?_toArray (xs := mvC v)).symm
    · rw [if_neg (by omega), Array.getElem?_eq_none (by simpa using hj)]
  generalize (r.flatMap mvC).toArray = A at *
  have h0 : (0 : Int) ≤ (k : Int) := by omega
  simp only [Instr.index, go_sem, Try.underlying26]
  simp [go_sem, part, h0, hk, hx]
set_option maxRecDepth 100000 in
set_option maxHeartbeats 4000000 in
theorem step_check (x : MC) (q : MA) (w : World) (hA : McAt w x q) (hO : McB x) :
    Calls Try.prog 22 #[.agg (mcC x q).toArray] w fun e w' => e = .returned (.int .i64 (mcE x)) ∧ Below w.heap.size w w' := by
  have HC := mc_cells x q hO.r8
  obtain ⟨M, hM⟩ : ∃ M, (mcC x q).toArray = M := ⟨_, rfl⟩
  rw [hM] at HC ⊢
  obtain ⟨-, zM, rM, c0, c1, c2, c3, c4, c5, c6, c7⟩ := HC
  obtain ⟨L, hL⟩ : ∃ L, x.r.flatMap mvC = L := ⟨_, rfl⟩
  have hlen : L.length = 56 := by rw [← hL, mv_len, hO.r8]
  have hload : (w.alloc (.cells M 31)).rangeAt w.heap.size 0 L := fun j u hj => by
    rw [Nat.zero_add, cell_new]
    exact rM j u (by rw [hL]; exact hj)
  have hinf : (Try.prog.info? 26).map (·.size) = some L.length := by rw [hlen]; kernel_rfl
  have HL : Hid ((w.alloc (.cells M 31)).rangeAt w.heap.size 0 L ∧ (Try.prog.info? 26).map (·.size) = some L.length) := ⟨hload, hinf⟩
  have HI : Hid (∀ (k : Nat) (v : MV), x.r[k]? = some v → ∀ w, (Instr.index 26 (.agg L.toArray) (.int .i64 (k : Int))).run Try.prog w = .ok (.agg #[.bool v.i, .int .i64 v.n, .int .i64 v.p, .int .i64 v.b, .int .i64 v.l, .int .i64 v.a, .int .i64 v.s]) w) := fun k v hv w => by
    rw [← hL]; exact regs_index w hO.r8 hv
  have HR : Hid (mvsOk x.r) := hO.r
  have r8 := hO.r8
  have cK := fun w => keys_check x.k.p x.k.b x.k.l x.k.a x.k.s w hO.k
  have cM := fun w hA => mem_check q.m q.cm x.m w hA hO.m
  have cF := fun w hA => step_frames q.s q.cs x.s w hA hO.s
  have cT := fun w hA => step_told q.o q.co x.o w hA
  have HA : Hid (∀ w', Below w.heap.size w w' → McAt w' x q) := fun w' hb => hA.below hb
  obtain ⟨R, hR⟩ : ∃ R, mcE x = R := ⟨_, rfl⟩
  rw [hR]
  have HE : Hid (mcE x = R) := hR
  clear hA hM rM hR hO hL hlen hload hinf zM
  go_enter Try.func22, Try.ntmps22
  go_wp2_with (refine wpList_load_mid rfl 26 (.tmp 9) rfl w.heap.size 0 (by rfl) L _ HL.out.1 Try.underlying26 rfl HL.out.2 ?_)

  go_loopw [11] (fun i wr => ∃ k : Nat, k ≤ 8 ∧ i = .int .i64 (k : Int) ∧ Below (w.alloc (.cells M 31)).heap.size (w.alloc (.cells M 31)) wr ∧ chkL (x.r.drop k) = chkL x.r) (fun i _ => 8 - (intOf i).toNat)
  case atStart => exact ⟨0, Nat.zero_le _, rfl, Below.refl _ _, rfl⟩
  case round =>
    obtain ⟨k, hk, rfl, hB, hs⟩ := hrel
    have hW : Below w.heap.size w wr := Below.step0 ((Below.refl _ _).alloc (Nat.le_refl _) _) hB
    by_cases hlt : k < 8
    · have gk : (k : Int) < 8 := by omega
      obtain ⟨v, hv⟩ : ∃ v, x.r[k]? = some v := ⟨_, List.getElem?_eq_getElem (by omega)⟩
      have hix := HI.out k v hv
      have hok : mvOk v := mvs_at HR.out hv
      have cC := fun w => cell_check v.i v.n v.p v.b v.l v.a v.s w hok
      rw [drop_mv hv, chkL] at hs
      by_cases h1 : chk1 v = 0
      · rw [if_pos h1] at hs
        have HS : Hid (chkL (x.r.drop (k + 1)) = chkL x.r) := hs
        have h1' : chkV v.i v.n v.p v.b v.l v.a v.s = 0 := h1
        rw [h1'] at cC
        clear hs hv h1 h1' hok HE HA HR cK cM cF cT
        go_wp2_with (go_at_call 35; refine (cC _).mono ?_; rintro e w' ⟨rfl, hbb⟩; have hB1 := hB.trans (((Below.refl _ _).alloc hB.size _).trans (hbb.mono (by have := hB.size; simp at this ⊢; omega))))
        go_roundw
        case rel => exact ⟨k + 1, by omega, rfl, hB1, HS.out⟩
        case measure => simp [intOf]; omega
      · rw [if_neg h1] at hs
        have hE : R = chk1 v := by
          rw [← HE.out]; unfold mcE; rw [← hs, if_neg h1]
        have h1' : ¬ chkV v.i v.n v.p v.b v.l v.a v.s = 0 := h1
        have hE' : chkV v.i v.n v.p v.b v.l v.a v.s = R := hE.symm
        rw [hE'] at cC h1'
        have gR : (R != 0) = true := by simpa using h1'
        clear hs hv h1 h1' hok HE HA HR cK cM cF cT hE hE'
        go_wp2_with (go_at_call 35; refine (cC _).mono ?_; rintro e w' ⟨rfl, hbb⟩; have hB1 := Below.step0 (hW.alloc hW.size _) hbb)
        go_ret
        exact ⟨rfl, hB1⟩
    · obtain rfl : k = 8 := by omega
      rw [← r8, List.drop_length] at hs
      have hE : mcE x = (if chk5 x.k = 0 then (if memE x.m = 0 then (if stkE x.s = 0 then outE x.o else stkE x.s) else memE x.m) else chk5 x.k) := by unfold mcE; exact if_pos hs.symm
      rw [HE.out] at hE
      have B1 : Box wr w.heap.size M := (Box.new w M _).below hB
      have q1 := B1.cell
      clear hs HI HR HE HL hB
      by_cases h1 : chk5 x.k = 0
      · rw [if_pos h1] at hE
        have h1' : chkE x.k.p x.k.b x.k.l x.k.a x.k.s = 0 := h1
        rw [h1'] at cK
        by_cases h2 : memE x.m = 0
        · rw [if_pos h2] at hE
          rw [h2] at cM
          by_cases h3 : stkE x.s = 0
          · rw [if_pos h3] at hE
            rw [h3] at cF
            rw [← hE] at cT
            clear h1 h1' h2 h3 hE
            go_wp2_with (first | (go_at_call 36; refine (cK _).mono ?_; rintro e w1 ⟨rfl, hbb⟩; replace B1 := B1.below hbb; replace q1 := B1.cell; replace hW := Below.step0 hW hbb; clear hbb cK) | (go_at_call 37; refine (cM _ (HA.out _ hW).m).mono ?_; rintro e w2 ⟨rfl, hbb⟩; replace B1 := B1.below hbb; replace q1 := B1.cell; replace hW := Below.step0 hW hbb; clear hbb cM) | (go_at_call 38; refine (cF _ (HA.out _ hW).s).mono ?_; rintro e w3 ⟨rfl, hbb⟩; replace B1 := B1.below hbb; replace q1 := B1.cell; replace hW := Below.step0 hW hbb; clear hbb cF) | (go_at_call 39; refine (cT _ (HA.out _ hW).o).mono ?_; rintro e w4 ⟨rfl, rfl⟩; clear cT))
            go_ret
            exact ⟨rfl, hW⟩
          · rw [if_neg h3] at hE
            rw [← hE] at cF h3
            have gR : (R != 0) = true := by simpa using h3
            clear h1 h1' h2 h3 hE
            go_wp2_with (first | (go_at_call 36; refine (cK _).mono ?_; rintro e w1 ⟨rfl, hbb⟩; replace B1 := B1.below hbb; replace q1 := B1.cell; replace hW := Below.step0 hW hbb; clear hbb cK) | (go_at_call 37; refine (cM _ (HA.out _ hW).m).mono ?_; rintro e w2 ⟨rfl, hbb⟩; replace B1 := B1.below hbb; replace q1 := B1.cell; replace hW := Below.step0 hW hbb; clear hbb cM) | (go_at_call 38; refine (cF _ (HA.out _ hW).s).mono ?_; rintro e w3 ⟨rfl, hbb⟩; replace B1 := B1.below hbb; replace q1 := B1.cell; replace hW := Below.step0 hW hbb; clear hbb cF) | (go_at_call 39; refine (cT _ (HA.out _ hW).o).mono ?_; rintro e w4 ⟨rfl, rfl⟩; clear cT))
            go_ret
            exact ⟨rfl, hW⟩
        · rw [if_neg h2] at hE
          rw [← hE] at cM h2
          have gR : (R != 0) = true := by simpa using h2
          clear h1 h1' h2 hE
          go_wp2_with (first | (go_at_call 36; refine (cK _).mono ?_; rintro e w1 ⟨rfl, hbb⟩; replace B1 := B1.below hbb; replace q1 := B1.cell; replace hW := Below.step0 hW hbb; clear hbb cK) | (go_at_call 37; refine (cM _ (HA.out _ hW).m).mono ?_; rintro e w2 ⟨rfl, hbb⟩; replace B1 := B1.below hbb; replace q1 := B1.cell; replace hW := Below.step0 hW hbb; clear hbb cM) | (go_at_call 38; refine (cF _ (HA.out _ hW).s).mono ?_; rintro e w3 ⟨rfl, hbb⟩; replace B1 := B1.below hbb; replace q1 := B1.cell; replace hW := Below.step0 hW hbb; clear hbb cF) | (go_at_call 39; refine (cT _ (HA.out _ hW).o).mono ?_; rintro e w4 ⟨rfl, rfl⟩; clear cT))
          go_ret
          exact ⟨rfl, hW⟩
      · rw [if_neg h1] at hE
        have h1' : ¬ chkE x.k.p x.k.b x.k.l x.k.a x.k.s = 0 := h1
        have hE' : chkE x.k.p x.k.b x.k.l x.k.a x.k.s = R := hE.symm
        rw [hE'] at cK h1'
        have gR : (R != 0) = true := by simpa using h1'
        clear h1 h1' hE hE'
        go_wp2_with (first | (go_at_call 36; refine (cK _).mono ?_; rintro e w1 ⟨rfl, hbb⟩; replace B1 := B1.below hbb; replace q1 := B1.cell; replace hW := Below.step0 hW hbb; clear hbb cK) | (go_at_call 37; refine (cM _ (HA.out _ hW).m).mono ?_; rintro e w2 ⟨rfl, hbb⟩; replace B1 := B1.below hbb; replace q1 := B1.cell; replace hW := Below.step0 hW hbb; clear hbb cM) | (go_at_call 38; refine (cF _ (HA.out _ hW).s).mono ?_; rintro e w3 ⟨rfl, hbb⟩; replace B1 := B1.below hbb; replace q1 := B1.cell; replace hW := Below.step0 hW hbb; clear hbb cF) | (go_at_call 39; refine (cT _ (HA.out _ hW).o).mono ?_; rintro e w4 ⟨rfl, rfl⟩; clear cT))
        go_ret
        exact ⟨rfl, hW⟩
end Go.Proofs.Ytlfeglljpfihhaa
