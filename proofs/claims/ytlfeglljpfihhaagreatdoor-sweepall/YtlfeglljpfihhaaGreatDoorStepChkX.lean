/- step.Check answers what chapter 9 says of a machine, for whatever machine, and turns nothing that was in memory. step.Check answers what chapter 9 says of a machine, for whatever machine, and turns nothing that was in memory. -/
import Derived.Test.YtlfeglljpfihhaaGreatDoorRows
import Derived.Test.YtlfeglljpfihhaaGreatDoorCardBaseX
import Derived.Test.YtlfeglljpfihhaaGreatDoorKeyChkX
import Derived.Test.YtlfeglljpfihhaaGreatDoorValArgX
import Derived.Test.YtlfeglljpfihhaaGreatDoorCellChkX
import Derived.Test.YtlfeglljpfihhaaGreatDoorMemPureX
import Derived.Test.YtlfeglljpfihhaaGreatDoorMemChkX
import Derived.WalkKit
import Derived.ProofKit
import Derived.OpenShut
import Derived.Laws.Rows
import Derived.Deep.MidRow
namespace Go.Proofs.YtlfeglljpfihhaaGreatDoor
section
open Go.ChangeShapes Go.WideShapes Go.ChangeAt Go.RowKit
set_option linter.unusedSimpArgs false

def frE (f : FR) : Int := if chk5 f.c = 0 then chk1 f.d else chk5 f.c
def frsE : List FR → Int
  | [] => 0
  | f :: fs => if frE f = 0 then frsE fs else frE f
def stkE (fs : List FR) : Int := if 16 < fs.length then 2 else frsE fs
def toldE : List Int → Int
  | [] => 0
  | n :: ns => if wrap32 n = n then toldE ns else 1
def outE (ns : List Int) : Int := if 100 < ns.length then 2 else toldE ns
/-- P18. -/
def mcE (x : MC) : Int := if chkL x.r = 0 then (if chk5 x.k = 0 then (if memE x.m = 0 then (if stkE x.s = 0 then outE x.o else stkE x.s) else memE x.m) else chk5 x.k) else chkL x.r
theorem drop_one {α : Type} {vs : List α} {k : Nat} {v : α} (h : vs[k]? = some v) : vs.drop k = v :: vs.drop (k + 1) := by
  obtain ⟨hk, e⟩ := List.getElem?_eq_some_iff.1 h
  rw [List.drop_eq_getElem_cons hk, e]
def At12 (w : World) (B o : Nat) (f : FR) : Prop :=
  w.cell? ⟨B, o, none⟩ = some (.int .i64 f.c.p) ∧ w.cell? ⟨B, o + 1, none⟩ = some (.int .i64 f.c.b) ∧ w.cell? ⟨B, o + 2, none⟩ = some (.int .i64 f.c.l) ∧ w.cell? ⟨B, o + 3, none⟩ = some (.int .i64 f.c.a) ∧ w.cell? ⟨B, o + 4, none⟩ = some (.int .i64 f.c.s) ∧
  w.cell? ⟨B, o + 5, none⟩ = some (.bool f.d.i) ∧ w.cell? ⟨B, o + 6, none⟩ = some (.int .i64 f.d.n) ∧ w.cell? ⟨B, o + 7, none⟩ = some (.int .i64 f.d.p) ∧ w.cell? ⟨B, o + 8, none⟩ = some (.int .i64 f.d.b) ∧
  w.cell? ⟨B, o + 9, none⟩ = some (.int .i64 f.d.l) ∧ w.cell? ⟨B, o + 10, none⟩ = some (.int .i64 f.d.a) ∧ w.cell? ⟨B, o + 11, none⟩ = some (.int .i64 f.d.s)
theorem FrsAt.at {w : World} {a : Option Addr} {fs : List FR} {k : Nat} {f : FR} (h : FrsAt w a fs) (hk : fs[k]? = some f) : ∃ B off : Nat, a = some ⟨B, off, none⟩ ∧ B < w.heap.size ∧ At12 w B (off + k * 12) f := by
  rcases h with h | ⟨B, off, e, hB, hc⟩
  · cases fs with
    | nil => simp at hk
    | cons v vs => cases h
  · refine ⟨B, off, e, hB, ?_⟩
    have g : ∀ (j : Nat) (u : Value), j < 12 → (frC f)[j]? = some u → w.cell? ⟨B, off + k * 12 + j, none⟩ = some u := fun j u hj hu => by
      rw [Nat.add_assoc]
      exact hc _ _ (by rw [flat_cell frC_len fs k f j hk hj]; exact hu)
    exact ⟨g 0 _ (by omega) rfl, g 1 _ (by omega) rfl, g 2 _ (by omega) rfl, g 3 _ (by omega) rfl, g 4 _ (by omega) rfl, g 5 _ (by omega) rfl, g 6 _ (by omega) rfl, g 7 _ (by omega) rfl, g 8 _ (by omega) rfl, g 9 _ (by omega) rfl, g 10 _ (by omega) rfl, g 11 _ (by omega) rfl⟩
theorem NumsAt.at {w : World} {a : Option Addr} {ns : List Int} {k : Nat} {n : Int} (h : NumsAt w a ns) (hk : ns[k]? = some n) : ∃ B off : Nat, a = some ⟨B, off, none⟩ ∧ B < w.heap.size ∧ w.cell? ⟨B, off + k, none⟩ = some (.int .i64 n) := by
  rcases h with h | ⟨B, off, e, hB, hc⟩
  · cases ns with
    | nil => simp at hk
    | cons v vs => cases h
  · exact ⟨B, off, e, hB, hc k _ (by rw [List.getElem?_map, hk]; rfl)⟩
set_option maxRecDepth 100000 in
set_option maxHeartbeats 2000000 in
theorem step_frames (s : Option Addr) (c : Nat) (fs : List FR) (w : World) (hA : FrsAt w s fs) (hn : ∀ f ∈ fs, frOk f) :
    Calls Tryz.prog 44 #[.slice s fs.length c] w fun e w' => e = .returned (.int .i64 (stkE fs)) ∧ Below w.heap.size w w' := by
  by_cases hl : 16 < fs.length
  · have e : stkE fs = 2 := by unfold stkE; exact if_pos hl
    have g : (16 : Int) < (fs.length : Int) := by omega
    rw [e]
    clear e
    go_enter Tryz.func44, Tryz.ntmps44
    go_wp2
    go_ret
    exact ⟨rfl, Below.refl _ _⟩
  · have e : stkE fs = frsE fs := by unfold stkE; exact if_neg hl
    obtain ⟨R, hR⟩ : ∃ R, frsE fs = R := ⟨_, rfl⟩
    rw [e, hR]
    have HR : Hid (frsE fs = R) := hR
    have HA : Hid (FrsAt w s fs) := hA
    have HN : Hid (∀ f ∈ fs, frOk f) := hn
    have g : ¬ (16 : Int) < (fs.length : Int) := by omega
    clear hR hA hn e
    go_enter Tryz.func44, Tryz.ntmps44
    go_wp2
    go_loopw [12] (fun i wr => ∃ k : Nat, k ≤ fs.length ∧ i = .int .i64 (k : Int) ∧ Below w.heap.size w wr ∧ frsE (fs.drop k) = R) (fun i _ => fs.length - (intOf i).toNat)
    case atStart => exact ⟨0, Nat.zero_le _, rfl, Below.refl _ _, HR.out⟩
    case round =>
      obtain ⟨k, hk, rfl, hB, hs⟩ := hrel
      by_cases hlt : k < fs.length
      · have gk : (k : Int) < (fs.length : Int) := by omega
        obtain ⟨f, hv⟩ : ∃ f, fs[k]? = some f := ⟨_, List.getElem?_eq_getElem hlt⟩
        obtain ⟨B, off, rfl, hBl, c0, c1, c2, c3, c4, c5, c6, c7, c8, c9, c10, c11⟩ := (HA.out.below hB).at hv
        obtain ⟨hok1, hok2⟩ : frOk f := HN.out f (List.mem_of_getElem? hv)
        rw [drop_one hv, frsE] at hs
        have cK := fun w => keys_check f.c.p f.c.b f.c.l f.c.a f.c.s w hok1
        have cC := fun w => cell_check f.d.i f.d.n f.d.p f.d.b f.d.l f.d.a f.d.s w hok2
        have kb : k ≤ 16 := by omega
        by_cases h1 : chk5 f.c = 0
        · have h1' : chkE f.c.p f.c.b f.c.l f.c.a f.c.s = 0 := h1
          rw [h1'] at cK
          have e1 : frE f = chk1 f.d := by unfold frE; exact if_pos h1
          by_cases h2 : chk1 f.d = 0
          · rw [if_pos (by rw [e1]; exact h2)] at hs
            have HS : Hid (frsE (fs.drop (k + 1)) = R) := hs
            have h2' : chkV f.d.i f.d.n f.d.p f.d.b f.d.l f.d.a f.d.s = 0 := h2
            rw [h2'] at cC
            clear hs hv h1 h1' h2 h2' e1 hok1 hok2 HN HA HR
            go_wp2_with (first | (go_at_call 42; refine (cK _).mono ?_; rintro e w1 ⟨rfl, hbb⟩; have B1 := (Box.new _ _ _).below hbb; have q1 := B1.cell; have hB1 := Below.step0 (hB.alloc hB.size _) hbb; clear hbb) | (go_at_call 41; refine (cC _).mono ?_; rintro e w2 ⟨rfl, hbb⟩; have hB2 := Below.step0 hB1 hbb; clear hbb))
            go_roundw
            case rel => exact ⟨k + 1, by omega, rfl, hB2, HS.out⟩
            case measure => simp [intOf]; omega
          · rw [if_neg (by rw [e1]; exact h2)] at hs
            have h2' : ¬ chkV f.d.i f.d.n f.d.p f.d.b f.d.l f.d.a f.d.s = 0 := h2
            have hs' : chkV f.d.i f.d.n f.d.p f.d.b f.d.l f.d.a f.d.s = R := by rw [e1] at hs; exact hs
            rw [hs'] at cC h2'
            have gR : (R != 0) = true := by simpa using h2'
            clear hs hs' hv h1 h1' h2 h2' e1 hok1 hok2 HN HA HR
            go_wp2_with (first | (go_at_call 42; refine (cK _).mono ?_; rintro e w1 ⟨rfl, hbb⟩; have B1 := (Box.new _ _ _).below hbb; have q1 := B1.cell; have hB1 := Below.step0 (hB.alloc hB.size _) hbb; clear hbb) | (go_at_call 41; refine (cC _).mono ?_; rintro e w2 ⟨rfl, hbb⟩; have hB2 := Below.step0 hB1 hbb; clear hbb))
            go_ret
            exact ⟨rfl, hB2⟩
        · have e1 : frE f = chk5 f.c := by unfold frE; exact if_neg h1
          rw [if_neg (by rw [e1]; exact h1)] at hs
          have h1' : ¬ chkE f.c.p f.c.b f.c.l f.c.a f.c.s = 0 := h1
          have hs' : chkE f.c.p f.c.b f.c.l f.c.a f.c.s = R := by rw [e1] at hs; exact hs
          rw [hs'] at cK h1'
          have gR : (R != 0) = true := by simpa using h1'
          clear hs hs' hv h1 h1' e1 hok1 hok2 HN HA HR
          go_wp2_with (first | (go_at_call 42; refine (cK _).mono ?_; rintro e w1 ⟨rfl, hbb⟩; have B1 := (Box.new _ _ _).below hbb; have q1 := B1.cell; have hB1 := Below.step0 (hB.alloc hB.size _) hbb; clear hbb) | (go_at_call 41; refine (cC _).mono ?_; rintro e w2 ⟨rfl, hbb⟩; have hB2 := Below.step0 hB1 hbb; clear hbb))
          go_ret
          exact ⟨rfl, hB1⟩
      · obtain rfl : k = fs.length := by omega
        have gk : ¬ (fs.length : Int) < (fs.length : Int) := by omega
        rw [List.drop_length] at hs
        have hs' : R = 0 := hs.symm
        subst hs'
        clear hs HR
        go_wp2
        go_ret
        exact ⟨rfl, hB⟩
set_option maxRecDepth 100000 in
set_option maxHeartbeats 2000000 in
theorem step_told (s : Option Addr) (c : Nat) (ns : List Int) (w : World) (hA : NumsAt w s ns) :
    Calls Tryz.prog 45 #[.slice s ns.length c] w fun e w' => e = .returned (.int .i64 (outE ns)) ∧ w' = w := by
  by_cases hl : 100 < ns.length
  · have e : outE ns = 2 := by unfold outE; exact if_pos hl
    have g : (100 : Int) < (ns.length : Int) := by omega
    rw [e]
    clear e
    go_enter Tryz.func45, Tryz.ntmps45
    go_wp2
    go_ret
    exact ⟨rfl, rfl⟩
  · have e : outE ns = toldE ns := by unfold outE; exact if_neg hl
    obtain ⟨R, hR⟩ : ∃ R, toldE ns = R := ⟨_, rfl⟩
    rw [e, hR]
    have HR : Hid (toldE ns = R) := hR
    have HA : Hid (NumsAt w s ns) := hA
    have g : ¬ (100 : Int) < (ns.length : Int) := by omega
    clear hR hA e
    go_enter Tryz.func45, Tryz.ntmps45
    go_wp2
    go_loop [10] (fun i => ∃ k : Nat, k ≤ ns.length ∧ i = .int .i64 (k : Int) ∧ toldE (ns.drop k) = R) (fun i => ns.length - (intOf i).toNat)
    case atStart => exact ⟨0, Nat.zero_le _, rfl, HR.out⟩
    case round =>
      obtain ⟨k, hk, rfl, hs⟩ := hrel
      by_cases hlt : k < ns.length
      · have gk : (k : Int) < (ns.length : Int) := by omega
        obtain ⟨n, hv⟩ : ∃ n, ns[k]? = some n := ⟨_, List.getElem?_eq_getElem hlt⟩
        obtain ⟨B, off, rfl, hBl, c0⟩ := HA.out.at hv
        rw [drop_one hv, toldE] at hs
        have kb : k ≤ 100 := by omega
        have cW := fun w => num_wrap n w
        by_cases h1 : wrap32 n = n
        · rw [if_pos h1] at hs
          rw [h1] at cW
          have HS : Hid (toldE (ns.drop (k + 1)) = R) := hs
          clear hs hv h1 HA HR
          go_wp2_with (go_at_call 72; refine (cW _).mono ?_; rintro e w1 ⟨rfl, rfl⟩)
          go_round
          case rel => exact ⟨k + 1, by omega, rfl, HS.out⟩
          case measure => simp [intOf]; omega
        · rw [if_neg h1] at hs
          subst hs
          have gR : (wrap32 n != n) = true := by simpa using h1
          generalize wrap32 n = n' at *
          clear hv h1 HA HR
          go_wp2_with (go_at_call 72; refine (cW _).mono ?_; rintro e w1 ⟨rfl, rfl⟩)
          go_ret
          exact ⟨rfl, rfl⟩
      · obtain rfl : k = ns.length := by omega
        have gk : ¬ (ns.length : Int) < (ns.length : Int) := by omega
        rw [List.drop_length] at hs
        have hs' : R = 0 := hs.symm
        subst hs'
        clear hs HR
        go_wp2
        go_ret
        exact ⟨rfl, rfl⟩
end
section
open Go.ChangeShapes Go.WideShapes Go.ChangeAt Go.RowKit
set_option linter.unusedSimpArgs false

theorem load_run {P : Program} (w : World) (B o n : Nat) (cs : List Value) (hn : cs.length = n) (h : ∀ (j : Nat) u, cs[j]? = some u → w.cell? ⟨B, o + j, none⟩ = some u) : (loadCellsFrom ⟨B, o, none⟩ 0 n #[]).run P w = .ok cs.toArray w := by
  subst hn
  have := run_loadCells_list (P := P) w ⟨B, o, none⟩ cs (fun j u hj => by rw [addr_add]; exact h j u hj)
  simpa [loadCells] using this
/-- The cells of a machine. -/
structure McCells (x : MC) (q : MA) (M : Array Value) : Prop where
  eq : M = (mcC x q).toArray
  size : M.size = 64
  r : ∀ (j : Nat) u, (x.r.flatMap mvC)[j]? = some u → M[j]? = some u
  c0 : M[56]? = some (.int .i64 x.k.p)
  c1 : M[57]? = some (.int .i64 x.k.b)
  c2 : M[58]? = some (.int .i64 x.k.l)
  c3 : M[59]? = some (.int .i64 x.k.a)
  c4 : M[60]? = some (.int .i64 x.k.s)
  c5 : M[61]? = some (.slice q.m x.m.length q.cm)
  c6 : M[62]? = some (.slice q.s x.s.length q.cs)
  c7 : M[63]? = some (.slice q.o x.o.length q.co)
theorem mc_cells (x : MC) (q : MA) (h8 : x.r.length = 8) : McCells x q (mcC x q).toArray := by
  have hl : (x.r.flatMap mvC).length = 56 := by rw [mv_len, h8]
  have g : ∀ j u, (mcT x q)[j]? = some u → (mcC x q).toArray[56 + j]? = some u := fun j u hj => by
    rw [List.getElem?_toArray]
    unfold mcC
    rw [List.getElem?_append_right (by omega), hl, Nat.add_sub_cancel_left]
    exact hj
  refine ⟨rfl, ?_, fun j u hj => ?_, g 0 _ rfl, g 1 _ rfl, g 2 _ rfl, g 3 _ rfl, g 4 _ rfl, g 5 _ rfl, g 6 _ rfl, g 7 _ rfl⟩
  · rw [List.size_toArray]; unfold mcC; rw [List.length_append, hl]; rfl
  · rw [List.getElem?_toArray]
    unfold mcC
    rw [List.getElem?_append_left (List.getElem?_eq_some_iff.1 hj).1]
    exact hj
theorem regs_index {r : List MV} {k : Nat} {v : MV} (w : World) (h8 : r.length = 8) (hv : r[k]? = some v) :
    (Instr.index 26 (.agg (r.flatMap mvC).toArray) (.int .i64 (k : Int))).run Tryz.prog w = .ok (.agg #[.bool v.i, .int .i64 v.n, .int .i64 v.p, .int .i64 v.b, .int .i64 v.l, .int .i64 v.a, .int .i64 v.s]) w := by
  have hk : k < 8 := by have := (List.getElem?_eq_some_iff.1 hv).1; omega
  have hx : (r.flatMap mvC).toArray.extract (k * 7) (k * 7 + 7) = #[.bool v.i, .int .i64 v.n, .int .i64 v.p, .int .i64 v.b, .int .i64 v.l, .int .i64 v.a, .int .i64 v.s] := by
    apply Array.ext_getElem?
    intro j
    rw [Array.getElem?_extract]
    by_cases hj : j < 7
    · have hl : (r.flatMap mvC).length = 56 := by rw [mv_len, h8]
      rw [if_pos (by rw [List.size_toArray]; omega), List.getElem?_toArray, mv_cell r k v j hv hj]
      exact (List.getElem?_toArray (xs := mvC v)).symm
    · rw [if_neg (by omega), Array.getElem?_eq_none (by simpa using hj)]
  generalize (r.flatMap mvC).toArray = A at *
  have h0 : (0 : Int) ≤ (k : Int) := by omega
  simp only [Instr.index, go_sem, Tryz.underlying26]
  simp [go_sem, part, h0, hk, hx]
set_option maxRecDepth 100000 in
set_option maxHeartbeats 4000000 in
theorem step_check (x : MC) (q : MA) (w : World) (hA : McAt w x q) (hO : McB x) :
    Calls Tryz.prog 24 #[.agg (mcC x q).toArray] w fun e w' => e = .returned (.int .i64 (mcE x)) ∧ Below w.heap.size w w' := by
  have HC := mc_cells x q hO.r8
  obtain ⟨M, hM⟩ : ∃ M, (mcC x q).toArray = M := ⟨_, rfl⟩
  rw [hM] at HC ⊢
  obtain ⟨-, zM, rM, c0, c1, c2, c3, c4, c5, c6, c7⟩ := HC
  obtain ⟨L, hL⟩ : ∃ L, x.r.flatMap mvC = L := ⟨_, rfl⟩
  have hlen : L.length = 56 := by rw [← hL, mv_len, hO.r8]
  have hload : (w.alloc (.cells M 31)).rangeAt w.heap.size 0 L := fun j u hj => by
    rw [Nat.zero_add, cell_new]
    exact rM j u (by rw [hL]; exact hj)
  have hinf : (Tryz.prog.info? 26).map (·.size) = some L.length := by rw [hlen]; kernel_rfl
  have HL : Hid ((w.alloc (.cells M 31)).rangeAt w.heap.size 0 L ∧ (Tryz.prog.info? 26).map (·.size) = some L.length) := ⟨hload, hinf⟩
  have HI : Hid (∀ (k : Nat) (v : MV), x.r[k]? = some v → ∀ w, (Instr.index 26 (.agg L.toArray) (.int .i64 (k : Int))).run Tryz.prog w = .ok (.agg #[.bool v.i, .int .i64 v.n, .int .i64 v.p, .int .i64 v.b, .int .i64 v.l, .int .i64 v.a, .int .i64 v.s]) w) := fun k v hv w => by
    rw [← hL]; exact regs_index w hO.r8 hv
  have HR : Hid (mvsOk x.r) := hO.r
  have r8 := hO.r8
  have cK := fun w => keys_check x.k.p x.k.b x.k.l x.k.a x.k.s w hO.k
  have cM := fun w hA => mem_check q.m q.cm x.m w hA hO.m
  have cF := fun w hA => step_frames q.s q.cs x.s w hA hO.s
  have cT := fun w hA => step_told q.o q.co x.o w hA
  have HA : Hid (∀ w', Below w.heap.size w w' → McAt w' x q) := fun w' hb => hA.below hb
  obtain ⟨R, hR⟩ : ∃ R, mcE x = R := ⟨_, rfl⟩
  rw [hR]
  have HE : Hid (mcE x = R) := hR
  clear hA hM rM hR hO hL hlen hload hinf zM
  go_enter Tryz.func24, Tryz.ntmps24
  go_wp2_with (refine wpList_load_mid rfl 26 (.tmp 9) rfl w.heap.size 0 (by rfl) L _ HL.out.1 Tryz.underlying26 rfl HL.out.2 ?_)

  go_loopw [11] (fun i wr => ∃ k : Nat, k ≤ 8 ∧ i = .int .i64 (k : Int) ∧ Below (w.alloc (.cells M 31)).heap.size (w.alloc (.cells M 31)) wr ∧ chkL (x.r.drop k) = chkL x.r) (fun i _ => 8 - (intOf i).toNat)
  case atStart => exact ⟨0, Nat.zero_le _, rfl, Below.refl _ _, rfl⟩
  case round =>
    obtain ⟨k, hk, rfl, hB, hs⟩ := hrel
    have hW : Below w.heap.size w wr := Below.step0 ((Below.refl _ _).alloc (Nat.le_refl _) _) hB
    by_cases hlt : k < 8
    · have gk : (k : Int) < 8 := by omega
      obtain ⟨v, hv⟩ : ∃ v, x.r[k]? = some v := ⟨_, List.getElem?_eq_getElem (by omega)⟩
      have hix := HI.out k v hv
      have hok : mvOk v := mvs_at HR.out hv
      have cC := fun w => cell_check v.i v.n v.p v.b v.l v.a v.s w hok
      rw [drop_mv hv, chkL] at hs
      by_cases h1 : chk1 v = 0
      · rw [if_pos h1] at hs
        have HS : Hid (chkL (x.r.drop (k + 1)) = chkL x.r) := hs
        have h1' : chkV v.i v.n v.p v.b v.l v.a v.s = 0 := h1
        rw [h1'] at cC
        clear hs hv h1 h1' hok HE HA HR cK cM cF cT
        go_wp2_with (go_at_call 41; refine (cC _).mono ?_; rintro e w' ⟨rfl, hbb⟩; have hB1 := hB.trans (((Below.refl _ _).alloc hB.size _).trans (hbb.mono (by have := hB.size; simp at this ⊢; omega))))
        go_roundw
        case rel => exact ⟨k + 1, by omega, rfl, hB1, HS.out⟩
        case measure => simp [intOf]; omega
      · rw [if_neg h1] at hs
        have hE : R = chk1 v := by
          rw [← HE.out]; unfold mcE; rw [← hs, if_neg h1]
        have h1' : ¬ chkV v.i v.n v.p v.b v.l v.a v.s = 0 := h1
        have hE' : chkV v.i v.n v.p v.b v.l v.a v.s = R := hE.symm
        rw [hE'] at cC h1'
        have gR : (R != 0) = true := by simpa using h1'
        clear hs hv h1 h1' hok HE HA HR cK cM cF cT hE hE'
        go_wp2_with (go_at_call 41; refine (cC _).mono ?_; rintro e w' ⟨rfl, hbb⟩; have hB1 := Below.step0 (hW.alloc hW.size _) hbb)
        go_ret
        exact ⟨rfl, hB1⟩
    · obtain rfl : k = 8 := by omega
      rw [← r8, List.drop_length] at hs
      have hE : mcE x = (if chk5 x.k = 0 then (if memE x.m = 0 then (if stkE x.s = 0 then outE x.o else stkE x.s) else memE x.m) else chk5 x.k) := by unfold mcE; exact if_pos hs.symm
      rw [HE.out] at hE
      have B1 : Box wr w.heap.size M := (Box.new w M _).below hB
      have q1 := B1.cell
      clear hs HI HR HE HL hB
      by_cases h1 : chk5 x.k = 0
      · rw [if_pos h1] at hE
        have h1' : chkE x.k.p x.k.b x.k.l x.k.a x.k.s = 0 := h1
        rw [h1'] at cK
        by_cases h2 : memE x.m = 0
        · rw [if_pos h2] at hE
          rw [h2] at cM
          by_cases h3 : stkE x.s = 0
          · rw [if_pos h3] at hE
            rw [h3] at cF
            rw [← hE] at cT
            clear h1 h1' h2 h3 hE
            go_wp2_with (first | (go_at_call 42; refine (cK _).mono ?_; rintro e w1 ⟨rfl, hbb⟩; replace B1 := B1.below hbb; replace q1 := B1.cell; replace hW := Below.step0 hW hbb; clear hbb cK) | (go_at_call 43; refine (cM _ (HA.out _ hW).m).mono ?_; rintro e w2 ⟨rfl, hbb⟩; replace B1 := B1.below hbb; replace q1 := B1.cell; replace hW := Below.step0 hW hbb; clear hbb cM) | (go_at_call 44; refine (cF _ (HA.out _ hW).s).mono ?_; rintro e w3 ⟨rfl, hbb⟩; replace B1 := B1.below hbb; replace q1 := B1.cell; replace hW := Below.step0 hW hbb; clear hbb cF) | (go_at_call 45; refine (cT _ (HA.out _ hW).o).mono ?_; rintro e w4 ⟨rfl, rfl⟩; clear cT))
            go_ret
            exact ⟨rfl, hW⟩
          · rw [if_neg h3] at hE
            rw [← hE] at cF h3
            have gR : (R != 0) = true := by simpa using h3
            clear h1 h1' h2 h3 hE
            go_wp2_with (first | (go_at_call 42; refine (cK _).mono ?_; rintro e w1 ⟨rfl, hbb⟩; replace B1 := B1.below hbb; replace q1 := B1.cell; replace hW := Below.step0 hW hbb; clear hbb cK) | (go_at_call 43; refine (cM _ (HA.out _ hW).m).mono ?_; rintro e w2 ⟨rfl, hbb⟩; replace B1 := B1.below hbb; replace q1 := B1.cell; replace hW := Below.step0 hW hbb; clear hbb cM) | (go_at_call 44; refine (cF _ (HA.out _ hW).s).mono ?_; rintro e w3 ⟨rfl, hbb⟩; replace B1 := B1.below hbb; replace q1 := B1.cell; replace hW := Below.step0 hW hbb; clear hbb cF) | (go_at_call 45; refine (cT _ (HA.out _ hW).o).mono ?_; rintro e w4 ⟨rfl, rfl⟩; clear cT))
            go_ret
            exact ⟨rfl, hW⟩
        · rw [if_neg h2] at hE
          rw [← hE] at cM h2
          have gR : (R != 0) = true := by simpa using h2
          clear h1 h1' h2 hE
          go_wp2_with (first | (go_at_call 42; refine (cK _).mono ?_; rintro e w1 ⟨rfl, hbb⟩; replace B1 := B1.below hbb; replace q1 := B1.cell; replace hW := Below.step0 hW hbb; clear hbb cK) | (go_at_call 43; refine (cM _ (HA.out _ hW).m).mono ?_; rintro e w2 ⟨rfl, hbb⟩; replace B1 := B1.below hbb; replace q1 := B1.cell; replace hW := Below.step0 hW hbb; clear hbb cM) | (go_at_call 44; refine (cF _ (HA.out _ hW).s).mono ?_; rintro e w3 ⟨rfl, hbb⟩; replace B1 := B1.below hbb; replace q1 := B1.cell; replace hW := Below.step0 hW hbb; clear hbb cF) | (go_at_call 45; refine (cT _ (HA.out _ hW).o).mono ?_; rintro e w4 ⟨rfl, rfl⟩; clear cT))
          go_ret
          exact ⟨rfl, hW⟩
      · rw [if_neg h1] at hE
        have h1' : ¬ chkE x.k.p x.k.b x.k.l x.k.a x.k.s = 0 := h1
        have hE' : chkE x.k.p x.k.b x.k.l x.k.a x.k.s = R := hE.symm
        rw [hE'] at cK h1'
        have gR : (R != 0) = true := by simpa using h1'
        clear h1 h1' hE hE'
        go_wp2_with (first | (go_at_call 42; refine (cK _).mono ?_; rintro e w1 ⟨rfl, hbb⟩; replace B1 := B1.below hbb; replace q1 := B1.cell; replace hW := Below.step0 hW hbb; clear hbb cK) | (go_at_call 43; refine (cM _ (HA.out _ hW).m).mono ?_; rintro e w2 ⟨rfl, hbb⟩; replace B1 := B1.below hbb; replace q1 := B1.cell; replace hW := Below.step0 hW hbb; clear hbb cM) | (go_at_call 44; refine (cF _ (HA.out _ hW).s).mono ?_; rintro e w3 ⟨rfl, hbb⟩; replace B1 := B1.below hbb; replace q1 := B1.cell; replace hW := Below.step0 hW hbb; clear hbb cF) | (go_at_call 45; refine (cT _ (HA.out _ hW).o).mono ?_; rintro e w4 ⟨rfl, rfl⟩; clear cT))
        go_ret
        exact ⟨rfl, hW⟩
end
end Go.Proofs.YtlfeglljpfihhaaGreatDoor
