/- package sweep: Sweep. -/
import Derived.Test.YthijebhhbflclaaRows
import Derived.Test.YthijebhhbflclaaBits
import Derived.Test.YthijebhhbflclaaKeyPure
import Derived.Test.YthijebhhbflclaaCellPure
import Derived.Test.YthijebhhbflclaaValsArg
import Derived.Test.YthijebhhbflclaaMemPure
import Derived.Test.YthijebhhbflclaaMachArg
import Derived.Test.YthijebhhbflclaaStepChk
import Derived.Test.YthijebhhbflclaaStepChk2
import Derived.Test.YthijebhhbflclaaMachMid
import Derived.Test.YthijebhhbflclaaSweepPure
import Derived.Test.YthijebhhbflclaaSweepStrike
import Derived.Test.YthijebhhbflclaaSweepGo
import Derived.Test.YthijebhhbflclaaRowMade
import Derived.Test.YthijebhhbflclaaRowApp
import Derived.Test.YthijebhhbflclaaMachSet
import Derived.Test.YthijebhhbflclaaSweepMach
import Derived.Test.YthijebhhbflclaaSweepTop
import Derived.Test.YthijebhhbflclaaSweepRef1
import Derived.Test.YthijebhhbflclaaStepChkRef
import Derived.Test.YthijebhhbflclaaMachCopy
import Derived.WalkKit
import Derived.ProofKit
import Derived.OpenShut
import Derived.Deep.MidRow
import Derived.Deep.CutBlock
import Derived.Deep.RegionHeld3
import Derived.Deep.CutRange
import Derived.Deep.AppendLies
import Derived.Laws.EntriesVeiled
namespace Go.Proofs.Ythijebhhbflclaa
open Go.ChangeShapes Go.WideShapes Go.ChangeAt Go.RowKit
set_option linter.unusedSimpArgs false
set_option linter.unusedVariables false
set_option maxRecDepth 100000

theorem Rsw.off {w w' : World} {Bb Bn Bc Bv g : Nat} {b n : Int} {c : Nat} (h : Rsw w Bb Bn Bc Bv b n c) (k : Off g w w') (h1 : Bb ≠ g) (h2 : Bn ≠ g) (h3 : Bc ≠ g) (h4 : Bv ≠ g) : Rsw w' Bb Bn Bc Bv b n c := ⟨k.box h.cb h1, k.box h.cn h2, k.box h.cc h3, k.box h.cv h4, h.lb, h.d1, h.d2, h.d3⟩
/-- Where the document's own sweeping stands. -/
structure RefS (w : World) (Bc BT : Nat) (b n : Int) (c : Nat) (x : MC) (q : MA) (y : MC) (p : MA) (W : World) : Prop where
  hB : Below w.heap.size w W
  bM : Box W w.heap.size (mcC x q).toArray
  bZ : Box W (w.heap.size + 1 + 1 + 1) z64.toArray
  hR : Rsw W (w.heap.size + 1) (w.heap.size + 1 + 1) Bc (Bc + 1) b n c
  bT : Box W BT (mcC y p).toArray
  lt : w.heap.size + 1 + 1 + 1 < Bc ∧ Bc + 1 < BT
  o : RowAt W p.o (x.o.map nmC)
  ob : ∀ z ∈ p.o, z.block < W.heap.size ∧ z.block ≠ BT ∧ Bc + 1 < z.block
section
variable {w W W' : World} {Bc BT : Nat} {b n : Int} {c c' : Nat} {x : MC} {q : MA} {y y' : MC} {p p' : MA}
theorem RefS.below (h : RefS w Bc BT b n c x q y p W) (hb : Below W.heap.size W W') : RefS w Bc BT b n c x q y p W' :=
  ⟨Below.step0 h.hB hb, h.bM.below hb, h.bZ.below hb, h.hR.below hb, h.bT.below hb, h.lt, h.o.below hb, fun z hz => ⟨Nat.lt_of_lt_of_le (h.ob z hz).1 hb.size, (h.ob z hz).2⟩⟩
theorem row_offB {a b : World} {g : Nat} {s : Option Addr} {cs : List Value} (h : Off g a b) (hr : RowAt a s cs) (hs : ∀ z ∈ s, z.block ≠ g) : RowAt b s cs := by
  cases s with
  | none =>
    rcases hr with h0 | ⟨_, _, e, _⟩
    · exact .inl h0
    · cases e
  | some z =>
    obtain ⟨B, o, sp⟩ := z
    rcases hr with h0 | ⟨B', o', e, hB, hc⟩
    · exact .inl h0
    · cases e
      refine .inr ⟨B, o, rfl, Nat.lt_of_lt_of_le hB h.size, fun j u hj => ?_⟩
      rw [World.cell?_of_block (w := a) (a := ⟨B, o + j, none⟩) (h.block B hB (hs _ rfl))]
      exact hc j u hj
theorem RefS.call (h : RefS w Bc BT b n c x q y p W) (k : Off Bc W W') (hR : Rsw W' (w.heap.size + 1) (w.heap.size + 1 + 1) Bc (Bc + 1) b n c') : RefS w Bc BT b n c' x q y p W' := by
  have l := h.lt
  have lc := h.hR.cc.lt
  exact ⟨h.hB.trans (k.to (by omega) (by omega)), k.box h.bM (by omega), k.box h.bZ (by omega), hR, k.box h.bT (by omega), l, row_offB k h.o (fun z hz => by have := (h.ob z hz).2.2; omega), fun z hz => ⟨Nat.lt_of_lt_of_le (h.ob z hz).1 k.size, (h.ob z hz).2⟩⟩
theorem RefS.put (h : RefS w Bc BT b n c x q y p W) (k : Off BT W W') (hT : Box W' BT (mcC y' p').toArray) (ho : p'.o = p.o) : RefS w Bc BT b n c x q y' p' W' := by
  have l := h.lt
  have lc := h.bT.lt
  exact ⟨h.hB.trans (k.to (by omega) (by omega)), k.box h.bM (by omega), k.box h.bZ (by omega), h.hR.off k (by omega) (by omega) (by omega) (by omega), hT, l, by rw [ho]; exact row_offB k h.o (fun z hz => (h.ob z hz).2.1), by rw [ho]; exact fun z hz => ⟨Nat.lt_of_lt_of_le (h.ob z hz).1 k.size, (h.ob z hz).2⟩⟩
end
theorem own_off {w w' : World} {S base : Nat} {e : TypeId} {size : Nat} {v : Value} {n : Nat} {xs : List Value} (h : w.ownsRow base e size v n xs) (k : Off S w w') (hS : S < base) : w'.ownsRow base e size v n xs := by
  obtain ⟨h1, h2⟩ := h
  refine ⟨h1, ?_⟩
  rcases h2 with h2 | ⟨g, cap, cur, hv, hg, hh, r⟩
  · exact .inl h2
  · exact .inr ⟨g, cap, cur, hv, hg, by rw [k.block g (Array.getElem?_eq_some_iff.1 hh).1 (by omega)]; exact hh, r⟩
theorem own_below {w w' : World} {base : Nat} {e : TypeId} {size : Nat} {v : Value} {n : Nat} {xs : List Value} (h : w.ownsRow base e size v n xs) (k : Below w.heap.size w w') : w'.ownsRow base e size v n xs := by
  obtain ⟨h1, h2⟩ := h
  refine ⟨h1, ?_⟩
  rcases h2 with h2 | ⟨g, cap, cur, hv, hg, hh, r⟩
  · exact .inl h2
  · exact .inr ⟨g, cap, cur, hv, hg, by rw [k.block g (Array.getElem?_eq_some_iff.1 hh).1]; exact hh, r⟩
/-- A row of its own, that nothing turns. -/
structure RowF (W : World) (Bc BT : Nat) (a : Option Addr) (cs : List Value) : Prop where
  r : RowAt W a cs
  b : ∀ z ∈ a, z.block < W.heap.size ∧ z.block ≠ BT ∧ Bc + 1 < z.block
theorem RowF.below {W W' : World} {Bc BT : Nat} {a : Option Addr} {cs : List Value} (h : RowF W Bc BT a cs) (k : Below W.heap.size W W') : RowF W' Bc BT a cs := ⟨h.r.below k, fun z hz => ⟨Nat.lt_of_lt_of_le (h.b z hz).1 k.size, (h.b z hz).2⟩⟩
theorem RowF.call {W W' : World} {Bc BT : Nat} {a : Option Addr} {cs : List Value} (h : RowF W Bc BT a cs) (k : Off Bc W W') : RowF W' Bc BT a cs := ⟨row_offB k h.r (fun z hz => by have := (h.b z hz).2.2; omega), fun z hz => ⟨Nat.lt_of_lt_of_le (h.b z hz).1 k.size, (h.b z hz).2⟩⟩
theorem RowF.put {W W' : World} {Bc BT : Nat} {a : Option Addr} {cs : List Value} (h : RowF W Bc BT a cs) (k : Off BT W W') : RowF W' Bc BT a cs := ⟨row_offB k h.r (fun z hz => (h.b z hz).2.1), fun z hz => ⟨Nat.lt_of_lt_of_le (h.b z hz).1 k.size, (h.b z hz).2⟩⟩
theorem RowF.grown {W W' : World} {Bc BT base : Nat} {a : Option Addr} {cs : List Value} {row : Option Nat} (h : RowF W Bc BT a cs) (hg : W.grownBy W' row) (hr : ∀ j, row = some j → base ≤ j) (hp : ∀ z ∈ a, z.block < base) : RowF W' Bc BT a cs := by
  refine ⟨?_, fun z hz => ⟨Nat.lt_of_lt_of_le (h.b z hz).1 hg.size, (h.b z hz).2⟩⟩
  rcases h.r with h0 | ⟨B, off, e, hB, hc⟩
  · exact .inl h0
  · refine .inr ⟨B, off, e, Nat.lt_of_lt_of_le hB hg.size, fun j u hj => ?_⟩
    have hb := hp ⟨B, off, none⟩ (by rw [e]; rfl)
    rw [hg.cell_far ⟨B, off + j, none⟩ hB (fun e => by have := hr B e.symm; simp only at hb; omega)]
    exact hc j u hj
theorem box_grownS {W w1 : World} {row : Option Nat} {k : Nat} {c : Array Value} (h : Box W k c) (hg : W.grownBy w1 row) (hne : some k ≠ row) : Box w1 k c :=
  ⟨Nat.lt_of_lt_of_le h.1 hg.size, fun o => by rw [hg.cell_far ⟨k, o, none⟩ h.1 hne]; exact h.2.1 o, fun o => by rw [hg.frozen_far ⟨k, o, none⟩ h.1 hne]; exact h.2.2 o⟩
theorem RefS.grown {w W W' : World} {Bc BT base : Nat} {b n : Int} {c : Nat} {x : MC} {q : MA} {y : MC} {p : MA} {row : Option Nat} (h : RefS w Bc BT b n c x q y p W) (hg : W.grownBy W' row) (hr : ∀ j, row = some j → base ≤ j) (hT : BT < base) (hp : ∀ z ∈ p.o, z.block < base) : RefS w Bc BT b n c x q y p W' := by
  have l := h.lt
  have ne : ∀ k, k < base → some k ≠ row := fun k hk e => by have := hr k e.symm; omega
  refine ⟨Below.grown h.hB hg h.hB.size (fun j hj => by have := hr j hj; omega), box_grownS h.bM hg (ne _ (by omega)), box_grownS h.bZ hg (ne _ (by omega)), ⟨box_grownS h.hR.cb hg (ne _ (by omega)), box_grownS h.hR.cn hg (ne _ (by omega)), box_grownS h.hR.cc hg (ne _ (by omega)), box_grownS h.hR.cv hg (ne _ (by omega)), h.hR.lb, h.hR.d1, h.hR.d2, h.hR.d3⟩, box_grownS h.bT hg (ne _ hT), l, ?_, fun z hz => ⟨Nat.lt_of_lt_of_le (h.ob z hz).1 hg.size, (h.ob z hz).2⟩⟩
  rcases h.o with h0 | ⟨B, off, e, hB, hc⟩
  · exact .inl h0
  · refine .inr ⟨B, off, e, Nat.lt_of_lt_of_le hB hg.size, fun j u hj => ?_⟩
    rw [hg.cell_far ⟨B, off + j, none⟩ hB (ne _ (hp ⟨B, off, none⟩ (by rw [e]; rfl)))]
    exact hc j u hj
def y0 (b n : Int) (x : MC) : MC := ⟨[nil0, nil0, nil0, nil0, nil0, nil0, nil0, nil0], swK b n x.k, [], [], x.o⟩
theorem build_y (b n : Int) (x : MC) (a : Option Addr) (c : Nat) (w : World) : (Instr.build 31 #[(1, .agg #[.int .i64 (swK b n x.k).p, .int .i64 (swK b n x.k).b, .int .i64 (swK b n x.k).l, .int .i64 (swK b n x.k).a, .int .i64 (swK b n x.k).s]), (4, .slice a x.o.length c)]).run Try.prog w = .ok (.agg (mcC (y0 b n x) ⟨none, 0, none, 0, a, c⟩).toArray) w := by kernel_rfl
def sT (b n : Int) (k : Nat) (x : MC) : List FR := (x.s.take k).map (swF b n)
theorem sT_len {b n : Int} {k : Nat} {x : MC} (hk : k ≤ x.s.length) : (sT b n k x).length = k := by unfold sT; rw [List.length_map, List.length_take]; omega
theorem sT_snoc {b n : Int} {k : Nat} {x : MC} {v : FR} (h : x.s[k]? = some v) : sT b n (k + 1) x = sT b n k x ++ [swF b n v] := take_snoc h
theorem sT_all {b n : Int} {x : MC} : sT b n x.s.length x = x.s.map (swF b n) := by unfold sT; rw [List.take_length]
def mT (b n : Int) (k : Nat) (x : MC) : List MV := (x.m.take k).map (swV b n)
theorem mT_len {b n : Int} {k : Nat} {x : MC} (hk : k ≤ x.m.length) : (mT b n k x).length = k := by unfold mT; rw [List.length_map, List.length_take]; omega
theorem mT_snoc {b n : Int} {k : Nat} {x : MC} {v : MV} (h : x.m[k]? = some v) : mT b n (k + 1) x = mT b n k x ++ [swV b n v] := take_snoc h
theorem mT_all {b n : Int} {x : MC} : mT b n x.m.length x = x.m.map (swV b n) := by unfold mT; rw [List.take_length]
/-- The first k registers are swept, the others not yet there. -/
def rgN (b n : Int) (k : Nat) (x : MC) : MC := { y0 b n x with r := (x.r.take k).map (swV b n) ++ List.replicate (8 - k) nil0 }
theorem rgN_zero (b n : Int) (x : MC) : rgN b n 0 x = y0 b n x := by unfold rgN y0; simp [List.replicate]
theorem rgN_r8 {b n : Int} {k : Nat} {x : MC} (h8 : x.r.length = 8) (hk : k ≤ 8) : (rgN b n k x).r.length = 8 := by unfold rgN; simp; omega
theorem rgN_put {b n : Int} {k : Nat} {x : MC} {v : MV} (h8 : x.r.length = 8) (hv : x.r[k]? = some v) : putR (rgN b n k x) k (swV b n v) = rgN b n (k + 1) x := by
  obtain ⟨hk, e⟩ := List.getElem?_eq_some_iff.1 hv
  unfold putR rgN
  dsimp only
  congr 1
  have hl : ((x.r.take k).map (swV b n)).length = k := by rw [List.length_map, List.length_take]; omega
  rw [List.set_append_right _ _ (by omega), hl, Nat.sub_self, show 8 - k = (8 - (k + 1)) + 1 by omega, List.replicate_succ, List.set_cons_zero, take_snoc hv, List.append_assoc]
  rfl
theorem rgN_all {b n : Int} {x : MC} (h8 : x.r.length = 8) : rgN b n 8 x = { y0 b n x with r := x.r.map (swV b n) } := by
  unfold rgN
  rw [List.take_of_length_le (by omega)]
  simp
set_option maxHeartbeats 8000000 in
theorem ref_sweep (x : MC) (q : MA) (b n : Int) (w : World) (hA : McAt w x q) (hO : McB x) (hb : -9223372036854775808 ≤ b ∧ b ≤ 9223372036854775807) (hn : -9223372036854775808 ≤ n ∧ n ≤ 9223372036854775807) :
    Calls Try.prog 9 #[.agg (mcC x q).toArray, .int .i64 b, .int .i64 n] w fun e w' => ∃ q', e = .returned (.tuple #[.agg (mcC (swA b n x) q').toArray, .int .i64 (swN b n x), .int .i64 (swE b n x)]) ∧ Below w.heap.size w w' ∧ McAt w' (swA b n x) q' := by
  have cC := fun w hA => ref_stepcheck x q w hA hO
  have hi : (Try.prog.info? 31).map (·.size) = some (mcC x q).length := by rw [mc_length hO.r8]; exact info_mach
  have HA : Hid (∀ w', Below w.heap.size w w' → McAt w' x q) := fun w' hb => hA.below hb
  have b0 := Box.new w (mcC x q).toArray 31
  rcases sw_cases b n x with ⟨hE, e1, e2⟩ | ⟨hE, e1, e2⟩
  rotate_left 1
  · rw [e1, e2]
    unfold swE at hE ⊢
    by_cases h0 : mcE x = 0
    · rw [if_pos h0] at hE ⊢
      rw [h0] at cC
      have hE1 : argE b n = 1 := by unfold argE at hE ⊢; split; rfl; split; rfl; split; rfl; omega
      rw [hE1]
      have hc : (decide (b < 0) || decide (400 < b)) = true ∨ ((decide (b < 0) || decide (400 < b)) = false ∧ (decide (n < 0) || decide (400 < n)) = true) ∨ ((decide (b < 0) || decide (400 < b)) = false ∧ (decide (n < 0) || decide (400 < n)) = false ∧ 400 < b + n ∧ IntKind.i64.wrap (b + n) = b + n) := by
        unfold argE at hE1
        simp only [Bool.or_eq_true, Bool.or_eq_false_iff, decide_eq_true_iff, decide_eq_false_iff_not, IntKind.wrap_i64]
        repeat (first | split at hE1 | omega)
      clear hE hE1 h0 e1 e2 hA
      rcases hc with g1 | ⟨g1, g2⟩ | ⟨g1, g2, g3, g4⟩
      all_goals
        go_enter Try.func9, Try.ntmps9
        go_upto_region 1 with (first | ((with_reducible refine at_alloc ?_); refine wpList_alloc1 rfl 31 rfl _ (alloc_mach _) ?_))
        obtain ⟨w0, hw0⟩ : ∃ w0, w0 = (((w.alloc (.cells (mcC x q).toArray 31)).alloc (.cells #[.int .i64 b] 3)).alloc (.cells #[.int .i64 n] 3)).alloc (.cells z64.toArray 31) := ⟨_, rfl⟩
        rw [← hw0]
        have bM : Box w0 w.heap.size (mcC x q).toArray := by rw [hw0]; exact ((b0.alloc _).alloc _).alloc _
        have bb : Box w0 (w.heap.size + 1) #[.int .i64 b] := by rw [hw0]; exact ((Box.new1 _ _ _ _).alloc _).alloc _
        have bn : Box w0 (w.heap.size + 1 + 1) #[.int .i64 n] := by rw [hw0]; exact (Box.new2 _ _ _ _ _).alloc _
        have bZ : Box w0 (w.heap.size + 1 + 1 + 1) z64.toArray := by
          rw [hw0]
          have := Box.new (((w.alloc (.cells (mcC x q).toArray 31)).alloc (.cells #[.int .i64 b] 3)).alloc (.cells #[.int .i64 n] 3)) z64.toArray 31
          simpa using this
        have hB : Below w.heap.size w w0 := by rw [hw0]; exact (three _ _ _).alloc (by simp; omega) _
        clear hw0 b0
        go_upto_region 4 with (first | ((with_reducible refine at_load ?_); refine pl_load_box (by rfl) 31 (.tmp 3) rfl w.heap.size (by rfl) (mcC x q) bM _ Try.underlying31 rfl hi ?_) | (go_at_call 19; refine (cC _ (HA.out _ hB)).mono ?_; rintro e w1 ⟨rfl, hbb⟩; replace bM := bM.below hbb; replace bZ := bZ.below hbb; replace bb := bb.below hbb; replace bn := bn.below hbb; have qb := bb.cell; have qn := bn.cell; replace hB := Below.step0 hB hbb; clear hbb cC) | (go_at_call 20; refine (ref_outsideS _ _ _ _).mono ?_; rintro e wo ⟨rfl, hwo⟩; obtain rfl := hwo.symm))
        go_wp2_with (first | (go_at_call 20; refine (ref_outsideS _ _ _ _).mono ?_; (try simp only [g1]); (try simp only [g2]); rintro e wo ⟨rfl, hwo⟩; obtain rfl := hwo.symm) | ((with_reducible refine at_store ?_); refine pl_store_box rfl 31 (.tmp 6) (.tmp 38) rfl (w.heap.size + 1 + 1 + 1) z64 (by rfl) (by rfl) z64.toArray bZ rfl (by kernel_rfl) (mc_one _ _) ?_; intro bR))
        have hld := run_loadVar_mid (P := Try.prog) (w1.setCells (w.heap.size + 1 + 1 + 1) 0 z64) (w.heap.size + 1 + 1 + 1) 0 31 z64 _ (box_range bR) Try.underlying31 rfl (by kernel_rfl)
        exact bodyPost_ret (v := .tuple #[.agg z64.toArray, .int .i64 0, .int .i64 1]) (by simp [results, Try.results9, asAddr, Act.put, hld]) rfl ⟨zeroA, rfl, below_cells _ _ _ _ hB (by omega), ⟨.inl rfl, .inl rfl, .inl rfl, Nat.le_refl _⟩⟩
    · rw [if_neg h0] at hE ⊢
      have gE : (mcE x != 0) = true := by simpa using h0
      generalize mcE x = E at *
      clear hE h0 e1 e2 hA
      go_enter Try.func9, Try.ntmps9
      go_upto_region 1 with (first | ((with_reducible refine at_alloc ?_); refine wpList_alloc1 rfl 31 rfl _ (alloc_mach _) ?_))
      obtain ⟨w0, hw0⟩ : ∃ w0, w0 = (((w.alloc (.cells (mcC x q).toArray 31)).alloc (.cells #[.int .i64 b] 3)).alloc (.cells #[.int .i64 n] 3)).alloc (.cells z64.toArray 31) := ⟨_, rfl⟩
      rw [← hw0]
      have bM : Box w0 w.heap.size (mcC x q).toArray := by rw [hw0]; exact ((b0.alloc _).alloc _).alloc _
      have bb : Box w0 (w.heap.size + 1) #[.int .i64 b] := by rw [hw0]; exact ((Box.new1 _ _ _ _).alloc _).alloc _
      have bn : Box w0 (w.heap.size + 1 + 1) #[.int .i64 n] := by rw [hw0]; exact (Box.new2 _ _ _ _ _).alloc _
      have bZ : Box w0 (w.heap.size + 1 + 1 + 1) z64.toArray := by
        rw [hw0]
        have := Box.new (((w.alloc (.cells (mcC x q).toArray 31)).alloc (.cells #[.int .i64 b] 3)).alloc (.cells #[.int .i64 n] 3)) z64.toArray 31
        simpa using this
      have hB : Below w.heap.size w w0 := by rw [hw0]; exact (three _ _ _).alloc (by simp; omega) _
      clear hw0 b0
      go_wp2_with (first | ((with_reducible refine at_load ?_); refine pl_load_box (by rfl) 31 (.tmp 3) rfl w.heap.size (by rfl) (mcC x q) bM _ Try.underlying31 rfl hi ?_) | (go_at_call 19; refine (cC _ (HA.out _ hB)).mono ?_; rintro e w1 ⟨rfl, hbb⟩; replace bM := bM.below hbb; replace bZ := bZ.below hbb; replace bb := bb.below hbb; replace bn := bn.below hbb; have qb := bb.cell; have qn := bn.cell; replace hB := Below.step0 hB hbb; clear hbb cC) | (go_at_call 20; refine (ref_outsideS _ _ _ _).mono ?_; rintro e wo ⟨rfl, hwo⟩; obtain rfl := hwo.symm) | ((with_reducible refine at_store ?_); refine pl_store_box rfl 31 (.tmp 6) (.tmp 24) rfl (w.heap.size + 1 + 1 + 1) z64 (by rfl) (by rfl) z64.toArray bZ rfl (by kernel_rfl) (mc_one _ _) ?_; intro bR))
      have hld := run_loadVar_mid (P := Try.prog) (w1.setCells (w.heap.size + 1 + 1 + 1) 0 z64) (w.heap.size + 1 + 1 + 1) 0 31 z64 _ (box_range bR) Try.underlying31 rfl (by kernel_rfl)
      exact bodyPost_ret (v := .tuple #[.agg z64.toArray, .int .i64 0, .int .i64 E]) (by simp [results, Try.results9, asAddr, Act.put, hld]) rfl ⟨zeroA, rfl, below_cells _ _ _ _ hB (by omega), ⟨.inl rfl, .inl rfl, .inl rfl, Nat.le_refl _⟩⟩
  · rw [e1, e2, hE]
    obtain ⟨f1, f2⟩ := sw_ok hE
    obtain ⟨g1, g2, g3⟩ := arg_ok f2
    have hX := swok_of hO.r8 f1
    have h8 := hX.r8
    have o1 : (decide (b < 0) || decide (400 < b)) = false := by simp; omega
    have o2 : (decide (n < 0) || decide (400 < n)) = false := by simp; omega
    have hwr : IntKind.i64.wrap (b + n) = b + n := by rw [IntKind.wrap_i64]; omega
    have g4 : ¬ 400 < b + n := by omega
    rw [f1] at cC
    have HX : Hid (SwOk x ∧ (0 ≤ b ∧ 0 ≤ n ∧ b + n ≤ 400)) := ⟨hX, g1, g2, g3⟩
    clear hE e1 e2 f1 f2 hX
    go_enter Try.func9, Try.ntmps9
    go_upto_region 1 with (first | ((with_reducible refine at_alloc ?_); refine wpList_alloc1 rfl 31 rfl _ (alloc_mach _) ?_))
    obtain ⟨w0, hw0⟩ : ∃ w0, w0 = (((w.alloc (.cells (mcC x q).toArray 31)).alloc (.cells #[.int .i64 b] 3)).alloc (.cells #[.int .i64 n] 3)).alloc (.cells z64.toArray 31) := ⟨_, rfl⟩
    rw [← hw0]
    have bM : Box w0 w.heap.size (mcC x q).toArray := by rw [hw0]; exact ((b0.alloc _).alloc _).alloc _
    have bb : Box w0 (w.heap.size + 1) #[.int .i64 b] := by rw [hw0]; exact ((Box.new1 _ _ _ _).alloc _).alloc _
    have bn : Box w0 (w.heap.size + 1 + 1) #[.int .i64 n] := by rw [hw0]; exact (Box.new2 _ _ _ _ _).alloc _
    have bZ : Box w0 (w.heap.size + 1 + 1 + 1) z64.toArray := by
      rw [hw0]
      have := Box.new (((w.alloc (.cells (mcC x q).toArray 31)).alloc (.cells #[.int .i64 b] 3)).alloc (.cells #[.int .i64 n] 3)) z64.toArray 31
      simpa using this
    have hB : Below w.heap.size w w0 := by rw [hw0]; exact (three _ _ _).alloc (by simp; omega) _
    clear hw0 b0
    go_upto_region 4 with (first | ((with_reducible refine at_load ?_); refine pl_load_box (by rfl) 31 (.tmp 3) rfl w.heap.size (by rfl) (mcC x q) bM _ Try.underlying31 rfl hi ?_) | (go_at_call 19; refine (cC _ (HA.out _ hB)).mono ?_; rintro e w1 ⟨rfl, hbb⟩; replace bM := bM.below hbb; replace bZ := bZ.below hbb; replace bb := bb.below hbb; replace bn := bn.below hbb; have qb := bb.cell; have qn := bn.cell; replace hB := Below.step0 hB hbb; clear hbb cC) | (go_at_call 20; refine (ref_outsideS _ _ _ _).mono ?_; rintro e wo ⟨rfl, hwo⟩; obtain rfl := hwo.symm))
    go_upto_region 9 with (first | (go_at_call 20; refine (ref_outsideS _ _ _ _).mono ?_; (try simp only [o1]); (try simp only [o2]); rintro e wo ⟨rfl, hwo⟩; obtain rfl := hwo.symm))
    have zz := bZ.lt
    have zl := hB.size
    obtain ⟨w2, hw2⟩ : ∃ w2, w2 = ((w1.alloc (.cells #[.int .i64 0] 3)).alloc (.cells #[.func (.func 21) #[] #[.pointer (some ⟨w.heap.size + 1, 0, none⟩), .pointer (some ⟨w.heap.size + 1 + 1, 0, none⟩), .pointer (some ⟨w1.heap.size, 0, none⟩)]] 54)) := ⟨_, rfl⟩
    have hsz : w2.heap.size = w1.heap.size + 1 + 1 := by rw [hw2]; simp
    have hR : Rsw w2 (w.heap.size + 1) (w.heap.size + 1 + 1) w1.heap.size (w1.heap.size + 1) b n 0 := by
      rw [hw2]
      exact ⟨(bb.alloc _).alloc _, (bn.alloc _).alloc _, (Box.new _ _ _).alloc _, Box.new1 _ _ _ _, HX.out.2, by omega, by omega, by omega⟩
    replace bM : Box w2 w.heap.size (mcC x q).toArray := by rw [hw2]; exact (bM.alloc _).alloc _
    replace bZ : Box w2 (w.heap.size + 1 + 1 + 1) z64.toArray := by rw [hw2]; exact (bZ.alloc _).alloc _
    replace hB : Below w.heap.size w w2 := by rw [hw2]; exact (hB.alloc zl _).alloc (by simp; omega) _
    rw [← hw2]
    clear hw2 bb bn qb qn
    have n1 : w.heap.size ≠ w1.heap.size := by omega
    have n2 : (w.heap.size + 1 + 1 + 1) ≠ w1.heap.size := by omega
    have n3 : w.heap.size ≤ w1.heap.size := by omega
    have cKo := fun W hR => rsw_code x.k b n (w.heap.size + 1) (w.heap.size + 1 + 1) w1.heap.size (w1.heap.size + 1) 0 W HX.out.1.k hR (by omega)
    rw [Nat.zero_add] at cKo
    have cI := fun W hA => copy_nums q.o q.co x.o W hA (by have := HX.out.1.lo; omega)
    have iy : ∀ p, (Try.prog.info? 31).map (·.size) = some (mcC (y0 b n x) p).length := fun p => mach_info rfl
    have zy : ∀ p, (mcC (y0 b n x) p).length = 64 := fun p => mc_length rfl
    go_cut [13] from 41 to 48 (fun s13 wx => ∃ (BT : Nat) (a3 : Option Addr) (c3 : Nat), s13 = .pointer (some ⟨BT, 0, none⟩) ∧ (x.o.length ≤ c3 ∧ c3 ≤ maxLen) ∧ RefS w w1.heap.size BT b n (cK b n x.k) x q (y0 b n x) ⟨none, 0, none, 0, a3, c3⟩ wx)
    case first =>
      refine wp_region_held_drew (S := fun w' => Box w' w.heap.size (mcC x q).toArray) (by kernel_rfl) bM.drew (fun hHeld => ?_)
      obtain ⟨W, hW⟩ : ∃ W, W = w2.drew := ⟨_, rfl⟩
      have hsW : w1.heap.size + 1 + 1 = W.heap.size := by rw [hW]; exact hsz.symm
      replace bM := bM.drew
      replace bZ := bZ.drew
      replace hR := hR.below (below_drew _)
      replace hB := hB.drew
      rw [← hW] at hHeld bM bZ hR hB ⊢
      clear hW
      refine wpAnyH_take (i := 0) (v := .func (.func 23) #[] #[.pointer (some ⟨w1.heap.size + 1, 0, none⟩)]) rfl (by kernel_rfl) (by kernel_rfl) (by kernel_rfl) (fun _ _ _ h => h) (Or.inl ⟨by rfl, fun wz hSw => by go_simp⟩) (by assumption) ?_
      try simp only [Act.put, List.getElem_toArray, List.getElem_cons_zero, List.getElem_cons_succ, List.setIfInBounds_toArray, List.set_cons_zero, List.set_cons_succ]
      refine wpAnyH_take (i := 1) (v := .pointer (some ⟨w.heap.size, 56, none⟩)) rfl (by kernel_rfl) (by kernel_rfl) (by kernel_rfl) (fun _ _ _ h => h) (Or.inl ⟨by rfl, fun wz hSw => by go_simp⟩) (by assumption) ?_
      try simp only [Act.put, List.getElem_toArray, List.getElem_cons_zero, List.getElem_cons_succ, List.setIfInBounds_toArray, List.set_cons_zero, List.set_cons_succ]
      refine wpAnyH_take (i := 2) (v := .agg #[.int .i64 x.k.p, .int .i64 x.k.b, .int .i64 x.k.l, .int .i64 x.k.a, .int .i64 x.k.s]) rfl (by kernel_rfl) (by kernel_rfl) (by kernel_rfl) (fun _ _ _ h => h) (Or.inl ⟨by rfl, fun wz hSw => by obtain ⟨k0, k1, k2, k3, k4, lm, ls, lo⟩ := mc_tail hSw h8; go_simp⟩) (by assumption) ?_
      try simp only [Act.put, List.getElem_toArray, List.getElem_cons_zero, List.getElem_cons_succ, List.setIfInBounds_toArray, List.set_cons_zero, List.set_cons_succ]
      refine wpAnyH_take (i := 4) (v := .pointer (some ⟨w.heap.size, 63, none⟩)) rfl (by kernel_rfl) (by kernel_rfl) (by kernel_rfl) (fun _ _ _ h => h) (Or.inl ⟨by rfl, fun wz hSw => by go_simp⟩) (by assumption) ?_
      try simp only [Act.put, List.getElem_toArray, List.getElem_cons_zero, List.getElem_cons_succ, List.setIfInBounds_toArray, List.set_cons_zero, List.set_cons_succ]
      refine wpAnyH_take (i := 5) (v := .slice q.o x.o.length q.co) rfl (by kernel_rfl) (by kernel_rfl) (by kernel_rfl) (fun _ _ _ h => h) (Or.inl ⟨by rfl, fun wz hSw => by obtain ⟨k0, k1, k2, k3, k4, lm, ls, lo⟩ := mc_tail hSw h8; go_simp⟩) (by assumption) ?_
      try simp only [Act.put, List.getElem_toArray, List.getElem_cons_zero, List.getElem_cons_succ, List.setIfInBounds_toArray, List.set_cons_zero, List.set_cons_succ]
      refine wpAnyH_ready (rs := [3, 8]) (by kernel_rfl) (by simp) (AllReadyH.cons rfl (fun K hK => ?_) (AllReadyH.cons rfl (fun K hK => ?_) AllReadyH.nil))
      · go_simp
        go_at_call 23
        refine (cKo _ hR).mono ?_
        rintro e wk ⟨rfl, hOv, hRv⟩
        replace bM := hOv.box bM n1
        replace bZ := hOv.box bZ n2
        replace hB := hB.trans (hOv.to n3 (by have := hR.cc.lt; omega))
        clear hR
        have hR := hRv
        have hsk := hOv.size
        clear hRv hOv
        refine hK.out _ _ bM (fun hHeld => ?_)
        clear hK K
        try simp only [Act.put, List.getElem_toArray, List.getElem_cons_zero, List.getElem_cons_succ, List.setIfInBounds_toArray, List.set_cons_zero, List.set_cons_succ]
        refine wpAnyH_ready (rs := [6, 8]) (by kernel_rfl) (by simp) (AllReadyH.cons rfl (fun K hK => ?_) (AllReadyH.cons rfl (fun K hK => ?_) AllReadyH.nil))
        · go_simp
          go_at_call 24
          refine (cI _ (HA.out _ hB).o).mono ?_
          rintro e wc ⟨a3, c3, rfl, hbb, k3, r3, hf⟩
          replace bM := bM.below hbb
          replace bZ := bZ.below hbb
          replace hR := hR.below hbb
          have o3 : ∀ z ∈ a3, z.block < wc.heap.size ∧ w1.heap.size + 1 < z.block := fun z hz => ⟨(hf z hz).2, by have := (hf z hz).1; omega⟩
          replace hB := Below.step0 hB hbb
          have hsc := hbb.size
          clear hbb hf
          refine hK.out _ _ bM (fun hHeld => ?_)
          clear hK K
          try simp only [Act.put, List.getElem_toArray, List.getElem_cons_zero, List.getElem_cons_succ, List.setIfInBounds_toArray, List.set_cons_zero, List.set_cons_succ]
          refine wpAnyH_take (i := 7) (v := .agg (mcC (y0 b n x) ⟨none, 0, none, 0, a3, c3⟩).toArray) rfl (by kernel_rfl) (by kernel_rfl) (by kernel_rfl) (fun _ _ _ h => h) (Or.inl ⟨by rfl, fun wz hSw => by go_simp; rfl⟩) (by assumption) ?_
          try simp only [Act.put, List.getElem_toArray, List.getElem_cons_zero, List.getElem_cons_succ, List.setIfInBounds_toArray, List.set_cons_zero, List.set_cons_succ]
          refine wpAnyH_ready (rs := [8]) (by kernel_rfl) (by simp) (AllReadyH.cons rfl (fun K hK => ?_) AllReadyH.nil)
          go_simp
          obtain ⟨wa, hwa, hbw, hsa, bT⟩ : ∃ wa, wa = wc.alloc (.cells #[.bool false, .int .i64 0, .int .i64 0, .int .i64 0, .int .i64 0, .int .i64 0, .int .i64 0, .bool false, .int .i64 0, .int .i64 0, .int .i64 0, .int .i64 0, .int .i64 0, .int .i64 0, .bool false, .int .i64 0, .int .i64 0, .int .i64 0, .int .i64 0, .int .i64 0, .int .i64 0, .bool false, .int .i64 0, .int .i64 0, .int .i64 0, .int .i64 0, .int .i64 0, .int .i64 0, .bool false, .int .i64 0, .int .i64 0, .int .i64 0, .int .i64 0, .int .i64 0, .int .i64 0, .bool false, .int .i64 0, .int .i64 0, .int .i64 0, .int .i64 0, .int .i64 0, .int .i64 0, .bool false, .int .i64 0, .int .i64 0, .int .i64 0, .int .i64 0, .int .i64 0, .int .i64 0, .bool false, .int .i64 0, .int .i64 0, .int .i64 0, .int .i64 0, .int .i64 0, .int .i64 0, .int .i64 0, .int .i64 0, .int .i64 0, .int .i64 0, .int .i64 0, .slice none 0 0, .slice none 0 0, .slice none 0 0] 31) ∧ Below wc.heap.size wc wa ∧ wa.heap.size = wc.heap.size + 1 ∧ ∃ C : Array Value, C.size = 64 ∧ Box wa wc.heap.size C := ⟨_, rfl, (Below.refl _ _).alloc (Nat.le_refl _) _, by rw [World.size_alloc], _, rfl, Box.new _ _ _⟩
          rw [← hwa]
          clear hwa
          obtain ⟨C, zC, bT⟩ := bT
          replace bM := bM.below hbw
          replace bZ := bZ.below hbw
          replace hR := hR.below hbw
          replace hB := Below.step0 hB hbw
          replace r3 := r3.below hbw
          replace o3 : ∀ z ∈ a3, z.block < wa.heap.size ∧ z.block ≠ wc.heap.size ∧ w1.heap.size + 1 < z.block := fun z hz => ⟨by have := (o3 z hz).1; omega, by have := (o3 z hz).1; omega, (o3 z hz).2⟩
          clear hbw
          refine hK.out _ _ bM (fun hHeld => ?_)
          clear hK K
          try simp only [Act.put, List.getElem_toArray, List.getElem_cons_zero, List.getElem_cons_succ, List.setIfInBounds_toArray, List.set_cons_zero, List.set_cons_succ]
          refine wpAnyH_ready (rs := [9]) (by kernel_rfl) (by simp) (AllReadyH.cons rfl (fun K hK => ?_) AllReadyH.nil)
          rw [if_pos (by rfl)]
          have zT := bT.lt
          refine wp_store_mid 31 (.tmp 13) (.tmp 48) rfl wc.heap.size 0 (mcC (y0 b n x) ⟨none, 0, none, 0, a3, c3⟩).toArray (by rfl) (by rfl) (box_there bT (by rw [zC]; exact (List.size_toArray.trans (zy _)).symm)) (by rw [List.size_toArray]; exact iy _) (all_oneCell_toArray (mc_one _ _)) ?_
          have hOs : Off wc.heap.size wa (wa.setCells wc.heap.size 0 (mcC (y0 b n x) ⟨none, 0, none, 0, a3, c3⟩)) := Off.cells _ _ _ _ (Off.refl _ _) (.inl rfl)
          have bT2 := box_cells (cs := mcC (y0 b n x) ⟨none, 0, none, 0, a3, c3⟩) bT (by rw [zy]; exact zC)
          have nT : w.heap.size ≠ wc.heap.size := by omega
          have hF : RefS w w1.heap.size wc.heap.size b n (cK b n x.k) x q (y0 b n x) ⟨none, 0, none, 0, a3, c3⟩ (wa.setCells wc.heap.size 0 (mcC (y0 b n x) ⟨none, 0, none, 0, a3, c3⟩)) :=
            ⟨hB.trans (hOs.to (by omega) (by omega)), hOs.box bM nT, hOs.box bZ (by omega), hR.off hOs (by omega) (by omega) (by omega) (by omega), bT2, ⟨by omega, by omega⟩, row_offB hOs r3 (fun z hz => (o3 z hz).2.1), fun z hz => ⟨Nat.lt_of_lt_of_le (o3 z hz).1 hOs.size, (o3 z hz).2⟩⟩
          refine hK.out _ _ hF.bM (fun hHeld => ?_)
          try simp only [Act.put, List.getElem_toArray, List.getElem_cons_zero, List.getElem_cons_succ, List.setIfInBounds_toArray, List.set_cons_zero, List.set_cons_succ]
          refine wpAnyH_done (by kernel_rfl) ?_ _
          go_wp2
          go_meet
          exact ⟨wc.heap.size, a3, c3, rfl, k3, hF⟩
        · go_simp
          obtain ⟨wa, hwa, hbw, hsa, bT⟩ : ∃ wa, wa = wk.alloc (.cells #[.bool false, .int .i64 0, .int .i64 0, .int .i64 0, .int .i64 0, .int .i64 0, .int .i64 0, .bool false, .int .i64 0, .int .i64 0, .int .i64 0, .int .i64 0, .int .i64 0, .int .i64 0, .bool false, .int .i64 0, .int .i64 0, .int .i64 0, .int .i64 0, .int .i64 0, .int .i64 0, .bool false, .int .i64 0, .int .i64 0, .int .i64 0, .int .i64 0, .int .i64 0, .int .i64 0, .bool false, .int .i64 0, .int .i64 0, .int .i64 0, .int .i64 0, .int .i64 0, .int .i64 0, .bool false, .int .i64 0, .int .i64 0, .int .i64 0, .int .i64 0, .int .i64 0, .int .i64 0, .bool false, .int .i64 0, .int .i64 0, .int .i64 0, .int .i64 0, .int .i64 0, .int .i64 0, .bool false, .int .i64 0, .int .i64 0, .int .i64 0, .int .i64 0, .int .i64 0, .int .i64 0, .int .i64 0, .int .i64 0, .int .i64 0, .int .i64 0, .int .i64 0, .slice none 0 0, .slice none 0 0, .slice none 0 0] 31) ∧ Below wk.heap.size wk wa ∧ wa.heap.size = wk.heap.size + 1 ∧ ∃ C : Array Value, C.size = 64 ∧ Box wa wk.heap.size C := ⟨_, rfl, (Below.refl _ _).alloc (Nat.le_refl _) _, by rw [World.size_alloc], _, rfl, Box.new _ _ _⟩
          rw [← hwa]
          clear hwa
          obtain ⟨C, zC, bT⟩ := bT
          replace bM := bM.below hbw
          replace bZ := bZ.below hbw
          replace hR := hR.below hbw
          replace hB := Below.step0 hB hbw
          clear hbw
          refine hK.out _ _ bM (fun hHeld => ?_)
          clear hK K
          try simp only [Act.put, List.getElem_toArray, List.getElem_cons_zero, List.getElem_cons_succ, List.setIfInBounds_toArray, List.set_cons_zero, List.set_cons_succ]
          refine wpAnyH_ready (rs := [6]) (by kernel_rfl) (by simp) (AllReadyH.cons rfl (fun K hK => ?_) AllReadyH.nil)
          go_simp
          go_at_call 24
          refine (cI _ (HA.out _ hB).o).mono ?_
          rintro e wc ⟨a3, c3, rfl, hbb, k3, r3, hf⟩
          replace bM := bM.below hbb
          replace bZ := bZ.below hbb
          replace hR := hR.below hbb
          have ztc := bT.lt
          replace bT := bT.below hbb
          have o3 : ∀ z ∈ a3, z.block < wc.heap.size ∧ z.block ≠ wk.heap.size ∧ w1.heap.size + 1 < z.block := fun z hz => ⟨(hf z hz).2, by have := (hf z hz).1; omega, by have := (hf z hz).1; omega⟩
          replace hB := Below.step0 hB hbb
          have hsc := hbb.size
          clear hbb hf
          refine hK.out _ _ bM (fun hHeld => ?_)
          clear hK K
          try simp only [Act.put, List.getElem_toArray, List.getElem_cons_zero, List.getElem_cons_succ, List.setIfInBounds_toArray, List.set_cons_zero, List.set_cons_succ]
          refine wpAnyH_take (i := 7) (v := .agg (mcC (y0 b n x) ⟨none, 0, none, 0, a3, c3⟩).toArray) rfl (by kernel_rfl) (by kernel_rfl) (by kernel_rfl) (fun _ _ _ h => h) (Or.inl ⟨by rfl, fun wz hSw => by go_simp; rfl⟩) (by assumption) ?_
          try simp only [Act.put, List.getElem_toArray, List.getElem_cons_zero, List.getElem_cons_succ, List.setIfInBounds_toArray, List.set_cons_zero, List.set_cons_succ]
          refine wpAnyH_ready (rs := [9]) (by kernel_rfl) (by simp) (AllReadyH.cons rfl (fun K hK => ?_) AllReadyH.nil)
          rw [if_pos (by rfl)]
          have zT := bT.lt
          refine wp_store_mid 31 (.tmp 13) (.tmp 48) rfl wk.heap.size 0 (mcC (y0 b n x) ⟨none, 0, none, 0, a3, c3⟩).toArray (by rfl) (by rfl) (box_there bT (by rw [zC]; exact (List.size_toArray.trans (zy _)).symm)) (by rw [List.size_toArray]; exact iy _) (all_oneCell_toArray (mc_one _ _)) ?_
          have hOs : Off wk.heap.size wc (wc.setCells wk.heap.size 0 (mcC (y0 b n x) ⟨none, 0, none, 0, a3, c3⟩)) := Off.cells _ _ _ _ (Off.refl _ _) (.inl rfl)
          have bT2 := box_cells (cs := mcC (y0 b n x) ⟨none, 0, none, 0, a3, c3⟩) bT (by rw [zy]; exact zC)
          have nT : w.heap.size ≠ wk.heap.size := by omega
          have hF : RefS w w1.heap.size wk.heap.size b n (cK b n x.k) x q (y0 b n x) ⟨none, 0, none, 0, a3, c3⟩ (wc.setCells wk.heap.size 0 (mcC (y0 b n x) ⟨none, 0, none, 0, a3, c3⟩)) :=
            ⟨hB.trans (hOs.to (by omega) (by omega)), hOs.box bM nT, hOs.box bZ (by omega), hR.off hOs (by omega) (by omega) (by omega) (by omega), bT2, ⟨by omega, by omega⟩, row_offB hOs r3 (fun z hz => (o3 z hz).2.1), fun z hz => ⟨Nat.lt_of_lt_of_le (o3 z hz).1 hOs.size, (o3 z hz).2⟩⟩
          refine hK.out _ _ hF.bM (fun hHeld => ?_)
          try simp only [Act.put, List.getElem_toArray, List.getElem_cons_zero, List.getElem_cons_succ, List.setIfInBounds_toArray, List.set_cons_zero, List.set_cons_succ]
          refine wpAnyH_done (by kernel_rfl) ?_ _
          go_wp2
          go_meet
          exact ⟨wk.heap.size, a3, c3, rfl, k3, hF⟩
      · go_simp
        obtain ⟨wa, hwa, hbw, hsa, bT⟩ : ∃ wa, wa = W.alloc (.cells #[.bool false, .int .i64 0, .int .i64 0, .int .i64 0, .int .i64 0, .int .i64 0, .int .i64 0, .bool false, .int .i64 0, .int .i64 0, .int .i64 0, .int .i64 0, .int .i64 0, .int .i64 0, .bool false, .int .i64 0, .int .i64 0, .int .i64 0, .int .i64 0, .int .i64 0, .int .i64 0, .bool false, .int .i64 0, .int .i64 0, .int .i64 0, .int .i64 0, .int .i64 0, .int .i64 0, .bool false, .int .i64 0, .int .i64 0, .int .i64 0, .int .i64 0, .int .i64 0, .int .i64 0, .bool false, .int .i64 0, .int .i64 0, .int .i64 0, .int .i64 0, .int .i64 0, .int .i64 0, .bool false, .int .i64 0, .int .i64 0, .int .i64 0, .int .i64 0, .int .i64 0, .int .i64 0, .bool false, .int .i64 0, .int .i64 0, .int .i64 0, .int .i64 0, .int .i64 0, .int .i64 0, .int .i64 0, .int .i64 0, .int .i64 0, .int .i64 0, .int .i64 0, .slice none 0 0, .slice none 0 0, .slice none 0 0] 31) ∧ Below W.heap.size W wa ∧ wa.heap.size = W.heap.size + 1 ∧ ∃ C : Array Value, C.size = 64 ∧ Box wa W.heap.size C := ⟨_, rfl, (Below.refl _ _).alloc (Nat.le_refl _) _, by rw [World.size_alloc], _, rfl, Box.new _ _ _⟩
        rw [← hwa]
        clear hwa
        obtain ⟨C, zC, bT⟩ := bT
        replace bM := bM.below hbw
        replace bZ := bZ.below hbw
        replace hR := hR.below hbw
        replace hB := Below.step0 hB hbw
        clear hbw
        refine hK.out _ _ bM (fun hHeld => ?_)
        clear hK K
        try simp only [Act.put, List.getElem_toArray, List.getElem_cons_zero, List.getElem_cons_succ, List.setIfInBounds_toArray, List.set_cons_zero, List.set_cons_succ]
        refine wpAnyH_ready (rs := [3]) (by kernel_rfl) (by simp) (AllReadyH.cons rfl (fun K hK => ?_) AllReadyH.nil)
        go_simp
        go_at_call 23
        refine (cKo _ hR).mono ?_
        rintro e wk ⟨rfl, hOv, hRv⟩
        replace bM := hOv.box bM n1
        replace bZ := hOv.box bZ n2
        replace hB := hB.trans (hOv.to n3 (by have := hR.cc.lt; omega))
        have ztk := bT.lt
        replace bT := hOv.box bT (by omega)
        clear hR
        have hR := hRv
        have hsk := hOv.size
        clear hRv hOv
        refine hK.out _ _ bM (fun hHeld => ?_)
        clear hK K
        try simp only [Act.put, List.getElem_toArray, List.getElem_cons_zero, List.getElem_cons_succ, List.setIfInBounds_toArray, List.set_cons_zero, List.set_cons_succ]
        refine wpAnyH_ready (rs := [6]) (by kernel_rfl) (by simp) (AllReadyH.cons rfl (fun K hK => ?_) AllReadyH.nil)
        go_simp
        go_at_call 24
        refine (cI _ (HA.out _ hB).o).mono ?_
        rintro e wc ⟨a3, c3, rfl, hbb, k3, r3, hf⟩
        replace bM := bM.below hbb
        replace bZ := bZ.below hbb
        replace hR := hR.below hbb
        have ztc := bT.lt
        replace bT := bT.below hbb
        have o3 : ∀ z ∈ a3, z.block < wc.heap.size ∧ z.block ≠ W.heap.size ∧ w1.heap.size + 1 < z.block := fun z hz => ⟨(hf z hz).2, by have := (hf z hz).1; omega, by have := (hf z hz).1; omega⟩
        replace hB := Below.step0 hB hbb
        have hsc := hbb.size
        clear hbb hf
        refine hK.out _ _ bM (fun hHeld => ?_)
        clear hK K
        try simp only [Act.put, List.getElem_toArray, List.getElem_cons_zero, List.getElem_cons_succ, List.setIfInBounds_toArray, List.set_cons_zero, List.set_cons_succ]
        refine wpAnyH_take (i := 7) (v := .agg (mcC (y0 b n x) ⟨none, 0, none, 0, a3, c3⟩).toArray) rfl (by kernel_rfl) (by kernel_rfl) (by kernel_rfl) (fun _ _ _ h => h) (Or.inl ⟨by rfl, fun wz hSw => by go_simp; rfl⟩) (by assumption) ?_
        try simp only [Act.put, List.getElem_toArray, List.getElem_cons_zero, List.getElem_cons_succ, List.setIfInBounds_toArray, List.set_cons_zero, List.set_cons_succ]
        refine wpAnyH_ready (rs := [9]) (by kernel_rfl) (by simp) (AllReadyH.cons rfl (fun K hK => ?_) AllReadyH.nil)
        rw [if_pos (by rfl)]
        have zT := bT.lt
        refine wp_store_mid 31 (.tmp 13) (.tmp 48) rfl W.heap.size 0 (mcC (y0 b n x) ⟨none, 0, none, 0, a3, c3⟩).toArray (by rfl) (by rfl) (box_there bT (by rw [zC]; exact (List.size_toArray.trans (zy _)).symm)) (by rw [List.size_toArray]; exact iy _) (all_oneCell_toArray (mc_one _ _)) ?_
        have hOs : Off W.heap.size wc (wc.setCells W.heap.size 0 (mcC (y0 b n x) ⟨none, 0, none, 0, a3, c3⟩)) := Off.cells _ _ _ _ (Off.refl _ _) (.inl rfl)
        have bT2 := box_cells (cs := mcC (y0 b n x) ⟨none, 0, none, 0, a3, c3⟩) bT (by rw [zy]; exact zC)
        have nT : w.heap.size ≠ W.heap.size := by omega
        have hF : RefS w w1.heap.size W.heap.size b n (cK b n x.k) x q (y0 b n x) ⟨none, 0, none, 0, a3, c3⟩ (wc.setCells W.heap.size 0 (mcC (y0 b n x) ⟨none, 0, none, 0, a3, c3⟩)) :=
          ⟨hB.trans (hOs.to (by omega) (by omega)), hOs.box bM nT, hOs.box bZ (by omega), hR.off hOs (by omega) (by omega) (by omega) (by omega), bT2, ⟨by omega, by omega⟩, row_offB hOs r3 (fun z hz => (o3 z hz).2.1), fun z hz => ⟨Nat.lt_of_lt_of_le (o3 z hz).1 hOs.size, (o3 z hz).2⟩⟩
        refine hK.out _ _ hF.bM (fun hHeld => ?_)
        try simp only [Act.put, List.getElem_toArray, List.getElem_cons_zero, List.getElem_cons_succ, List.setIfInBounds_toArray, List.set_cons_zero, List.set_cons_succ]
        refine wpAnyH_done (by kernel_rfl) ?_ _
        go_wp2
        go_meet
        exact ⟨W.heap.size, a3, c3, rfl, k3, hF⟩
    case rest =>
      obtain ⟨BT, a3, c3, rfl, k3, h0⟩ := hcut
      obtain ⟨qm, qcm, qs, qcs, qo, qco⟩ := q
      have hlen : (x.r.flatMap mvC).length = 56 := by rw [mv_len, h8]
      obtain ⟨L, hL⟩ : ∃ L, x.r.flatMap mvC = L := ⟨_, rfl⟩
      have HIX : Hid (∀ (w : World) (k : Nat) (v : MV), x.r[k]? = some v → (Instr.index 26 (.agg L.toArray) (.int .i64 (k : Int))).run Try.prog w = .ok (.agg #[.bool v.i, .int .i64 v.n, .int .i64 v.p, .int .i64 v.b, .int .i64 v.l, .int .i64 v.a, .int .i64 v.s]) w) := by rw [← hL]; exact fun w k v hv => regs_index w h8 hv
      have HI : Hid ((Try.prog.info? 26).map (·.size) = some L.length) := by show _ = _; rw [← hL, hlen]; kernel_rfl
      have HG : Hid (wc.rangeAt w.heap.size 0 L) := by
        show wc.rangeAt w.heap.size 0 L
        intro j u hj
        rw [← hL] at hj
        rw [Nat.zero_add, h0.bM.cell, List.getElem?_toArray]
        unfold mcC
        rw [List.getElem?_append_left (List.getElem?_eq_some_iff.1 hj).1]
        exact hj
      have hlt := h0.lt
      have HK : Hid (x.o.length ≤ c3 ∧ c3 ≤ maxLen) := k3
      clear bM bZ hR hB cKo cI iy zy hL hlen k3 zz zl n1 n2 n3 hsz
      go_upto_region 11 with (first | (refine wpList_load_mid rfl 26 (.tmp 49) rfl w.heap.size 0 (by rfl) L _ HG.out Try.underlying26 rfl HI.out ?_))
      go_loopw [51] (fun i wr => ∃ k : Nat, k ≤ 8 ∧ i = .int .i64 (k : Int) ∧ RefS w w1.heap.size BT b n (cK b n x.k + cVs b n (x.r.take k)) x ⟨qm, qcm, qs, qcs, qo, qco⟩ (rgN b n k x) ⟨none, 0, none, 0, a3, c3⟩ wr) (fun i _ => 8 - (intOf i).toNat)
      case atStart => exact ⟨0, Nat.zero_le _, rfl, by rw [rgN_zero]; exact h0⟩
      case round =>
        clear h0 HG
        obtain ⟨k, hk, rfl, h0⟩ := hrel
        have lr := cVs_le b n x.r
        have lk : cK b n x.k ≤ 1 := by unfold cK b1; split <;> omega
        by_cases hk8 : k < 8
        · have gk : (k : Int) < 8 := by omega
          obtain ⟨v, hv⟩ : ∃ v, x.r[k]? = some v := ⟨_, List.getElem?_eq_getElem (by omega)⟩
          have hx1 := fun w => HIX.out w k v hv
          have hok := HX.out.1.r v (List.mem_of_getElem? hv)
          obtain ⟨e1, e2⟩ := cVs_take (b := b) (n := n) hv
          have cS := fun W hR => rsw_val v b n (w.heap.size + 1) (w.heap.size + 1 + 1) w1.heap.size (w1.heap.size + 1) (cK b n x.k + cVs b n (x.r.take k)) W hok hR (by omega)
          have h8' : (rgN b n k x).r.length = 8 := rgN_r8 h8 hk
          have HV : Hid (x.r[k]? = some v ∧ cVs b n (x.r.take (k + 1)) = cVs b n (x.r.take k) + cV b n v) := ⟨hv, e1⟩
          have qv := fun C T => (h0.hR.cv.alloc (.cells C T)).cell
          have m1 : ¬ w1.heap.size + 1 = wr.heap.size := by have := h0.hR.cv.lt; omega
          have m2 : ¬ wr.heap.size = w1.heap.size + 1 := by omega
          clear hv e1 e2 lr lk hok
          go_wp2_with (first | (go_at_call 21; refine (cS _ (h0.below ((Below.refl _ _).alloc (Nat.le_refl _) _)).hR).mono ?_; rintro e w3 ⟨rfl, hOv, hRv⟩; have h1 := (h0.below ((Below.refl _ _).alloc (Nat.le_refl _) _)).call hOv hRv; clear hOv cS hRv h0 qv) | ((with_reducible refine at_store ?_); refine @pl_store_reg w3 BT (rgN b n k x) ⟨none, 0, none, 0, a3, c3⟩ k _ _ _ _ _ rfl (.tmp 60) (.tmp 58) rfl (swV b n v) (by rfl) (by rfl) h1.bT h8' hk8 ?_; intro w4 hOs bT2))
          have hFin : Hid (RefS w w1.heap.size BT b n (cK b n x.k + cVs b n (x.r.take (k + 1))) x ⟨qm, qcm, qs, qcs, qo, qco⟩ (rgN b n (k + 1) x) ⟨none, 0, none, 0, a3, c3⟩ w4) := by
            obtain ⟨p1, p2⟩ := HV.out
            have h2 := h1.put hOs bT2 rfl
            rw [rgN_put h8 p1] at h2
            rw [p2, ← Nat.add_assoc]
            exact h2
          clear h1 hOs bT2 hx1
          go_roundw
          case rel => exact ⟨k + 1, by omega, rfl, hFin.out⟩
          case measure => simp [intOf]; omega
        · obtain rfl : k = 8 := by omega
          rw [rgN_all h8, List.take_of_length_le (by omega)] at h0
          have h0' : RefS w w1.heap.size BT b n (cK b n x.k + cVs b n x.r) x ⟨qm, qcm, qs, qcs, qo, qco⟩ ⟨x.r.map (swV b n), swK b n x.k, [], [], x.o⟩ ⟨none, 0, none, 0, a3, c3⟩ wr := h0
          clear h0
          have hr8 : (x.r.map (swV b n)).length = 8 := by rw [List.length_map]; exact h8
          obtain ⟨-, -, -, -, -, lm, -, -⟩ := mc_tail h0'.bM h8
          dsimp only at lm
          go_upto_region 16 with fail
          clear lm
          obtain ⟨base, hbase⟩ : ∃ base, wr.heap.size = base := ⟨_, rfl⟩
          have hTb : BT < base := by rw [← hbase]; exact h0'.bT.lt
          have hpb : ∀ z ∈ a3, z.block < base := fun z hz => by rw [← hbase]; exact (h0'.ob z hz).1
          have HB : Hid (wr.heap.size = base) := hbase
          clear hbase HIX
          obtain ⟨i0, hi0, hz0, hz1, hz2⟩ := info_vals
          have lv := cVs_le b n x.m
          have lf := cFs_le b n x.s
          have hm4 := HX.out.1.lm
          have hs4 := HX.out.1.ls
          go_loopw [65] (fun i wz => ∃ k : Nat, k ≤ x.m.length ∧ i = .int .i64 (k : Int) ∧ base ≤ wz.heap.size ∧ ∃ (a : Option Addr) (cap : Nat), RefS w w1.heap.size BT b n (cK b n x.k + cVs b n x.r + cVs b n (x.m.take k)) x ⟨qm, qcm, qs, qcs, qo, qco⟩ ⟨x.r.map (swV b n), swK b n x.k, mT b n k x, [], x.o⟩ ⟨a, cap, none, 0, a3, c3⟩ wz ∧ wz.ownsRow base 25 7 (.slice a k cap) k ((mT b n k x).flatMap mvC)) (fun i _ => x.m.length - (intOf i).toNat)
          case atStart => exact ⟨0, Nat.zero_le _, rfl, Nat.le_of_eq HB.out.symm, none, 0, h0', World.ownsRow_nil _ _ _ _⟩
          case round =>
            clear h0'
            obtain ⟨k, hk, rfl, hbz, a, cap, h0, hown⟩ := hrel
            by_cases hlt2 : k < x.m.length
            · have gk : (k : Int) < (x.m.length : Int) := by omega
              obtain ⟨v, hv⟩ : ∃ v, x.m[k]? = some v := ⟨_, List.getElem?_eq_getElem hlt2⟩
              have hok := HX.out.1.m v (List.mem_of_getElem? hv)
              obtain ⟨e1, e2⟩ := cVs_take (b := b) (n := n) hv
              have cS := fun W hR => rsw_val v b n (w.heap.size + 1) (w.heap.size + 1 + 1) w1.heap.size (w1.heap.size + 1) (cK b n x.k + cVs b n x.r + cVs b n (x.m.take k)) W hok hR (by omega)
              obtain ⟨B1, o1, hq1, hl1, c0, c1, c2, c3', c4, c5, c6⟩ := (HA.out _ h0.hB).m.at hv
              have hq1' : qm = some ⟨B1, o1, none⟩ := hq1
              clear hq1
              subst hq1'
              have lenk : (mT b n k x).length = k := mT_len hk
              have HV : Hid (x.m[k]? = some v ∧ cVs b n (x.m.take (k + 1)) = cVs b n (x.m.take k) + cV b n v ∧ (mT b n k x).length = k) := ⟨hv, e1, lenk⟩
              clear hv e1 e2 lenk hok
              go_upto_region 18 with fail
              obtain ⟨W, hW⟩ : ∃ W, W = (wr.alloc (.cells #[.bool v.i, .int .i64 v.n, .int .i64 v.p, .int .i64 v.b, .int .i64 v.l, .int .i64 v.a, .int .i64 v.s] 25)).drew := ⟨_, rfl⟩
              have hP := (Box.new wr #[.bool v.i, .int .i64 v.n, .int .i64 v.p, .int .i64 v.b, .int .i64 v.l, .int .i64 v.a, .int .i64 v.s] 25).drew
              have hwb : Below wr.heap.size wr W := by rw [hW]; exact ((Below.refl _ _).alloc (Nat.le_refl _) _).drew
              rw [← hW] at hP
              replace h0 := h0.below hwb
              have HPn : Hid (some wr.heap.size ≠ (Value.slice a k cap).ownBlock) := fun e => by have := (hown.lt _ e.symm).2; omega
              replace hown := own_below hown hwb
              have hv0 := h0.hR.cv
              have hPT : wr.heap.size ≠ w1.heap.size ∧ BT < wr.heap.size := ⟨by omega, by omega⟩
              refine wp_region_held_drew (S := fun w' => Box w' (w1.heap.size + 1) #[.func (.func 21) #[] #[.pointer (some ⟨w.heap.size + 1, 0, none⟩), .pointer (some ⟨w.heap.size + 1 + 1, 0, none⟩), .pointer (some ⟨w1.heap.size, 0, none⟩)]] ∧ Box w' wr.heap.size #[.bool v.i, .int .i64 v.n, .int .i64 v.p, .int .i64 v.b, .int .i64 v.l, .int .i64 v.a, .int .i64 v.s]) (by kernel_rfl) (by rw [← hW]; exact ⟨hv0, hP⟩) (fun hHeld => ?_)
              rw [← hW] at hHeld ⊢
              have hWz := hwb.size
              clear hW hv0 hwb
              refine wpAnyH_take (i := 0) (v := .pointer (some ⟨BT, 61, none⟩)) rfl (by kernel_rfl) (by kernel_rfl) (by kernel_rfl) (fun _ _ _ h => h) (Or.inl ⟨by rfl, fun wz hSw => by go_simp⟩) (by assumption) ?_
              try simp only [Act.put, List.getElem_toArray, List.getElem_cons_zero, List.getElem_cons_succ, List.setIfInBounds_toArray, List.set_cons_zero, List.set_cons_succ]
              refine wpAnyH_take (i := 2) (v := .func (.func 21) #[] #[.pointer (some ⟨w.heap.size + 1, 0, none⟩), .pointer (some ⟨w.heap.size + 1 + 1, 0, none⟩), .pointer (some ⟨w1.heap.size, 0, none⟩)]) rfl (by kernel_rfl) (by kernel_rfl) (by kernel_rfl) (fun _ _ _ h => h) (Or.inl ⟨by rfl, fun wz hSw => by have qv := hSw.1.cell; go_simp⟩) (by assumption) ?_
              try simp only [Act.put, List.getElem_toArray, List.getElem_cons_zero, List.getElem_cons_succ, List.setIfInBounds_toArray, List.set_cons_zero, List.set_cons_succ]
              refine wpAnyH_take (i := 3) (v := .agg #[.bool v.i, .int .i64 v.n, .int .i64 v.p, .int .i64 v.b, .int .i64 v.l, .int .i64 v.a, .int .i64 v.s]) rfl (by kernel_rfl) (by kernel_rfl) (by kernel_rfl) (fun _ _ _ h => h) (Or.inl ⟨by rfl, fun wz hSw => by have qv := hSw.2.cell; go_simp⟩) (by assumption) ?_
              try simp only [Act.put, List.getElem_toArray, List.getElem_cons_zero, List.getElem_cons_succ, List.setIfInBounds_toArray, List.set_cons_zero, List.set_cons_succ]
              refine wpAnyH_ready (rs := [1, 4]) (by kernel_rfl) (by simp) (AllReadyH.cons rfl (fun K hK => ?_) (AllReadyH.cons rfl (fun K hK => ?_) AllReadyH.nil))
              · have lmT := (mc_tail h0.bT hr8).lm
                dsimp only at lmT
                rw [HV.out.2.2] at lmT
                go_simp
                clear lmT
                refine hK.out _ _ hHeld (fun hHeld => ?_)
                clear hK K
                try simp only [Act.put, List.getElem_toArray, List.getElem_cons_zero, List.getElem_cons_succ, List.setIfInBounds_toArray, List.set_cons_zero, List.set_cons_succ]
                refine wpAnyH_ready (rs := [4]) (by kernel_rfl) (by simp) (AllReadyH.cons rfl (fun K hK => ?_) AllReadyH.nil)
                go_simp
                go_at_call 21
                refine (cS _ h0.hR).mono ?_
                rintro e wk ⟨rfl, hOv, hRv⟩
                have h1 := h0.call hOv hRv
                clear h0
                have h0 := h1
                replace hown := own_off hown hOv (by omega)
                have hH2 : Box wk (w1.heap.size + 1) #[.func (.func 21) #[] #[.pointer (some ⟨w.heap.size + 1, 0, none⟩), .pointer (some ⟨w.heap.size + 1 + 1, 0, none⟩), .pointer (some ⟨w1.heap.size, 0, none⟩)]] ∧ Box wk wr.heap.size #[.bool v.i, .int .i64 v.n, .int .i64 v.p, .int .i64 v.b, .int .i64 v.l, .int .i64 v.a, .int .i64 v.s] := ⟨hOv.box hHeld.1 (by omega), hOv.box hHeld.2 (by omega)⟩
                have hbk := hOv.size
                clear h1 hOv hRv
                refine hK.out _ _ hH2 (fun hHeld => ?_)
                clear hK K hH2
                try simp only [Act.put, List.getElem_toArray, List.getElem_cons_zero, List.getElem_cons_succ, List.setIfInBounds_toArray, List.set_cons_zero, List.set_cons_succ]
                refine wpAnyH_ready (rs := [5]) (by kernel_rfl) (by simp) (AllReadyH.cons rfl (fun K hK => ?_) AllReadyH.nil)
                go_simp
                obtain ⟨wb, hwb, hbb, hbl, hbo⟩ : ∃ wb, wb = wk.alloc (.cells #[.bool (swV b n v).i, .int .i64 (swV b n v).n, .int .i64 (swV b n v).p, .int .i64 (swV b n v).b, .int .i64 (swV b n v).l, .int .i64 (swV b n v).a, .int .i64 (swV b n v).s] 25) ∧ Below wk.heap.size wk wb ∧ wb.heap[wk.heap.size]? = some (.cells #[.bool (swV b n v).i, .int .i64 (swV b n v).n, .int .i64 (swV b n v).p, .int .i64 (swV b n v).b, .int .i64 (swV b n v).l, .int .i64 (swV b n v).a, .int .i64 (swV b n v).s] 25 (0, 0)) ∧ wb.heap.size = wk.heap.size + 1 := ⟨_, rfl, (Below.refl _ _).alloc (Nat.le_refl _) _, heap_alloc_new _ _, by rw [World.size_alloc]⟩
                rw [← hwb]
                clear hwb
                replace h0 := h0.below hbb
                replace hown := own_below hown hbb
                have hH2 : Box wb (w1.heap.size + 1) #[.func (.func 21) #[] #[.pointer (some ⟨w.heap.size + 1, 0, none⟩), .pointer (some ⟨w.heap.size + 1 + 1, 0, none⟩), .pointer (some ⟨w1.heap.size, 0, none⟩)]] ∧ Box wb wr.heap.size #[.bool v.i, .int .i64 v.n, .int .i64 v.p, .int .i64 v.b, .int .i64 v.l, .int .i64 v.a, .int .i64 v.s] := ⟨hHeld.1.below hbb, hHeld.2.below hbb⟩
                clear hbb
                refine hK.out _ _ hH2 (fun hHeld => ?_)
                clear hK K hH2
                try simp only [Act.put, List.getElem_toArray, List.getElem_cons_zero, List.getElem_cons_succ, List.setIfInBounds_toArray, List.set_cons_zero, List.set_cons_succ]
                refine wpAnyH_ready (rs := [6]) (by kernel_rfl) (by simp) (AllReadyH.cons rfl (fun K hK => ?_) AllReadyH.nil)
                refine step_append_lies _ rfl _ _ _ rfl base 25 i0 _ 7 56 Try.underlying27 hi0 hz0 hz1 hz2 rfl (by omega) (.slice a k cap) k _ rfl hown ⟨wk.heap.size, 0, none⟩ 1 1 (mvC (swV b n v)) rfl rfl (World.news_of_block hbl) (val_one _) (by omega) (by unfold maxLen; omega) (by omega) (by omega) _ rfl ?_
                intro g2 cap2 wa hown2 hgrow hat hlt9
                have h1 := h0.grown (base := base) hgrow (fun j hj => (hown.lt j hj).1) hTb hpb
                have hPn := HPn.out
                have hH2 : Box wa (w1.heap.size + 1) #[.func (.func 21) #[] #[.pointer (some ⟨w.heap.size + 1, 0, none⟩), .pointer (some ⟨w.heap.size + 1 + 1, 0, none⟩), .pointer (some ⟨w1.heap.size, 0, none⟩)]] ∧ Box wa wr.heap.size #[.bool v.i, .int .i64 v.n, .int .i64 v.p, .int .i64 v.b, .int .i64 v.l, .int .i64 v.a, .int .i64 v.s] := ⟨box_grownS hHeld.1 hgrow (fun e => by have := (hown.lt _ e.symm).1; omega), box_grownS hHeld.2 hgrow hPn⟩
                have hba := hgrow.size
                clear h0 hown hgrow hat hbl hPn
                have h0 := h1
                have hown := hown2
                clear h1 hown2
                refine hK.out _ _ hH2 (fun hHeld => ?_)
                clear hK K hH2
                try simp only [Act.put, List.getElem_toArray, List.getElem_cons_zero, List.getElem_cons_succ, List.setIfInBounds_toArray, List.set_cons_zero, List.set_cons_succ]
                refine wpAnyH_take (i := 7) (v := .pointer (some ⟨BT, 61, none⟩)) rfl (by kernel_rfl) (by kernel_rfl) (by kernel_rfl) (fun _ _ _ h => h) (Or.inl ⟨by rfl, fun wz hSw => by go_simp⟩) (by assumption) ?_
                try simp only [Act.put, List.getElem_toArray, List.getElem_cons_zero, List.getElem_cons_succ, List.setIfInBounds_toArray, List.set_cons_zero, List.set_cons_succ]
                refine wpAnyH_ready (rs := [8]) (by kernel_rfl) (by simp) (AllReadyH.cons rfl (fun K hK => ?_) AllReadyH.nil)
                have lmT := (mc_tail h0.bT hr8).lm
                dsimp only at lmT
                rw [HV.out.2.2] at lmT
                have fT := h0.bT.free
                go_simp
                have bT2 := box_setM h0.bT hr8 (mT b n (k + 1) x) (some ⟨g2, 0, none⟩) cap2
                have lenk2 : (mT b n (k + 1) x).length = k + 1 := mT_len hlt2
                rw [lenk2] at bT2
                have h9 := h0.put ((Off.refl BT _).set 61 (.slice (some ⟨g2, 0, none⟩) (k + 1) cap2)) bT2 rfl
                have hown9 := ownsRow_setCell_below hown (a := ⟨BT, 61, none⟩) hTb (.slice (some ⟨g2, 0, none⟩) (k + 1) cap2)
                have hS9 : Box _ (w1.heap.size + 1) #[.func (.func 21) #[] #[.pointer (some ⟨w.heap.size + 1, 0, none⟩), .pointer (some ⟨w.heap.size + 1 + 1, 0, none⟩), .pointer (some ⟨w1.heap.size, 0, none⟩)]] ∧ Box _ wr.heap.size #[.bool v.i, .int .i64 v.n, .int .i64 v.p, .int .i64 v.b, .int .i64 v.l, .int .i64 v.a, .int .i64 v.s] := ⟨hHeld.1.aside' (p := ⟨BT, 61, none⟩) (by show BT ≠ _; omega) (.slice (some ⟨g2, 0, none⟩) (k + 1) cap2), hHeld.2.aside' (p := ⟨BT, 61, none⟩) (by show BT ≠ _; omega) (.slice (some ⟨g2, 0, none⟩) (k + 1) cap2)⟩
                have hb9 : base ≤ (wa.setCell ⟨BT, 61, none⟩ (.slice (some ⟨g2, 0, none⟩) (k + 1) cap2)).heap.size := by simp [World.setCell]; omega
                have hFin : Hid (_ ∧ _ ∧ _) := ⟨hb9, h9, hown9⟩
                refine hK.out _ _ hS9 (fun hHeld => ?_)
                clear hK K h0 hown h9 hown9 hS9 hb9 bT2 lmT fT hP
                try simp only [Act.put, List.getElem_toArray, List.getElem_cons_zero, List.getElem_cons_succ, List.setIfInBounds_toArray, List.set_cons_zero, List.set_cons_succ]
                refine wpAnyH_done (by kernel_rfl) ?_ _
                go_wp2
                go_roundw
                case rel =>
                  obtain ⟨r1, r2, r3⟩ := hFin.out
                  obtain ⟨p1, p2, p3⟩ := HV.out
                  refine ⟨k + 1, by omega, rfl, by first | exact r1 | simpa [World.setCell] using r1, some ⟨g2, 0, none⟩, cap2, ?_, ?_⟩
                  · rw [p2, ← Nat.add_assoc]; exact r2
                  · rw [mT_snoc p1, List.flatMap_append, List.flatMap_singleton]; exact r3
                case measure => simp [intOf]; omega
              · go_simp
                go_at_call 21
                refine (cS _ h0.hR).mono ?_
                rintro e wk ⟨rfl, hOv, hRv⟩
                have h1 := h0.call hOv hRv
                clear h0
                have h0 := h1
                replace hown := own_off hown hOv (by omega)
                have hH2 : Box wk (w1.heap.size + 1) #[.func (.func 21) #[] #[.pointer (some ⟨w.heap.size + 1, 0, none⟩), .pointer (some ⟨w.heap.size + 1 + 1, 0, none⟩), .pointer (some ⟨w1.heap.size, 0, none⟩)]] ∧ Box wk wr.heap.size #[.bool v.i, .int .i64 v.n, .int .i64 v.p, .int .i64 v.b, .int .i64 v.l, .int .i64 v.a, .int .i64 v.s] := ⟨hOv.box hHeld.1 (by omega), hOv.box hHeld.2 (by omega)⟩
                have hbk := hOv.size
                clear h1 hOv hRv
                refine hK.out _ _ hH2 (fun hHeld => ?_)
                clear hK K hH2
                try simp only [Act.put, List.getElem_toArray, List.getElem_cons_zero, List.getElem_cons_succ, List.setIfInBounds_toArray, List.set_cons_zero, List.set_cons_succ]
                refine wpAnyH_ready (rs := [1, 5]) (by kernel_rfl) (by simp) (AllReadyH.cons rfl (fun K hK => ?_) (AllReadyH.cons rfl (fun K hK => ?_) AllReadyH.nil))
                · have lmT := (mc_tail h0.bT hr8).lm
                  dsimp only at lmT
                  rw [HV.out.2.2] at lmT
                  go_simp
                  clear lmT
                  refine hK.out _ _ hHeld (fun hHeld => ?_)
                  clear hK K
                  try simp only [Act.put, List.getElem_toArray, List.getElem_cons_zero, List.getElem_cons_succ, List.setIfInBounds_toArray, List.set_cons_zero, List.set_cons_succ]
                  refine wpAnyH_ready (rs := [5]) (by kernel_rfl) (by simp) (AllReadyH.cons rfl (fun K hK => ?_) AllReadyH.nil)
                  go_simp
                  obtain ⟨wb, hwb, hbb, hbl, hbo⟩ : ∃ wb, wb = wk.alloc (.cells #[.bool (swV b n v).i, .int .i64 (swV b n v).n, .int .i64 (swV b n v).p, .int .i64 (swV b n v).b, .int .i64 (swV b n v).l, .int .i64 (swV b n v).a, .int .i64 (swV b n v).s] 25) ∧ Below wk.heap.size wk wb ∧ wb.heap[wk.heap.size]? = some (.cells #[.bool (swV b n v).i, .int .i64 (swV b n v).n, .int .i64 (swV b n v).p, .int .i64 (swV b n v).b, .int .i64 (swV b n v).l, .int .i64 (swV b n v).a, .int .i64 (swV b n v).s] 25 (0, 0)) ∧ wb.heap.size = wk.heap.size + 1 := ⟨_, rfl, (Below.refl _ _).alloc (Nat.le_refl _) _, heap_alloc_new _ _, by rw [World.size_alloc]⟩
                  rw [← hwb]
                  clear hwb
                  replace h0 := h0.below hbb
                  replace hown := own_below hown hbb
                  have hH2 : Box wb (w1.heap.size + 1) #[.func (.func 21) #[] #[.pointer (some ⟨w.heap.size + 1, 0, none⟩), .pointer (some ⟨w.heap.size + 1 + 1, 0, none⟩), .pointer (some ⟨w1.heap.size, 0, none⟩)]] ∧ Box wb wr.heap.size #[.bool v.i, .int .i64 v.n, .int .i64 v.p, .int .i64 v.b, .int .i64 v.l, .int .i64 v.a, .int .i64 v.s] := ⟨hHeld.1.below hbb, hHeld.2.below hbb⟩
                  clear hbb
                  refine hK.out _ _ hH2 (fun hHeld => ?_)
                  clear hK K hH2
                  try simp only [Act.put, List.getElem_toArray, List.getElem_cons_zero, List.getElem_cons_succ, List.setIfInBounds_toArray, List.set_cons_zero, List.set_cons_succ]
                  refine wpAnyH_ready (rs := [6]) (by kernel_rfl) (by simp) (AllReadyH.cons rfl (fun K hK => ?_) AllReadyH.nil)
                  refine step_append_lies _ rfl _ _ _ rfl base 25 i0 _ 7 56 Try.underlying27 hi0 hz0 hz1 hz2 rfl (by omega) (.slice a k cap) k _ rfl hown ⟨wk.heap.size, 0, none⟩ 1 1 (mvC (swV b n v)) rfl rfl (World.news_of_block hbl) (val_one _) (by omega) (by unfold maxLen; omega) (by omega) (by omega) _ rfl ?_
                  intro g2 cap2 wa hown2 hgrow hat hlt9
                  have h1 := h0.grown (base := base) hgrow (fun j hj => (hown.lt j hj).1) hTb hpb
                  have hPn := HPn.out
                  have hH2 : Box wa (w1.heap.size + 1) #[.func (.func 21) #[] #[.pointer (some ⟨w.heap.size + 1, 0, none⟩), .pointer (some ⟨w.heap.size + 1 + 1, 0, none⟩), .pointer (some ⟨w1.heap.size, 0, none⟩)]] ∧ Box wa wr.heap.size #[.bool v.i, .int .i64 v.n, .int .i64 v.p, .int .i64 v.b, .int .i64 v.l, .int .i64 v.a, .int .i64 v.s] := ⟨box_grownS hHeld.1 hgrow (fun e => by have := (hown.lt _ e.symm).1; omega), box_grownS hHeld.2 hgrow hPn⟩
                  have hba := hgrow.size
                  clear h0 hown hgrow hat hbl hPn
                  have h0 := h1
                  have hown := hown2
                  clear h1 hown2
                  refine hK.out _ _ hH2 (fun hHeld => ?_)
                  clear hK K hH2
                  try simp only [Act.put, List.getElem_toArray, List.getElem_cons_zero, List.getElem_cons_succ, List.setIfInBounds_toArray, List.set_cons_zero, List.set_cons_succ]
                  refine wpAnyH_take (i := 7) (v := .pointer (some ⟨BT, 61, none⟩)) rfl (by kernel_rfl) (by kernel_rfl) (by kernel_rfl) (fun _ _ _ h => h) (Or.inl ⟨by rfl, fun wz hSw => by go_simp⟩) (by assumption) ?_
                  try simp only [Act.put, List.getElem_toArray, List.getElem_cons_zero, List.getElem_cons_succ, List.setIfInBounds_toArray, List.set_cons_zero, List.set_cons_succ]
                  refine wpAnyH_ready (rs := [8]) (by kernel_rfl) (by simp) (AllReadyH.cons rfl (fun K hK => ?_) AllReadyH.nil)
                  have lmT := (mc_tail h0.bT hr8).lm
                  dsimp only at lmT
                  rw [HV.out.2.2] at lmT
                  have fT := h0.bT.free
                  go_simp
                  have bT2 := box_setM h0.bT hr8 (mT b n (k + 1) x) (some ⟨g2, 0, none⟩) cap2
                  have lenk2 : (mT b n (k + 1) x).length = k + 1 := mT_len hlt2
                  rw [lenk2] at bT2
                  have h9 := h0.put ((Off.refl BT _).set 61 (.slice (some ⟨g2, 0, none⟩) (k + 1) cap2)) bT2 rfl
                  have hown9 := ownsRow_setCell_below hown (a := ⟨BT, 61, none⟩) hTb (.slice (some ⟨g2, 0, none⟩) (k + 1) cap2)
                  have hS9 : Box _ (w1.heap.size + 1) #[.func (.func 21) #[] #[.pointer (some ⟨w.heap.size + 1, 0, none⟩), .pointer (some ⟨w.heap.size + 1 + 1, 0, none⟩), .pointer (some ⟨w1.heap.size, 0, none⟩)]] ∧ Box _ wr.heap.size #[.bool v.i, .int .i64 v.n, .int .i64 v.p, .int .i64 v.b, .int .i64 v.l, .int .i64 v.a, .int .i64 v.s] := ⟨hHeld.1.aside' (p := ⟨BT, 61, none⟩) (by show BT ≠ _; omega) (.slice (some ⟨g2, 0, none⟩) (k + 1) cap2), hHeld.2.aside' (p := ⟨BT, 61, none⟩) (by show BT ≠ _; omega) (.slice (some ⟨g2, 0, none⟩) (k + 1) cap2)⟩
                  have hb9 : base ≤ (wa.setCell ⟨BT, 61, none⟩ (.slice (some ⟨g2, 0, none⟩) (k + 1) cap2)).heap.size := by simp [World.setCell]; omega
                  have hFin : Hid (_ ∧ _ ∧ _) := ⟨hb9, h9, hown9⟩
                  refine hK.out _ _ hS9 (fun hHeld => ?_)
                  clear hK K h0 hown h9 hown9 hS9 hb9 bT2 lmT fT hP
                  try simp only [Act.put, List.getElem_toArray, List.getElem_cons_zero, List.getElem_cons_succ, List.setIfInBounds_toArray, List.set_cons_zero, List.set_cons_succ]
                  refine wpAnyH_done (by kernel_rfl) ?_ _
                  go_wp2
                  go_roundw
                  case rel =>
                    obtain ⟨r1, r2, r3⟩ := hFin.out
                    obtain ⟨p1, p2, p3⟩ := HV.out
                    refine ⟨k + 1, by omega, rfl, by first | exact r1 | simpa [World.setCell] using r1, some ⟨g2, 0, none⟩, cap2, ?_, ?_⟩
                    · rw [p2, ← Nat.add_assoc]; exact r2
                    · rw [mT_snoc p1, List.flatMap_append, List.flatMap_singleton]; exact r3
                  case measure => simp [intOf]; omega
                · go_simp
                  obtain ⟨wb, hwb, hbb, hbl, hbo⟩ : ∃ wb, wb = wk.alloc (.cells #[.bool (swV b n v).i, .int .i64 (swV b n v).n, .int .i64 (swV b n v).p, .int .i64 (swV b n v).b, .int .i64 (swV b n v).l, .int .i64 (swV b n v).a, .int .i64 (swV b n v).s] 25) ∧ Below wk.heap.size wk wb ∧ wb.heap[wk.heap.size]? = some (.cells #[.bool (swV b n v).i, .int .i64 (swV b n v).n, .int .i64 (swV b n v).p, .int .i64 (swV b n v).b, .int .i64 (swV b n v).l, .int .i64 (swV b n v).a, .int .i64 (swV b n v).s] 25 (0, 0)) ∧ wb.heap.size = wk.heap.size + 1 := ⟨_, rfl, (Below.refl _ _).alloc (Nat.le_refl _) _, heap_alloc_new _ _, by rw [World.size_alloc]⟩
                  rw [← hwb]
                  clear hwb
                  replace h0 := h0.below hbb
                  replace hown := own_below hown hbb
                  have hH2 : Box wb (w1.heap.size + 1) #[.func (.func 21) #[] #[.pointer (some ⟨w.heap.size + 1, 0, none⟩), .pointer (some ⟨w.heap.size + 1 + 1, 0, none⟩), .pointer (some ⟨w1.heap.size, 0, none⟩)]] ∧ Box wb wr.heap.size #[.bool v.i, .int .i64 v.n, .int .i64 v.p, .int .i64 v.b, .int .i64 v.l, .int .i64 v.a, .int .i64 v.s] := ⟨hHeld.1.below hbb, hHeld.2.below hbb⟩
                  clear hbb
                  refine hK.out _ _ hH2 (fun hHeld => ?_)
                  clear hK K hH2
                  try simp only [Act.put, List.getElem_toArray, List.getElem_cons_zero, List.getElem_cons_succ, List.setIfInBounds_toArray, List.set_cons_zero, List.set_cons_succ]
                  refine wpAnyH_ready (rs := [1]) (by kernel_rfl) (by simp) (AllReadyH.cons rfl (fun K hK => ?_) AllReadyH.nil)
                  have lmT := (mc_tail h0.bT hr8).lm
                  dsimp only at lmT
                  rw [HV.out.2.2] at lmT
                  go_simp
                  clear lmT
                  refine hK.out _ _ hHeld (fun hHeld => ?_)
                  clear hK K
                  try simp only [Act.put, List.getElem_toArray, List.getElem_cons_zero, List.getElem_cons_succ, List.setIfInBounds_toArray, List.set_cons_zero, List.set_cons_succ]
                  refine wpAnyH_ready (rs := [6]) (by kernel_rfl) (by simp) (AllReadyH.cons rfl (fun K hK => ?_) AllReadyH.nil)
                  refine step_append_lies _ rfl _ _ _ rfl base 25 i0 _ 7 56 Try.underlying27 hi0 hz0 hz1 hz2 rfl (by omega) (.slice a k cap) k _ rfl hown ⟨wk.heap.size, 0, none⟩ 1 1 (mvC (swV b n v)) rfl rfl (World.news_of_block hbl) (val_one _) (by omega) (by unfold maxLen; omega) (by omega) (by omega) _ rfl ?_
                  intro g2 cap2 wa hown2 hgrow hat hlt9
                  have h1 := h0.grown (base := base) hgrow (fun j hj => (hown.lt j hj).1) hTb hpb
                  have hPn := HPn.out
                  have hH2 : Box wa (w1.heap.size + 1) #[.func (.func 21) #[] #[.pointer (some ⟨w.heap.size + 1, 0, none⟩), .pointer (some ⟨w.heap.size + 1 + 1, 0, none⟩), .pointer (some ⟨w1.heap.size, 0, none⟩)]] ∧ Box wa wr.heap.size #[.bool v.i, .int .i64 v.n, .int .i64 v.p, .int .i64 v.b, .int .i64 v.l, .int .i64 v.a, .int .i64 v.s] := ⟨box_grownS hHeld.1 hgrow (fun e => by have := (hown.lt _ e.symm).1; omega), box_grownS hHeld.2 hgrow hPn⟩
                  have hba := hgrow.size
                  clear h0 hown hgrow hat hbl hPn
                  have h0 := h1
                  have hown := hown2
                  clear h1 hown2
                  refine hK.out _ _ hH2 (fun hHeld => ?_)
                  clear hK K hH2
                  try simp only [Act.put, List.getElem_toArray, List.getElem_cons_zero, List.getElem_cons_succ, List.setIfInBounds_toArray, List.set_cons_zero, List.set_cons_succ]
                  refine wpAnyH_take (i := 7) (v := .pointer (some ⟨BT, 61, none⟩)) rfl (by kernel_rfl) (by kernel_rfl) (by kernel_rfl) (fun _ _ _ h => h) (Or.inl ⟨by rfl, fun wz hSw => by go_simp⟩) (by assumption) ?_
                  try simp only [Act.put, List.getElem_toArray, List.getElem_cons_zero, List.getElem_cons_succ, List.setIfInBounds_toArray, List.set_cons_zero, List.set_cons_succ]
                  refine wpAnyH_ready (rs := [8]) (by kernel_rfl) (by simp) (AllReadyH.cons rfl (fun K hK => ?_) AllReadyH.nil)
                  have lmT := (mc_tail h0.bT hr8).lm
                  dsimp only at lmT
                  rw [HV.out.2.2] at lmT
                  have fT := h0.bT.free
                  go_simp
                  have bT2 := box_setM h0.bT hr8 (mT b n (k + 1) x) (some ⟨g2, 0, none⟩) cap2
                  have lenk2 : (mT b n (k + 1) x).length = k + 1 := mT_len hlt2
                  rw [lenk2] at bT2
                  have h9 := h0.put ((Off.refl BT _).set 61 (.slice (some ⟨g2, 0, none⟩) (k + 1) cap2)) bT2 rfl
                  have hown9 := ownsRow_setCell_below hown (a := ⟨BT, 61, none⟩) hTb (.slice (some ⟨g2, 0, none⟩) (k + 1) cap2)
                  have hS9 : Box _ (w1.heap.size + 1) #[.func (.func 21) #[] #[.pointer (some ⟨w.heap.size + 1, 0, none⟩), .pointer (some ⟨w.heap.size + 1 + 1, 0, none⟩), .pointer (some ⟨w1.heap.size, 0, none⟩)]] ∧ Box _ wr.heap.size #[.bool v.i, .int .i64 v.n, .int .i64 v.p, .int .i64 v.b, .int .i64 v.l, .int .i64 v.a, .int .i64 v.s] := ⟨hHeld.1.aside' (p := ⟨BT, 61, none⟩) (by show BT ≠ _; omega) (.slice (some ⟨g2, 0, none⟩) (k + 1) cap2), hHeld.2.aside' (p := ⟨BT, 61, none⟩) (by show BT ≠ _; omega) (.slice (some ⟨g2, 0, none⟩) (k + 1) cap2)⟩
                  have hb9 : base ≤ (wa.setCell ⟨BT, 61, none⟩ (.slice (some ⟨g2, 0, none⟩) (k + 1) cap2)).heap.size := by simp [World.setCell]; omega
                  have hFin : Hid (_ ∧ _ ∧ _) := ⟨hb9, h9, hown9⟩
                  refine hK.out _ _ hS9 (fun hHeld => ?_)
                  clear hK K h0 hown h9 hown9 hS9 hb9 bT2 lmT fT hP
                  try simp only [Act.put, List.getElem_toArray, List.getElem_cons_zero, List.getElem_cons_succ, List.setIfInBounds_toArray, List.set_cons_zero, List.set_cons_succ]
                  refine wpAnyH_done (by kernel_rfl) ?_ _
                  go_wp2
                  go_roundw
                  case rel =>
                    obtain ⟨r1, r2, r3⟩ := hFin.out
                    obtain ⟨p1, p2, p3⟩ := HV.out
                    refine ⟨k + 1, by omega, rfl, by first | exact r1 | simpa [World.setCell] using r1, some ⟨g2, 0, none⟩, cap2, ?_, ?_⟩
                    · rw [p2, ← Nat.add_assoc]; exact r2
                    · rw [mT_snoc p1, List.flatMap_append, List.flatMap_singleton]; exact r3
                  case measure => simp [intOf]; omega
            · obtain rfl : k = x.m.length := by omega
              rw [List.take_length, mT_all] at h0
              rw [mT_all] at hown
              obtain ⟨a', c', hv', hcap, hrow, hfar⟩ := own_row2 hown
              cases hv'
              have hM : RowF wr w1.heap.size BT a ((x.m.map (swV b n)).flatMap mvC) := ⟨hrow, fun z hz => ⟨(hfar z hz).2, by have := (hfar z hz).1; omega, by have := (hfar z hz).1; omega⟩⟩
              have HC : Hid (x.m.length ≤ cap ∧ cap ≤ maxLen) := hcap
              clear hrow hcap hown
              have gk : ¬ (x.m.length : Int) < (x.m.length : Int) := by omega
              obtain ⟨-, -, -, -, -, -, ls, -⟩ := mc_tail h0.bM h8
              dsimp only at ls
              go_upto_region 21 with fail
              clear ls
              obtain ⟨base2, hbase2⟩ : ∃ base2, wr.heap.size = base2 := ⟨_, rfl⟩
              have hTb2 : BT < base2 := by rw [← hbase2]; exact h0.bT.lt
              have hpb2 : ∀ z ∈ a3, z.block < base2 := fun z hz => by rw [← hbase2]; exact (h0.ob z hz).1
              have hmb : ∀ z ∈ a, z.block < base2 := fun z hz => by rw [← hbase2]; exact (hM.b z hz).1
              have HB2 : Hid (wr.heap.size = base2) := hbase2
              clear hbase2 hfar
              obtain ⟨i1, hj0, hy0, hy1, hy2⟩ := info_frames
              go_loopw [81] (fun i wz => ∃ k : Nat, k ≤ x.s.length ∧ i = .int .i64 (k : Int) ∧ base2 ≤ wz.heap.size ∧ ∃ (d : Option Addr) (dc : Nat), RefS w w1.heap.size BT b n (cK b n x.k + cVs b n x.r + cVs b n x.m + cFs b n (x.s.take k)) x ⟨qm, qcm, qs, qcs, qo, qco⟩ ⟨x.r.map (swV b n), swK b n x.k, x.m.map (swV b n), sT b n k x, x.o⟩ ⟨a, cap, d, dc, a3, c3⟩ wz ∧ wz.ownsRow base2 45 12 (.slice d k dc) k ((sT b n k x).flatMap frC) ∧ RowF wz w1.heap.size BT a ((x.m.map (swV b n)).flatMap mvC)) (fun i _ => x.s.length - (intOf i).toNat)
              case atStart => exact ⟨0, Nat.zero_le _, rfl, Nat.le_of_eq HB2.out.symm, none, 0, h0, World.ownsRow_nil _ _ _ _, hM⟩
              case round =>
                clear h0 hM
                obtain ⟨k, hk, rfl, hbz, d, dc, h0, hown, hM⟩ := hrel
                by_cases hlt2 : k < x.s.length
                · have gk : (k : Int) < (x.s.length : Int) := by omega
                  obtain ⟨f, hv⟩ : ∃ f, x.s[k]? = some f := ⟨_, List.getElem?_eq_getElem hlt2⟩
                  have hok := HX.out.1.s f (List.mem_of_getElem? hv)
                  obtain ⟨e1, e2⟩ := cFs_take (b := b) (n := n) hv
                  have e3 : cF b n f = cK b n f.c + cV b n f.d := rfl
                  have lk : cK b n x.k ≤ 1 := by unfold cK b1; split <;> omega
                  have lr := cVs_le b n x.r
                  have cSk := fun W hR => rsw_code f.c b n (w.heap.size + 1) (w.heap.size + 1 + 1) w1.heap.size (w1.heap.size + 1) (cK b n x.k + cVs b n x.r + cVs b n x.m + cFs b n (x.s.take k)) W hok.1 hR (by omega)
                  have cS := fun W hR => rsw_val f.d b n (w.heap.size + 1) (w.heap.size + 1 + 1) w1.heap.size (w1.heap.size + 1) (cK b n x.k + cVs b n x.r + cVs b n x.m + cFs b n (x.s.take k) + cK b n f.c) W hok.2 hR (by omega)
                  obtain ⟨B2, o2, hq1, hl1, c0, c1, c2, c3', c4, c5, c6, c7, c8, c9, c10, c11⟩ := (HA.out _ h0.hB).s.at hv
                  have hq1' : qs = some ⟨B2, o2, none⟩ := hq1
                  clear hq1
                  subst hq1'
                  have lenk : (sT b n k x).length = k := sT_len hk
                  have HV : Hid (x.s[k]? = some f ∧ cFs b n (x.s.take (k + 1)) = cFs b n (x.s.take k) + cF b n f ∧ (sT b n k x).length = k) := ⟨hv, e1, lenk⟩
                  clear hv e1 e2 e3 lenk hok lk lr
                  go_upto_region 23 with fail
                  obtain ⟨W, hW⟩ : ∃ W, W = (wr.alloc (.cells #[.int .i64 f.c.p, .int .i64 f.c.b, .int .i64 f.c.l, .int .i64 f.c.a, .int .i64 f.c.s, .bool f.d.i, .int .i64 f.d.n, .int .i64 f.d.p, .int .i64 f.d.b, .int .i64 f.d.l, .int .i64 f.d.a, .int .i64 f.d.s] 45)).drew := ⟨_, rfl⟩
                  have hP := (Box.new wr #[.int .i64 f.c.p, .int .i64 f.c.b, .int .i64 f.c.l, .int .i64 f.c.a, .int .i64 f.c.s, .bool f.d.i, .int .i64 f.d.n, .int .i64 f.d.p, .int .i64 f.d.b, .int .i64 f.d.l, .int .i64 f.d.a, .int .i64 f.d.s] 45).drew
                  have hwb : Below wr.heap.size wr W := by rw [hW]; exact ((Below.refl _ _).alloc (Nat.le_refl _) _).drew
                  rw [← hW] at hP
                  replace h0 := h0.below hwb
                  have HPn : Hid (some wr.heap.size ≠ (Value.slice d k dc).ownBlock) := fun e => by have := (hown.lt _ e.symm).2; omega
                  replace hown := own_below hown hwb
                  replace hM := hM.below hwb
                  have hv0 := h0.hR.cv
                  have hPT : wr.heap.size ≠ w1.heap.size ∧ BT < wr.heap.size := ⟨by omega, by omega⟩
                  refine wp_region_held_drew (S := fun w' => Box w' (w1.heap.size + 1) #[.func (.func 21) #[] #[.pointer (some ⟨w.heap.size + 1, 0, none⟩), .pointer (some ⟨w.heap.size + 1 + 1, 0, none⟩), .pointer (some ⟨w1.heap.size, 0, none⟩)]] ∧ Box w' wr.heap.size #[.int .i64 f.c.p, .int .i64 f.c.b, .int .i64 f.c.l, .int .i64 f.c.a, .int .i64 f.c.s, .bool f.d.i, .int .i64 f.d.n, .int .i64 f.d.p, .int .i64 f.d.b, .int .i64 f.d.l, .int .i64 f.d.a, .int .i64 f.d.s]) (by kernel_rfl) (by rw [← hW]; exact ⟨hv0, hP⟩) (fun hHeld => ?_)
                  rw [← hW] at hHeld ⊢
                  have hWz := hwb.size
                  clear hW hv0 hwb
                  refine wpAnyH_take (i := 0) (v := .pointer (some ⟨BT, 62, none⟩)) rfl (by kernel_rfl) (by kernel_rfl) (by kernel_rfl) (fun _ _ _ h => h) (Or.inl ⟨by rfl, fun wz hSw => by go_simp⟩) (by assumption) ?_
                  try simp only [Act.put, List.getElem_toArray, List.getElem_cons_zero, List.getElem_cons_succ, List.setIfInBounds_toArray, List.set_cons_zero, List.set_cons_succ]
                  refine wpAnyH_take (i := 2) (v := .func (.func 23) #[] #[.pointer (some ⟨w1.heap.size + 1, 0, none⟩)]) rfl (by kernel_rfl) (by kernel_rfl) (by kernel_rfl) (fun _ _ _ h => h) (Or.inl ⟨by rfl, fun wz hSw => by go_simp⟩) (by assumption) ?_
                  try simp only [Act.put, List.getElem_toArray, List.getElem_cons_zero, List.getElem_cons_succ, List.setIfInBounds_toArray, List.set_cons_zero, List.set_cons_succ]
                  refine wpAnyH_take (i := 3) (v := .pointer (some ⟨wr.heap.size, 0, none⟩)) rfl (by kernel_rfl) (by kernel_rfl) (by kernel_rfl) (fun _ _ _ h => h) (Or.inl ⟨by rfl, fun wz hSw => by go_simp⟩) (by assumption) ?_
                  try simp only [Act.put, List.getElem_toArray, List.getElem_cons_zero, List.getElem_cons_succ, List.setIfInBounds_toArray, List.set_cons_zero, List.set_cons_succ]
                  refine wpAnyH_take (i := 4) (v := .agg #[.int .i64 f.c.p, .int .i64 f.c.b, .int .i64 f.c.l, .int .i64 f.c.a, .int .i64 f.c.s]) rfl (by kernel_rfl) (by kernel_rfl) (by kernel_rfl) (fun _ _ _ h => h) (Or.inl ⟨by rfl, fun wz hSw => by have qv := hSw.2.cell; go_simp⟩) (by assumption) ?_
                  try simp only [Act.put, List.getElem_toArray, List.getElem_cons_zero, List.getElem_cons_succ, List.setIfInBounds_toArray, List.set_cons_zero, List.set_cons_succ]
                  refine wpAnyH_take (i := 6) (v := .func (.func 21) #[] #[.pointer (some ⟨w.heap.size + 1, 0, none⟩), .pointer (some ⟨w.heap.size + 1 + 1, 0, none⟩), .pointer (some ⟨w1.heap.size, 0, none⟩)]) rfl (by kernel_rfl) (by kernel_rfl) (by kernel_rfl) (fun _ _ _ h => h) (Or.inl ⟨by rfl, fun wz hSw => by have qv := hSw.1.cell; go_simp⟩) (by assumption) ?_
                  try simp only [Act.put, List.getElem_toArray, List.getElem_cons_zero, List.getElem_cons_succ, List.setIfInBounds_toArray, List.set_cons_zero, List.set_cons_succ]
                  refine wpAnyH_take (i := 7) (v := .pointer (some ⟨wr.heap.size, 5, none⟩)) rfl (by kernel_rfl) (by kernel_rfl) (by kernel_rfl) (fun _ _ _ h => h) (Or.inl ⟨by rfl, fun wz hSw => by go_simp⟩) (by assumption) ?_
                  try simp only [Act.put, List.getElem_toArray, List.getElem_cons_zero, List.getElem_cons_succ, List.setIfInBounds_toArray, List.set_cons_zero, List.set_cons_succ]
                  refine wpAnyH_take (i := 8) (v := .agg #[.bool f.d.i, .int .i64 f.d.n, .int .i64 f.d.p, .int .i64 f.d.b, .int .i64 f.d.l, .int .i64 f.d.a, .int .i64 f.d.s]) rfl (by kernel_rfl) (by kernel_rfl) (by kernel_rfl) (fun _ _ _ h => h) (Or.inl ⟨by rfl, fun wz hSw => by have qv := hSw.2.cell; go_simp⟩) (by assumption) ?_
                  try simp only [Act.put, List.getElem_toArray, List.getElem_cons_zero, List.getElem_cons_succ, List.setIfInBounds_toArray, List.set_cons_zero, List.set_cons_succ]
                  refine wpAnyH_ready (rs := [1, 5]) (by kernel_rfl) (by simp) (AllReadyH.cons rfl (fun K hK => ?_) (AllReadyH.cons rfl (fun K hK => ?_) AllReadyH.nil))
                  · have lmT := (mc_tail h0.bT hr8).ls
                    dsimp only at lmT
                    rw [HV.out.2.2] at lmT
                    go_simp
                    clear lmT
                    refine hK.out _ _ hHeld (fun hHeld => ?_)
                    clear hK K
                    try simp only [Act.put, List.getElem_toArray, List.getElem_cons_zero, List.getElem_cons_succ, List.setIfInBounds_toArray, List.set_cons_zero, List.set_cons_succ]
                    refine wpAnyH_ready (rs := [5]) (by kernel_rfl) (by simp) (AllReadyH.cons rfl (fun K hK => ?_) AllReadyH.nil)
                    go_simp
                    go_at_call 23
                    refine (cSk _ h0.hR).mono ?_
                    rintro e wk5 ⟨rfl, hOv, hRv⟩
                    have h1 := h0.call hOv hRv
                    clear h0
                    have h0 := h1
                    replace hown := own_off hown hOv (by omega)
                    have hH2 : Box wk5 (w1.heap.size + 1) #[.func (.func 21) #[] #[.pointer (some ⟨w.heap.size + 1, 0, none⟩), .pointer (some ⟨w.heap.size + 1 + 1, 0, none⟩), .pointer (some ⟨w1.heap.size, 0, none⟩)]] ∧ Box wk5 wr.heap.size #[.int .i64 f.c.p, .int .i64 f.c.b, .int .i64 f.c.l, .int .i64 f.c.a, .int .i64 f.c.s, .bool f.d.i, .int .i64 f.d.n, .int .i64 f.d.p, .int .i64 f.d.b, .int .i64 f.d.l, .int .i64 f.d.a, .int .i64 f.d.s] := ⟨hOv.box hHeld.1 (by omega), hOv.box hHeld.2 (by omega)⟩
                    replace hM := hM.call hOv
                    have hbk5 := hOv.size
                    clear h1 hOv hRv
                    refine hK.out _ _ hH2 (fun hHeld => ?_)
                    clear hK K hH2
                    try simp only [Act.put, List.getElem_toArray, List.getElem_cons_zero, List.getElem_cons_succ, List.setIfInBounds_toArray, List.set_cons_zero, List.set_cons_succ]
                    refine wpAnyH_ready (rs := [9]) (by kernel_rfl) (by simp) (AllReadyH.cons rfl (fun K hK => ?_) AllReadyH.nil)
                    go_simp
                    go_at_call 21
                    refine (cS _ h0.hR).mono ?_
                    rintro e wk9 ⟨rfl, hOv, hRv⟩
                    have h1 := h0.call hOv hRv
                    clear h0
                    have h0 := h1
                    replace hown := own_off hown hOv (by omega)
                    have hH2 : Box wk9 (w1.heap.size + 1) #[.func (.func 21) #[] #[.pointer (some ⟨w.heap.size + 1, 0, none⟩), .pointer (some ⟨w.heap.size + 1 + 1, 0, none⟩), .pointer (some ⟨w1.heap.size, 0, none⟩)]] ∧ Box wk9 wr.heap.size #[.int .i64 f.c.p, .int .i64 f.c.b, .int .i64 f.c.l, .int .i64 f.c.a, .int .i64 f.c.s, .bool f.d.i, .int .i64 f.d.n, .int .i64 f.d.p, .int .i64 f.d.b, .int .i64 f.d.l, .int .i64 f.d.a, .int .i64 f.d.s] := ⟨hOv.box hHeld.1 (by omega), hOv.box hHeld.2 (by omega)⟩
                    replace hM := hM.call hOv
                    have hbk9 := hOv.size
                    clear h1 hOv hRv
                    refine hK.out _ _ hH2 (fun hHeld => ?_)
                    clear hK K hH2
                    try simp only [Act.put, List.getElem_toArray, List.getElem_cons_zero, List.getElem_cons_succ, List.setIfInBounds_toArray, List.set_cons_zero, List.set_cons_succ]
                    refine wpAnyH_take (i := 10) (v := .agg #[.int .i64 (swK b n f.c).p, .int .i64 (swK b n f.c).b, .int .i64 (swK b n f.c).l, .int .i64 (swK b n f.c).a, .int .i64 (swK b n f.c).s, .bool (swV b n f.d).i, .int .i64 (swV b n f.d).n, .int .i64 (swV b n f.d).p, .int .i64 (swV b n f.d).b, .int .i64 (swV b n f.d).l, .int .i64 (swV b n f.d).a, .int .i64 (swV b n f.d).s]) rfl (by kernel_rfl) (by kernel_rfl) (by kernel_rfl) (fun _ _ _ h => h) (Or.inl ⟨by rfl, fun wz hSw => by go_simp⟩) (by assumption) ?_
                    try simp only [Act.put, List.getElem_toArray, List.getElem_cons_zero, List.getElem_cons_succ, List.setIfInBounds_toArray, List.set_cons_zero, List.set_cons_succ]
                    refine wpAnyH_ready (rs := [11]) (by kernel_rfl) (by simp) (AllReadyH.cons rfl (fun K hK => ?_) AllReadyH.nil)
                    go_simp
                    obtain ⟨wb, hwb, hbb, hbl, hbo⟩ : ∃ wb, wb = wk9.alloc (.cells #[.int .i64 (swK b n f.c).p, .int .i64 (swK b n f.c).b, .int .i64 (swK b n f.c).l, .int .i64 (swK b n f.c).a, .int .i64 (swK b n f.c).s, .bool (swV b n f.d).i, .int .i64 (swV b n f.d).n, .int .i64 (swV b n f.d).p, .int .i64 (swV b n f.d).b, .int .i64 (swV b n f.d).l, .int .i64 (swV b n f.d).a, .int .i64 (swV b n f.d).s] 45) ∧ Below wk9.heap.size wk9 wb ∧ wb.heap[wk9.heap.size]? = some (.cells #[.int .i64 (swK b n f.c).p, .int .i64 (swK b n f.c).b, .int .i64 (swK b n f.c).l, .int .i64 (swK b n f.c).a, .int .i64 (swK b n f.c).s, .bool (swV b n f.d).i, .int .i64 (swV b n f.d).n, .int .i64 (swV b n f.d).p, .int .i64 (swV b n f.d).b, .int .i64 (swV b n f.d).l, .int .i64 (swV b n f.d).a, .int .i64 (swV b n f.d).s] 45 (0, 0)) ∧ wb.heap.size = wk9.heap.size + 1 := ⟨_, rfl, (Below.refl _ _).alloc (Nat.le_refl _) _, heap_alloc_new _ _, by rw [World.size_alloc]⟩
                    rw [← hwb]
                    clear hwb
                    replace h0 := h0.below hbb
                    replace hown := own_below hown hbb
                    replace hM := hM.below hbb
                    have hH2 : Box wb (w1.heap.size + 1) #[.func (.func 21) #[] #[.pointer (some ⟨w.heap.size + 1, 0, none⟩), .pointer (some ⟨w.heap.size + 1 + 1, 0, none⟩), .pointer (some ⟨w1.heap.size, 0, none⟩)]] ∧ Box wb wr.heap.size #[.int .i64 f.c.p, .int .i64 f.c.b, .int .i64 f.c.l, .int .i64 f.c.a, .int .i64 f.c.s, .bool f.d.i, .int .i64 f.d.n, .int .i64 f.d.p, .int .i64 f.d.b, .int .i64 f.d.l, .int .i64 f.d.a, .int .i64 f.d.s] := ⟨hHeld.1.below hbb, hHeld.2.below hbb⟩
                    clear hbb
                    refine hK.out _ _ hH2 (fun hHeld => ?_)
                    clear hK K hH2
                    try simp only [Act.put, List.getElem_toArray, List.getElem_cons_zero, List.getElem_cons_succ, List.setIfInBounds_toArray, List.set_cons_zero, List.set_cons_succ]
                    refine wpAnyH_ready (rs := [12]) (by kernel_rfl) (by simp) (AllReadyH.cons rfl (fun K hK => ?_) AllReadyH.nil)
                    refine step_append_lies _ rfl _ _ _ rfl base2 45 i1 _ 12 96 Try.underlying28 hj0 hy0 hy1 hy2 rfl (by omega) (.slice d k dc) k _ rfl hown ⟨wk9.heap.size, 0, none⟩ 1 1 (frC (swF b n f)) rfl rfl (World.news_of_block hbl) (frC_one _) (by omega) (by unfold maxLen; omega) (by omega) (by omega) _ rfl ?_
                    intro g2 cap2 wa hown2 hgrow hat hlt9
                    have h1 := h0.grown (base := base2) hgrow (fun j hj => (hown.lt j hj).1) hTb2 hpb2
                    have hPn := HPn.out
                    have hH2 : Box wa (w1.heap.size + 1) #[.func (.func 21) #[] #[.pointer (some ⟨w.heap.size + 1, 0, none⟩), .pointer (some ⟨w.heap.size + 1 + 1, 0, none⟩), .pointer (some ⟨w1.heap.size, 0, none⟩)]] ∧ Box wa wr.heap.size #[.int .i64 f.c.p, .int .i64 f.c.b, .int .i64 f.c.l, .int .i64 f.c.a, .int .i64 f.c.s, .bool f.d.i, .int .i64 f.d.n, .int .i64 f.d.p, .int .i64 f.d.b, .int .i64 f.d.l, .int .i64 f.d.a, .int .i64 f.d.s] := ⟨box_grownS hHeld.1 hgrow (fun e => by have := (hown.lt _ e.symm).1; omega), box_grownS hHeld.2 hgrow hPn⟩
                    have hba := hgrow.size
                    replace hM := hM.grown (base := base2) hgrow (fun j hj => (hown.lt j hj).1) hmb
                    clear h0 hown hgrow hat hbl hPn
                    have h0 := h1
                    have hown := hown2
                    clear h1 hown2
                    refine hK.out _ _ hH2 (fun hHeld => ?_)
                    clear hK K hH2
                    try simp only [Act.put, List.getElem_toArray, List.getElem_cons_zero, List.getElem_cons_succ, List.setIfInBounds_toArray, List.set_cons_zero, List.set_cons_succ]
                    refine wpAnyH_take (i := 13) (v := .pointer (some ⟨BT, 62, none⟩)) rfl (by kernel_rfl) (by kernel_rfl) (by kernel_rfl) (fun _ _ _ h => h) (Or.inl ⟨by rfl, fun wz hSw => by go_simp⟩) (by assumption) ?_
                    try simp only [Act.put, List.getElem_toArray, List.getElem_cons_zero, List.getElem_cons_succ, List.setIfInBounds_toArray, List.set_cons_zero, List.set_cons_succ]
                    refine wpAnyH_ready (rs := [14]) (by kernel_rfl) (by simp) (AllReadyH.cons rfl (fun K hK => ?_) AllReadyH.nil)
                    have lmT := (mc_tail h0.bT hr8).ls
                    dsimp only at lmT
                    rw [HV.out.2.2] at lmT
                    have fT := h0.bT.free
                    go_simp
                    have bT2 := box_setS h0.bT hr8 (sT b n (k + 1) x) (some ⟨g2, 0, none⟩) cap2
                    have lenk2 : (sT b n (k + 1) x).length = k + 1 := sT_len hlt2
                    rw [lenk2] at bT2
                    have h9 := h0.put ((Off.refl BT _).set 62 (.slice (some ⟨g2, 0, none⟩) (k + 1) cap2)) bT2 rfl
                    have hown9 := ownsRow_setCell_below hown (a := ⟨BT, 62, none⟩) hTb2 (.slice (some ⟨g2, 0, none⟩) (k + 1) cap2)
                    have hS9 : Box _ (w1.heap.size + 1) #[.func (.func 21) #[] #[.pointer (some ⟨w.heap.size + 1, 0, none⟩), .pointer (some ⟨w.heap.size + 1 + 1, 0, none⟩), .pointer (some ⟨w1.heap.size, 0, none⟩)]] ∧ Box _ wr.heap.size #[.int .i64 f.c.p, .int .i64 f.c.b, .int .i64 f.c.l, .int .i64 f.c.a, .int .i64 f.c.s, .bool f.d.i, .int .i64 f.d.n, .int .i64 f.d.p, .int .i64 f.d.b, .int .i64 f.d.l, .int .i64 f.d.a, .int .i64 f.d.s] := ⟨hHeld.1.aside' (p := ⟨BT, 62, none⟩) (by show BT ≠ _; omega) (.slice (some ⟨g2, 0, none⟩) (k + 1) cap2), hHeld.2.aside' (p := ⟨BT, 62, none⟩) (by show BT ≠ _; omega) (.slice (some ⟨g2, 0, none⟩) (k + 1) cap2)⟩
                    have hb9 : base2 ≤ (wa.setCell ⟨BT, 62, none⟩ (.slice (some ⟨g2, 0, none⟩) (k + 1) cap2)).heap.size := by simp [World.setCell]; omega
                    have hM9 := hM.put ((Off.refl BT _).set 62 (.slice (some ⟨g2, 0, none⟩) (k + 1) cap2))
                    have hFin : Hid (_ ∧ _ ∧ _ ∧ _) := ⟨hb9, h9, hown9, hM9⟩
                    refine hK.out _ _ hS9 (fun hHeld => ?_)
                    clear hK K h0 hown hM hM9 h9 hown9 hS9 hb9 bT2 lmT fT hP
                    try simp only [Act.put, List.getElem_toArray, List.getElem_cons_zero, List.getElem_cons_succ, List.setIfInBounds_toArray, List.set_cons_zero, List.set_cons_succ]
                    refine wpAnyH_done (by kernel_rfl) ?_ _
                    go_wp2
                    go_roundw
                    case rel =>
                      obtain ⟨r1, r2, r3, r4⟩ := hFin.out
                      obtain ⟨p1, p2, p3⟩ := HV.out
                      refine ⟨k + 1, by omega, rfl, by first | exact r1 | simpa [World.setCell] using r1, some ⟨g2, 0, none⟩, cap2, ?_, ?_, r4⟩
                      · rw [p2, show cF b n f = cK b n f.c + cV b n f.d from rfl, ← Nat.add_assoc, ← Nat.add_assoc]; exact r2
                      · rw [sT_snoc p1, List.flatMap_append, List.flatMap_singleton]; exact r3
                    case measure => simp [intOf]; omega
                  · go_simp
                    go_at_call 23
                    refine (cSk _ h0.hR).mono ?_
                    rintro e wk5 ⟨rfl, hOv, hRv⟩
                    have h1 := h0.call hOv hRv
                    clear h0
                    have h0 := h1
                    replace hown := own_off hown hOv (by omega)
                    have hH2 : Box wk5 (w1.heap.size + 1) #[.func (.func 21) #[] #[.pointer (some ⟨w.heap.size + 1, 0, none⟩), .pointer (some ⟨w.heap.size + 1 + 1, 0, none⟩), .pointer (some ⟨w1.heap.size, 0, none⟩)]] ∧ Box wk5 wr.heap.size #[.int .i64 f.c.p, .int .i64 f.c.b, .int .i64 f.c.l, .int .i64 f.c.a, .int .i64 f.c.s, .bool f.d.i, .int .i64 f.d.n, .int .i64 f.d.p, .int .i64 f.d.b, .int .i64 f.d.l, .int .i64 f.d.a, .int .i64 f.d.s] := ⟨hOv.box hHeld.1 (by omega), hOv.box hHeld.2 (by omega)⟩
                    replace hM := hM.call hOv
                    have hbk5 := hOv.size
                    clear h1 hOv hRv
                    refine hK.out _ _ hH2 (fun hHeld => ?_)
                    clear hK K hH2
                    try simp only [Act.put, List.getElem_toArray, List.getElem_cons_zero, List.getElem_cons_succ, List.setIfInBounds_toArray, List.set_cons_zero, List.set_cons_succ]
                    refine wpAnyH_ready (rs := [1, 9]) (by kernel_rfl) (by simp) (AllReadyH.cons rfl (fun K hK => ?_) (AllReadyH.cons rfl (fun K hK => ?_) AllReadyH.nil))
                    · have lmT := (mc_tail h0.bT hr8).ls
                      dsimp only at lmT
                      rw [HV.out.2.2] at lmT
                      go_simp
                      clear lmT
                      refine hK.out _ _ hHeld (fun hHeld => ?_)
                      clear hK K
                      try simp only [Act.put, List.getElem_toArray, List.getElem_cons_zero, List.getElem_cons_succ, List.setIfInBounds_toArray, List.set_cons_zero, List.set_cons_succ]
                      refine wpAnyH_ready (rs := [9]) (by kernel_rfl) (by simp) (AllReadyH.cons rfl (fun K hK => ?_) AllReadyH.nil)
                      go_simp
                      go_at_call 21
                      refine (cS _ h0.hR).mono ?_
                      rintro e wk9 ⟨rfl, hOv, hRv⟩
                      have h1 := h0.call hOv hRv
                      clear h0
                      have h0 := h1
                      replace hown := own_off hown hOv (by omega)
                      have hH2 : Box wk9 (w1.heap.size + 1) #[.func (.func 21) #[] #[.pointer (some ⟨w.heap.size + 1, 0, none⟩), .pointer (some ⟨w.heap.size + 1 + 1, 0, none⟩), .pointer (some ⟨w1.heap.size, 0, none⟩)]] ∧ Box wk9 wr.heap.size #[.int .i64 f.c.p, .int .i64 f.c.b, .int .i64 f.c.l, .int .i64 f.c.a, .int .i64 f.c.s, .bool f.d.i, .int .i64 f.d.n, .int .i64 f.d.p, .int .i64 f.d.b, .int .i64 f.d.l, .int .i64 f.d.a, .int .i64 f.d.s] := ⟨hOv.box hHeld.1 (by omega), hOv.box hHeld.2 (by omega)⟩
                      replace hM := hM.call hOv
                      have hbk9 := hOv.size
                      clear h1 hOv hRv
                      refine hK.out _ _ hH2 (fun hHeld => ?_)
                      clear hK K hH2
                      try simp only [Act.put, List.getElem_toArray, List.getElem_cons_zero, List.getElem_cons_succ, List.setIfInBounds_toArray, List.set_cons_zero, List.set_cons_succ]
                      refine wpAnyH_take (i := 10) (v := .agg #[.int .i64 (swK b n f.c).p, .int .i64 (swK b n f.c).b, .int .i64 (swK b n f.c).l, .int .i64 (swK b n f.c).a, .int .i64 (swK b n f.c).s, .bool (swV b n f.d).i, .int .i64 (swV b n f.d).n, .int .i64 (swV b n f.d).p, .int .i64 (swV b n f.d).b, .int .i64 (swV b n f.d).l, .int .i64 (swV b n f.d).a, .int .i64 (swV b n f.d).s]) rfl (by kernel_rfl) (by kernel_rfl) (by kernel_rfl) (fun _ _ _ h => h) (Or.inl ⟨by rfl, fun wz hSw => by go_simp⟩) (by assumption) ?_
                      try simp only [Act.put, List.getElem_toArray, List.getElem_cons_zero, List.getElem_cons_succ, List.setIfInBounds_toArray, List.set_cons_zero, List.set_cons_succ]
                      refine wpAnyH_ready (rs := [11]) (by kernel_rfl) (by simp) (AllReadyH.cons rfl (fun K hK => ?_) AllReadyH.nil)
                      go_simp
                      obtain ⟨wb, hwb, hbb, hbl, hbo⟩ : ∃ wb, wb = wk9.alloc (.cells #[.int .i64 (swK b n f.c).p, .int .i64 (swK b n f.c).b, .int .i64 (swK b n f.c).l, .int .i64 (swK b n f.c).a, .int .i64 (swK b n f.c).s, .bool (swV b n f.d).i, .int .i64 (swV b n f.d).n, .int .i64 (swV b n f.d).p, .int .i64 (swV b n f.d).b, .int .i64 (swV b n f.d).l, .int .i64 (swV b n f.d).a, .int .i64 (swV b n f.d).s] 45) ∧ Below wk9.heap.size wk9 wb ∧ wb.heap[wk9.heap.size]? = some (.cells #[.int .i64 (swK b n f.c).p, .int .i64 (swK b n f.c).b, .int .i64 (swK b n f.c).l, .int .i64 (swK b n f.c).a, .int .i64 (swK b n f.c).s, .bool (swV b n f.d).i, .int .i64 (swV b n f.d).n, .int .i64 (swV b n f.d).p, .int .i64 (swV b n f.d).b, .int .i64 (swV b n f.d).l, .int .i64 (swV b n f.d).a, .int .i64 (swV b n f.d).s] 45 (0, 0)) ∧ wb.heap.size = wk9.heap.size + 1 := ⟨_, rfl, (Below.refl _ _).alloc (Nat.le_refl _) _, heap_alloc_new _ _, by rw [World.size_alloc]⟩
                      rw [← hwb]
                      clear hwb
                      replace h0 := h0.below hbb
                      replace hown := own_below hown hbb
                      replace hM := hM.below hbb
                      have hH2 : Box wb (w1.heap.size + 1) #[.func (.func 21) #[] #[.pointer (some ⟨w.heap.size + 1, 0, none⟩), .pointer (some ⟨w.heap.size + 1 + 1, 0, none⟩), .pointer (some ⟨w1.heap.size, 0, none⟩)]] ∧ Box wb wr.heap.size #[.int .i64 f.c.p, .int .i64 f.c.b, .int .i64 f.c.l, .int .i64 f.c.a, .int .i64 f.c.s, .bool f.d.i, .int .i64 f.d.n, .int .i64 f.d.p, .int .i64 f.d.b, .int .i64 f.d.l, .int .i64 f.d.a, .int .i64 f.d.s] := ⟨hHeld.1.below hbb, hHeld.2.below hbb⟩
                      clear hbb
                      refine hK.out _ _ hH2 (fun hHeld => ?_)
                      clear hK K hH2
                      try simp only [Act.put, List.getElem_toArray, List.getElem_cons_zero, List.getElem_cons_succ, List.setIfInBounds_toArray, List.set_cons_zero, List.set_cons_succ]
                      refine wpAnyH_ready (rs := [12]) (by kernel_rfl) (by simp) (AllReadyH.cons rfl (fun K hK => ?_) AllReadyH.nil)
                      refine step_append_lies _ rfl _ _ _ rfl base2 45 i1 _ 12 96 Try.underlying28 hj0 hy0 hy1 hy2 rfl (by omega) (.slice d k dc) k _ rfl hown ⟨wk9.heap.size, 0, none⟩ 1 1 (frC (swF b n f)) rfl rfl (World.news_of_block hbl) (frC_one _) (by omega) (by unfold maxLen; omega) (by omega) (by omega) _ rfl ?_
                      intro g2 cap2 wa hown2 hgrow hat hlt9
                      have h1 := h0.grown (base := base2) hgrow (fun j hj => (hown.lt j hj).1) hTb2 hpb2
                      have hPn := HPn.out
                      have hH2 : Box wa (w1.heap.size + 1) #[.func (.func 21) #[] #[.pointer (some ⟨w.heap.size + 1, 0, none⟩), .pointer (some ⟨w.heap.size + 1 + 1, 0, none⟩), .pointer (some ⟨w1.heap.size, 0, none⟩)]] ∧ Box wa wr.heap.size #[.int .i64 f.c.p, .int .i64 f.c.b, .int .i64 f.c.l, .int .i64 f.c.a, .int .i64 f.c.s, .bool f.d.i, .int .i64 f.d.n, .int .i64 f.d.p, .int .i64 f.d.b, .int .i64 f.d.l, .int .i64 f.d.a, .int .i64 f.d.s] := ⟨box_grownS hHeld.1 hgrow (fun e => by have := (hown.lt _ e.symm).1; omega), box_grownS hHeld.2 hgrow hPn⟩
                      have hba := hgrow.size
                      replace hM := hM.grown (base := base2) hgrow (fun j hj => (hown.lt j hj).1) hmb
                      clear h0 hown hgrow hat hbl hPn
                      have h0 := h1
                      have hown := hown2
                      clear h1 hown2
                      refine hK.out _ _ hH2 (fun hHeld => ?_)
                      clear hK K hH2
                      try simp only [Act.put, List.getElem_toArray, List.getElem_cons_zero, List.getElem_cons_succ, List.setIfInBounds_toArray, List.set_cons_zero, List.set_cons_succ]
                      refine wpAnyH_take (i := 13) (v := .pointer (some ⟨BT, 62, none⟩)) rfl (by kernel_rfl) (by kernel_rfl) (by kernel_rfl) (fun _ _ _ h => h) (Or.inl ⟨by rfl, fun wz hSw => by go_simp⟩) (by assumption) ?_
                      try simp only [Act.put, List.getElem_toArray, List.getElem_cons_zero, List.getElem_cons_succ, List.setIfInBounds_toArray, List.set_cons_zero, List.set_cons_succ]
                      refine wpAnyH_ready (rs := [14]) (by kernel_rfl) (by simp) (AllReadyH.cons rfl (fun K hK => ?_) AllReadyH.nil)
                      have lmT := (mc_tail h0.bT hr8).ls
                      dsimp only at lmT
                      rw [HV.out.2.2] at lmT
                      have fT := h0.bT.free
                      go_simp
                      have bT2 := box_setS h0.bT hr8 (sT b n (k + 1) x) (some ⟨g2, 0, none⟩) cap2
                      have lenk2 : (sT b n (k + 1) x).length = k + 1 := sT_len hlt2
                      rw [lenk2] at bT2
                      have h9 := h0.put ((Off.refl BT _).set 62 (.slice (some ⟨g2, 0, none⟩) (k + 1) cap2)) bT2 rfl
                      have hown9 := ownsRow_setCell_below hown (a := ⟨BT, 62, none⟩) hTb2 (.slice (some ⟨g2, 0, none⟩) (k + 1) cap2)
                      have hS9 : Box _ (w1.heap.size + 1) #[.func (.func 21) #[] #[.pointer (some ⟨w.heap.size + 1, 0, none⟩), .pointer (some ⟨w.heap.size + 1 + 1, 0, none⟩), .pointer (some ⟨w1.heap.size, 0, none⟩)]] ∧ Box _ wr.heap.size #[.int .i64 f.c.p, .int .i64 f.c.b, .int .i64 f.c.l, .int .i64 f.c.a, .int .i64 f.c.s, .bool f.d.i, .int .i64 f.d.n, .int .i64 f.d.p, .int .i64 f.d.b, .int .i64 f.d.l, .int .i64 f.d.a, .int .i64 f.d.s] := ⟨hHeld.1.aside' (p := ⟨BT, 62, none⟩) (by show BT ≠ _; omega) (.slice (some ⟨g2, 0, none⟩) (k + 1) cap2), hHeld.2.aside' (p := ⟨BT, 62, none⟩) (by show BT ≠ _; omega) (.slice (some ⟨g2, 0, none⟩) (k + 1) cap2)⟩
                      have hb9 : base2 ≤ (wa.setCell ⟨BT, 62, none⟩ (.slice (some ⟨g2, 0, none⟩) (k + 1) cap2)).heap.size := by simp [World.setCell]; omega
                      have hM9 := hM.put ((Off.refl BT _).set 62 (.slice (some ⟨g2, 0, none⟩) (k + 1) cap2))
                      have hFin : Hid (_ ∧ _ ∧ _ ∧ _) := ⟨hb9, h9, hown9, hM9⟩
                      refine hK.out _ _ hS9 (fun hHeld => ?_)
                      clear hK K h0 hown hM hM9 h9 hown9 hS9 hb9 bT2 lmT fT hP
                      try simp only [Act.put, List.getElem_toArray, List.getElem_cons_zero, List.getElem_cons_succ, List.setIfInBounds_toArray, List.set_cons_zero, List.set_cons_succ]
                      refine wpAnyH_done (by kernel_rfl) ?_ _
                      go_wp2
                      go_roundw
                      case rel =>
                        obtain ⟨r1, r2, r3, r4⟩ := hFin.out
                        obtain ⟨p1, p2, p3⟩ := HV.out
                        refine ⟨k + 1, by omega, rfl, by first | exact r1 | simpa [World.setCell] using r1, some ⟨g2, 0, none⟩, cap2, ?_, ?_, r4⟩
                        · rw [p2, show cF b n f = cK b n f.c + cV b n f.d from rfl, ← Nat.add_assoc, ← Nat.add_assoc]; exact r2
                        · rw [sT_snoc p1, List.flatMap_append, List.flatMap_singleton]; exact r3
                      case measure => simp [intOf]; omega
                    · go_simp
                      go_at_call 21
                      refine (cS _ h0.hR).mono ?_
                      rintro e wk9 ⟨rfl, hOv, hRv⟩
                      have h1 := h0.call hOv hRv
                      clear h0
                      have h0 := h1
                      replace hown := own_off hown hOv (by omega)
                      have hH2 : Box wk9 (w1.heap.size + 1) #[.func (.func 21) #[] #[.pointer (some ⟨w.heap.size + 1, 0, none⟩), .pointer (some ⟨w.heap.size + 1 + 1, 0, none⟩), .pointer (some ⟨w1.heap.size, 0, none⟩)]] ∧ Box wk9 wr.heap.size #[.int .i64 f.c.p, .int .i64 f.c.b, .int .i64 f.c.l, .int .i64 f.c.a, .int .i64 f.c.s, .bool f.d.i, .int .i64 f.d.n, .int .i64 f.d.p, .int .i64 f.d.b, .int .i64 f.d.l, .int .i64 f.d.a, .int .i64 f.d.s] := ⟨hOv.box hHeld.1 (by omega), hOv.box hHeld.2 (by omega)⟩
                      replace hM := hM.call hOv
                      have hbk9 := hOv.size
                      clear h1 hOv hRv
                      refine hK.out _ _ hH2 (fun hHeld => ?_)
                      clear hK K hH2
                      try simp only [Act.put, List.getElem_toArray, List.getElem_cons_zero, List.getElem_cons_succ, List.setIfInBounds_toArray, List.set_cons_zero, List.set_cons_succ]
                      refine wpAnyH_take (i := 10) (v := .agg #[.int .i64 (swK b n f.c).p, .int .i64 (swK b n f.c).b, .int .i64 (swK b n f.c).l, .int .i64 (swK b n f.c).a, .int .i64 (swK b n f.c).s, .bool (swV b n f.d).i, .int .i64 (swV b n f.d).n, .int .i64 (swV b n f.d).p, .int .i64 (swV b n f.d).b, .int .i64 (swV b n f.d).l, .int .i64 (swV b n f.d).a, .int .i64 (swV b n f.d).s]) rfl (by kernel_rfl) (by kernel_rfl) (by kernel_rfl) (fun _ _ _ h => h) (Or.inl ⟨by rfl, fun wz hSw => by go_simp⟩) (by assumption) ?_
                      try simp only [Act.put, List.getElem_toArray, List.getElem_cons_zero, List.getElem_cons_succ, List.setIfInBounds_toArray, List.set_cons_zero, List.set_cons_succ]
                      refine wpAnyH_ready (rs := [1, 11]) (by kernel_rfl) (by simp) (AllReadyH.cons rfl (fun K hK => ?_) (AllReadyH.cons rfl (fun K hK => ?_) AllReadyH.nil))
                      · have lmT := (mc_tail h0.bT hr8).ls
                        dsimp only at lmT
                        rw [HV.out.2.2] at lmT
                        go_simp
                        clear lmT
                        refine hK.out _ _ hHeld (fun hHeld => ?_)
                        clear hK K
                        try simp only [Act.put, List.getElem_toArray, List.getElem_cons_zero, List.getElem_cons_succ, List.setIfInBounds_toArray, List.set_cons_zero, List.set_cons_succ]
                        refine wpAnyH_ready (rs := [11]) (by kernel_rfl) (by simp) (AllReadyH.cons rfl (fun K hK => ?_) AllReadyH.nil)
                        go_simp
                        obtain ⟨wb, hwb, hbb, hbl, hbo⟩ : ∃ wb, wb = wk9.alloc (.cells #[.int .i64 (swK b n f.c).p, .int .i64 (swK b n f.c).b, .int .i64 (swK b n f.c).l, .int .i64 (swK b n f.c).a, .int .i64 (swK b n f.c).s, .bool (swV b n f.d).i, .int .i64 (swV b n f.d).n, .int .i64 (swV b n f.d).p, .int .i64 (swV b n f.d).b, .int .i64 (swV b n f.d).l, .int .i64 (swV b n f.d).a, .int .i64 (swV b n f.d).s] 45) ∧ Below wk9.heap.size wk9 wb ∧ wb.heap[wk9.heap.size]? = some (.cells #[.int .i64 (swK b n f.c).p, .int .i64 (swK b n f.c).b, .int .i64 (swK b n f.c).l, .int .i64 (swK b n f.c).a, .int .i64 (swK b n f.c).s, .bool (swV b n f.d).i, .int .i64 (swV b n f.d).n, .int .i64 (swV b n f.d).p, .int .i64 (swV b n f.d).b, .int .i64 (swV b n f.d).l, .int .i64 (swV b n f.d).a, .int .i64 (swV b n f.d).s] 45 (0, 0)) ∧ wb.heap.size = wk9.heap.size + 1 := ⟨_, rfl, (Below.refl _ _).alloc (Nat.le_refl _) _, heap_alloc_new _ _, by rw [World.size_alloc]⟩
                        rw [← hwb]
                        clear hwb
                        replace h0 := h0.below hbb
                        replace hown := own_below hown hbb
                        replace hM := hM.below hbb
                        have hH2 : Box wb (w1.heap.size + 1) #[.func (.func 21) #[] #[.pointer (some ⟨w.heap.size + 1, 0, none⟩), .pointer (some ⟨w.heap.size + 1 + 1, 0, none⟩), .pointer (some ⟨w1.heap.size, 0, none⟩)]] ∧ Box wb wr.heap.size #[.int .i64 f.c.p, .int .i64 f.c.b, .int .i64 f.c.l, .int .i64 f.c.a, .int .i64 f.c.s, .bool f.d.i, .int .i64 f.d.n, .int .i64 f.d.p, .int .i64 f.d.b, .int .i64 f.d.l, .int .i64 f.d.a, .int .i64 f.d.s] := ⟨hHeld.1.below hbb, hHeld.2.below hbb⟩
                        clear hbb
                        refine hK.out _ _ hH2 (fun hHeld => ?_)
                        clear hK K hH2
                        try simp only [Act.put, List.getElem_toArray, List.getElem_cons_zero, List.getElem_cons_succ, List.setIfInBounds_toArray, List.set_cons_zero, List.set_cons_succ]
                        refine wpAnyH_ready (rs := [12]) (by kernel_rfl) (by simp) (AllReadyH.cons rfl (fun K hK => ?_) AllReadyH.nil)
                        refine step_append_lies _ rfl _ _ _ rfl base2 45 i1 _ 12 96 Try.underlying28 hj0 hy0 hy1 hy2 rfl (by omega) (.slice d k dc) k _ rfl hown ⟨wk9.heap.size, 0, none⟩ 1 1 (frC (swF b n f)) rfl rfl (World.news_of_block hbl) (frC_one _) (by omega) (by unfold maxLen; omega) (by omega) (by omega) _ rfl ?_
                        intro g2 cap2 wa hown2 hgrow hat hlt9
                        have h1 := h0.grown (base := base2) hgrow (fun j hj => (hown.lt j hj).1) hTb2 hpb2
                        have hPn := HPn.out
                        have hH2 : Box wa (w1.heap.size + 1) #[.func (.func 21) #[] #[.pointer (some ⟨w.heap.size + 1, 0, none⟩), .pointer (some ⟨w.heap.size + 1 + 1, 0, none⟩), .pointer (some ⟨w1.heap.size, 0, none⟩)]] ∧ Box wa wr.heap.size #[.int .i64 f.c.p, .int .i64 f.c.b, .int .i64 f.c.l, .int .i64 f.c.a, .int .i64 f.c.s, .bool f.d.i, .int .i64 f.d.n, .int .i64 f.d.p, .int .i64 f.d.b, .int .i64 f.d.l, .int .i64 f.d.a, .int .i64 f.d.s] := ⟨box_grownS hHeld.1 hgrow (fun e => by have := (hown.lt _ e.symm).1; omega), box_grownS hHeld.2 hgrow hPn⟩
                        have hba := hgrow.size
                        replace hM := hM.grown (base := base2) hgrow (fun j hj => (hown.lt j hj).1) hmb
                        clear h0 hown hgrow hat hbl hPn
                        have h0 := h1
                        have hown := hown2
                        clear h1 hown2
                        refine hK.out _ _ hH2 (fun hHeld => ?_)
                        clear hK K hH2
                        try simp only [Act.put, List.getElem_toArray, List.getElem_cons_zero, List.getElem_cons_succ, List.setIfInBounds_toArray, List.set_cons_zero, List.set_cons_succ]
                        refine wpAnyH_take (i := 13) (v := .pointer (some ⟨BT, 62, none⟩)) rfl (by kernel_rfl) (by kernel_rfl) (by kernel_rfl) (fun _ _ _ h => h) (Or.inl ⟨by rfl, fun wz hSw => by go_simp⟩) (by assumption) ?_
                        try simp only [Act.put, List.getElem_toArray, List.getElem_cons_zero, List.getElem_cons_succ, List.setIfInBounds_toArray, List.set_cons_zero, List.set_cons_succ]
                        refine wpAnyH_ready (rs := [14]) (by kernel_rfl) (by simp) (AllReadyH.cons rfl (fun K hK => ?_) AllReadyH.nil)
                        have lmT := (mc_tail h0.bT hr8).ls
                        dsimp only at lmT
                        rw [HV.out.2.2] at lmT
                        have fT := h0.bT.free
                        go_simp
                        have bT2 := box_setS h0.bT hr8 (sT b n (k + 1) x) (some ⟨g2, 0, none⟩) cap2
                        have lenk2 : (sT b n (k + 1) x).length = k + 1 := sT_len hlt2
                        rw [lenk2] at bT2
                        have h9 := h0.put ((Off.refl BT _).set 62 (.slice (some ⟨g2, 0, none⟩) (k + 1) cap2)) bT2 rfl
                        have hown9 := ownsRow_setCell_below hown (a := ⟨BT, 62, none⟩) hTb2 (.slice (some ⟨g2, 0, none⟩) (k + 1) cap2)
                        have hS9 : Box _ (w1.heap.size + 1) #[.func (.func 21) #[] #[.pointer (some ⟨w.heap.size + 1, 0, none⟩), .pointer (some ⟨w.heap.size + 1 + 1, 0, none⟩), .pointer (some ⟨w1.heap.size, 0, none⟩)]] ∧ Box _ wr.heap.size #[.int .i64 f.c.p, .int .i64 f.c.b, .int .i64 f.c.l, .int .i64 f.c.a, .int .i64 f.c.s, .bool f.d.i, .int .i64 f.d.n, .int .i64 f.d.p, .int .i64 f.d.b, .int .i64 f.d.l, .int .i64 f.d.a, .int .i64 f.d.s] := ⟨hHeld.1.aside' (p := ⟨BT, 62, none⟩) (by show BT ≠ _; omega) (.slice (some ⟨g2, 0, none⟩) (k + 1) cap2), hHeld.2.aside' (p := ⟨BT, 62, none⟩) (by show BT ≠ _; omega) (.slice (some ⟨g2, 0, none⟩) (k + 1) cap2)⟩
                        have hb9 : base2 ≤ (wa.setCell ⟨BT, 62, none⟩ (.slice (some ⟨g2, 0, none⟩) (k + 1) cap2)).heap.size := by simp [World.setCell]; omega
                        have hM9 := hM.put ((Off.refl BT _).set 62 (.slice (some ⟨g2, 0, none⟩) (k + 1) cap2))
                        have hFin : Hid (_ ∧ _ ∧ _ ∧ _) := ⟨hb9, h9, hown9, hM9⟩
                        refine hK.out _ _ hS9 (fun hHeld => ?_)
                        clear hK K h0 hown hM hM9 h9 hown9 hS9 hb9 bT2 lmT fT hP
                        try simp only [Act.put, List.getElem_toArray, List.getElem_cons_zero, List.getElem_cons_succ, List.setIfInBounds_toArray, List.set_cons_zero, List.set_cons_succ]
                        refine wpAnyH_done (by kernel_rfl) ?_ _
                        go_wp2
                        go_roundw
                        case rel =>
                          obtain ⟨r1, r2, r3, r4⟩ := hFin.out
                          obtain ⟨p1, p2, p3⟩ := HV.out
                          refine ⟨k + 1, by omega, rfl, by first | exact r1 | simpa [World.setCell] using r1, some ⟨g2, 0, none⟩, cap2, ?_, ?_, r4⟩
                          · rw [p2, show cF b n f = cK b n f.c + cV b n f.d from rfl, ← Nat.add_assoc, ← Nat.add_assoc]; exact r2
                          · rw [sT_snoc p1, List.flatMap_append, List.flatMap_singleton]; exact r3
                        case measure => simp [intOf]; omega
                      · go_simp
                        obtain ⟨wb, hwb, hbb, hbl, hbo⟩ : ∃ wb, wb = wk9.alloc (.cells #[.int .i64 (swK b n f.c).p, .int .i64 (swK b n f.c).b, .int .i64 (swK b n f.c).l, .int .i64 (swK b n f.c).a, .int .i64 (swK b n f.c).s, .bool (swV b n f.d).i, .int .i64 (swV b n f.d).n, .int .i64 (swV b n f.d).p, .int .i64 (swV b n f.d).b, .int .i64 (swV b n f.d).l, .int .i64 (swV b n f.d).a, .int .i64 (swV b n f.d).s] 45) ∧ Below wk9.heap.size wk9 wb ∧ wb.heap[wk9.heap.size]? = some (.cells #[.int .i64 (swK b n f.c).p, .int .i64 (swK b n f.c).b, .int .i64 (swK b n f.c).l, .int .i64 (swK b n f.c).a, .int .i64 (swK b n f.c).s, .bool (swV b n f.d).i, .int .i64 (swV b n f.d).n, .int .i64 (swV b n f.d).p, .int .i64 (swV b n f.d).b, .int .i64 (swV b n f.d).l, .int .i64 (swV b n f.d).a, .int .i64 (swV b n f.d).s] 45 (0, 0)) ∧ wb.heap.size = wk9.heap.size + 1 := ⟨_, rfl, (Below.refl _ _).alloc (Nat.le_refl _) _, heap_alloc_new _ _, by rw [World.size_alloc]⟩
                        rw [← hwb]
                        clear hwb
                        replace h0 := h0.below hbb
                        replace hown := own_below hown hbb
                        replace hM := hM.below hbb
                        have hH2 : Box wb (w1.heap.size + 1) #[.func (.func 21) #[] #[.pointer (some ⟨w.heap.size + 1, 0, none⟩), .pointer (some ⟨w.heap.size + 1 + 1, 0, none⟩), .pointer (some ⟨w1.heap.size, 0, none⟩)]] ∧ Box wb wr.heap.size #[.int .i64 f.c.p, .int .i64 f.c.b, .int .i64 f.c.l, .int .i64 f.c.a, .int .i64 f.c.s, .bool f.d.i, .int .i64 f.d.n, .int .i64 f.d.p, .int .i64 f.d.b, .int .i64 f.d.l, .int .i64 f.d.a, .int .i64 f.d.s] := ⟨hHeld.1.below hbb, hHeld.2.below hbb⟩
                        clear hbb
                        refine hK.out _ _ hH2 (fun hHeld => ?_)
                        clear hK K hH2
                        try simp only [Act.put, List.getElem_toArray, List.getElem_cons_zero, List.getElem_cons_succ, List.setIfInBounds_toArray, List.set_cons_zero, List.set_cons_succ]
                        refine wpAnyH_ready (rs := [1]) (by kernel_rfl) (by simp) (AllReadyH.cons rfl (fun K hK => ?_) AllReadyH.nil)
                        have lmT := (mc_tail h0.bT hr8).ls
                        dsimp only at lmT
                        rw [HV.out.2.2] at lmT
                        go_simp
                        clear lmT
                        refine hK.out _ _ hHeld (fun hHeld => ?_)
                        clear hK K
                        try simp only [Act.put, List.getElem_toArray, List.getElem_cons_zero, List.getElem_cons_succ, List.setIfInBounds_toArray, List.set_cons_zero, List.set_cons_succ]
                        refine wpAnyH_ready (rs := [12]) (by kernel_rfl) (by simp) (AllReadyH.cons rfl (fun K hK => ?_) AllReadyH.nil)
                        refine step_append_lies _ rfl _ _ _ rfl base2 45 i1 _ 12 96 Try.underlying28 hj0 hy0 hy1 hy2 rfl (by omega) (.slice d k dc) k _ rfl hown ⟨wk9.heap.size, 0, none⟩ 1 1 (frC (swF b n f)) rfl rfl (World.news_of_block hbl) (frC_one _) (by omega) (by unfold maxLen; omega) (by omega) (by omega) _ rfl ?_
                        intro g2 cap2 wa hown2 hgrow hat hlt9
                        have h1 := h0.grown (base := base2) hgrow (fun j hj => (hown.lt j hj).1) hTb2 hpb2
                        have hPn := HPn.out
                        have hH2 : Box wa (w1.heap.size + 1) #[.func (.func 21) #[] #[.pointer (some ⟨w.heap.size + 1, 0, none⟩), .pointer (some ⟨w.heap.size + 1 + 1, 0, none⟩), .pointer (some ⟨w1.heap.size, 0, none⟩)]] ∧ Box wa wr.heap.size #[.int .i64 f.c.p, .int .i64 f.c.b, .int .i64 f.c.l, .int .i64 f.c.a, .int .i64 f.c.s, .bool f.d.i, .int .i64 f.d.n, .int .i64 f.d.p, .int .i64 f.d.b, .int .i64 f.d.l, .int .i64 f.d.a, .int .i64 f.d.s] := ⟨box_grownS hHeld.1 hgrow (fun e => by have := (hown.lt _ e.symm).1; omega), box_grownS hHeld.2 hgrow hPn⟩
                        have hba := hgrow.size
                        replace hM := hM.grown (base := base2) hgrow (fun j hj => (hown.lt j hj).1) hmb
                        clear h0 hown hgrow hat hbl hPn
                        have h0 := h1
                        have hown := hown2
                        clear h1 hown2
                        refine hK.out _ _ hH2 (fun hHeld => ?_)
                        clear hK K hH2
                        try simp only [Act.put, List.getElem_toArray, List.getElem_cons_zero, List.getElem_cons_succ, List.setIfInBounds_toArray, List.set_cons_zero, List.set_cons_succ]
                        refine wpAnyH_take (i := 13) (v := .pointer (some ⟨BT, 62, none⟩)) rfl (by kernel_rfl) (by kernel_rfl) (by kernel_rfl) (fun _ _ _ h => h) (Or.inl ⟨by rfl, fun wz hSw => by go_simp⟩) (by assumption) ?_
                        try simp only [Act.put, List.getElem_toArray, List.getElem_cons_zero, List.getElem_cons_succ, List.setIfInBounds_toArray, List.set_cons_zero, List.set_cons_succ]
                        refine wpAnyH_ready (rs := [14]) (by kernel_rfl) (by simp) (AllReadyH.cons rfl (fun K hK => ?_) AllReadyH.nil)
                        have lmT := (mc_tail h0.bT hr8).ls
                        dsimp only at lmT
                        rw [HV.out.2.2] at lmT
                        have fT := h0.bT.free
                        go_simp
                        have bT2 := box_setS h0.bT hr8 (sT b n (k + 1) x) (some ⟨g2, 0, none⟩) cap2
                        have lenk2 : (sT b n (k + 1) x).length = k + 1 := sT_len hlt2
                        rw [lenk2] at bT2
                        have h9 := h0.put ((Off.refl BT _).set 62 (.slice (some ⟨g2, 0, none⟩) (k + 1) cap2)) bT2 rfl
                        have hown9 := ownsRow_setCell_below hown (a := ⟨BT, 62, none⟩) hTb2 (.slice (some ⟨g2, 0, none⟩) (k + 1) cap2)
                        have hS9 : Box _ (w1.heap.size + 1) #[.func (.func 21) #[] #[.pointer (some ⟨w.heap.size + 1, 0, none⟩), .pointer (some ⟨w.heap.size + 1 + 1, 0, none⟩), .pointer (some ⟨w1.heap.size, 0, none⟩)]] ∧ Box _ wr.heap.size #[.int .i64 f.c.p, .int .i64 f.c.b, .int .i64 f.c.l, .int .i64 f.c.a, .int .i64 f.c.s, .bool f.d.i, .int .i64 f.d.n, .int .i64 f.d.p, .int .i64 f.d.b, .int .i64 f.d.l, .int .i64 f.d.a, .int .i64 f.d.s] := ⟨hHeld.1.aside' (p := ⟨BT, 62, none⟩) (by show BT ≠ _; omega) (.slice (some ⟨g2, 0, none⟩) (k + 1) cap2), hHeld.2.aside' (p := ⟨BT, 62, none⟩) (by show BT ≠ _; omega) (.slice (some ⟨g2, 0, none⟩) (k + 1) cap2)⟩
                        have hb9 : base2 ≤ (wa.setCell ⟨BT, 62, none⟩ (.slice (some ⟨g2, 0, none⟩) (k + 1) cap2)).heap.size := by simp [World.setCell]; omega
                        have hM9 := hM.put ((Off.refl BT _).set 62 (.slice (some ⟨g2, 0, none⟩) (k + 1) cap2))
                        have hFin : Hid (_ ∧ _ ∧ _ ∧ _) := ⟨hb9, h9, hown9, hM9⟩
                        refine hK.out _ _ hS9 (fun hHeld => ?_)
                        clear hK K h0 hown hM hM9 h9 hown9 hS9 hb9 bT2 lmT fT hP
                        try simp only [Act.put, List.getElem_toArray, List.getElem_cons_zero, List.getElem_cons_succ, List.setIfInBounds_toArray, List.set_cons_zero, List.set_cons_succ]
                        refine wpAnyH_done (by kernel_rfl) ?_ _
                        go_wp2
                        go_roundw
                        case rel =>
                          obtain ⟨r1, r2, r3, r4⟩ := hFin.out
                          obtain ⟨p1, p2, p3⟩ := HV.out
                          refine ⟨k + 1, by omega, rfl, by first | exact r1 | simpa [World.setCell] using r1, some ⟨g2, 0, none⟩, cap2, ?_, ?_, r4⟩
                          · rw [p2, show cF b n f = cK b n f.c + cV b n f.d from rfl, ← Nat.add_assoc, ← Nat.add_assoc]; exact r2
                          · rw [sT_snoc p1, List.flatMap_append, List.flatMap_singleton]; exact r3
                        case measure => simp [intOf]; omega
                · obtain rfl : k = x.s.length := by omega
                  rw [List.take_length, sT_all] at h0
                  rw [sT_all] at hown
                  obtain ⟨d', dc', hv', hcap2, hrow, hfar⟩ := own_row2 hown
                  cases hv'
                  have hS : RowF wr w1.heap.size BT d ((x.s.map (swF b n)).flatMap frC) := ⟨hrow, fun z hz => ⟨(hfar z hz).2, by have := (hfar z hz).1; omega, by have := (hfar z hz).1; omega⟩⟩
                  clear hrow hcap2 hown hfar
                  have gk : ¬ (x.s.length : Int) < (x.s.length : Int) := by omega
                  have hcm : cK b n x.k + cVs b n x.r + cVs b n x.m + cFs b n x.s = cM b n x := by unfold cM; omega
                  rw [hcm] at h0
                  have h9 : RefS w w1.heap.size BT b n (cM b n x) x ⟨qm, qcm, qs, qcs, qo, qco⟩ (swM b n x) ⟨a, cap, d, dc, a3, c3⟩ wr := h0
                  clear h0 hcm
                  have y8 : (swM b n x).r.length = 8 := hr8
                  have iY : (Try.prog.info? 31).map (·.size) = some (mcC (swM b n x) ⟨a, cap, d, dc, a3, c3⟩).length := mach_info y8
                  have zY : z64.toArray.size = (mcC (swM b n x) ⟨a, cap, d, dc, a3, c3⟩).length := by rw [mc_length y8]; rfl
                  go_upto_region 25 with fail
                  obtain ⟨W, hW⟩ : ∃ W, W = wr.drew := ⟨_, rfl⟩
                  replace h9 := h9.below (below_drew _)
                  replace hM := hM.below (below_drew _)
                  replace hS := hS.below (below_drew _)
                  rw [← hW] at h9 hM hS
                  have bT := h9.bT
                  have bZ := h9.bZ
                  have bC := h9.hR.cc
                  have m3 : BT ≠ (w.heap.size + 1 + 1 + 1) := by omega
                  have m4 : w1.heap.size ≠ (w.heap.size + 1 + 1 + 1) := by omega
                  have HF : Hid (_ ∧ _ ∧ _) := ⟨h9, hM, hS⟩
                  clear h9 hM hS
                  refine wp_region_held_drew (S := fun w' => Off (w.heap.size + 1 + 1 + 1) W w') (by kernel_rfl) (by rw [hW]; exact Off.refl _ _) (fun hHeld => ?_)
                  rw [← hW] at hHeld ⊢
                  clear hW
                  refine wpAnyH_take (i := 0) (v := .agg (mcC (swM b n x) ⟨a, cap, d, dc, a3, c3⟩).toArray) rfl (by kernel_rfl) (by kernel_rfl) (by kernel_rfl) (fun _ _ _ h => h) (yieldsIf_load_mid (by rfl) 31 (.tmp 13) rfl BT 0 (by rfl) (mcC (swM b n x) ⟨a, cap, d, dc, a3, c3⟩) _ (fun wz hSw => box_range (hSw.box bT m3)) Try.underlying31 rfl iY) (by assumption) ?_
                  try simp only [Act.put, List.getElem_toArray, List.getElem_cons_zero, List.getElem_cons_succ, List.setIfInBounds_toArray, List.set_cons_zero, List.set_cons_succ]
                  refine wpAnyH_take (i := 1) (v := .int .i64 (cM b n x : Int)) rfl (by kernel_rfl) (by kernel_rfl) (by kernel_rfl) (fun _ _ _ h => h) (Or.inl ⟨by rfl, fun wz hSw => by have q := (hSw.box bC m4).cell; go_simp⟩) (by assumption) ?_
                  try simp only [Act.put, List.getElem_toArray, List.getElem_cons_zero, List.getElem_cons_succ, List.setIfInBounds_toArray, List.set_cons_zero, List.set_cons_succ]
                  refine wpAnyH_ready (rs := [2]) (by kernel_rfl) (by simp) (AllReadyH.cons rfl (fun K hK => ?_) AllReadyH.nil)
                  rw [if_pos (by rfl)]
                  refine wp_store_mid 31 (.tmp 6) (.tmp 100) rfl (w.heap.size + 1 + 1 + 1) 0 (mcC (swM b n x) ⟨a, cap, d, dc, a3, c3⟩).toArray (by rfl) (by rfl) (box_there bZ (by rw [zY, List.size_toArray])) (by rw [List.size_toArray]; exact iY) (all_oneCell_toArray (mc_one _ _)) ?_
                  refine hK.out _ _ (Off.cells _ _ _ _ (Off.refl _ _) (.inl rfl)) (fun hHeld => ?_)
                  try simp only [Act.put, List.getElem_toArray, List.getElem_cons_zero, List.getElem_cons_succ, List.setIfInBounds_toArray, List.set_cons_zero, List.set_cons_succ]
                  refine wpAnyH_take (i := 3) (v := .int .i64 (cM b n x : Int)) rfl (by kernel_rfl) (by kernel_rfl) (by kernel_rfl) (fun _ _ _ h => h) (Or.inl ⟨by rfl, fun wz hSw => by go_simp⟩) (by assumption) ?_
                  try simp only [Act.put, List.getElem_toArray, List.getElem_cons_zero, List.getElem_cons_succ, List.setIfInBounds_toArray, List.set_cons_zero, List.set_cons_succ]
                  refine wpAnyH_take (i := 4) (v := .int .i64 0) rfl (by kernel_rfl) (by kernel_rfl) (by kernel_rfl) (fun _ _ _ h => h) (Or.inl ⟨by rfl, fun wz hSw => by go_simp⟩) (by assumption) ?_
                  try simp only [Act.put, List.getElem_toArray, List.getElem_cons_zero, List.getElem_cons_succ, List.setIfInBounds_toArray, List.set_cons_zero, List.set_cons_succ]
                  refine wpAnyH_done (by kernel_rfl) ?_ _
                  have bR := box_cells (cs := (mcC (swM b n x) ⟨a, cap, d, dc, a3, c3⟩)) bZ zY
                  have hld := run_loadVar_mid (P := Try.prog) (W.setCells (w.heap.size + 1 + 1 + 1) 0 (mcC (swM b n x) ⟨a, cap, d, dc, a3, c3⟩)) (w.heap.size + 1 + 1 + 1) 0 31 (mcC (swM b n x) ⟨a, cap, d, dc, a3, c3⟩) _ (box_range bR) Try.underlying31 rfl iY
                  obtain ⟨h9, hM, hS⟩ := HF.out
                  have hOs : Off (w.heap.size + 1 + 1 + 1) W (W.setCells (w.heap.size + 1 + 1 + 1) 0 (mcC (swM b n x) ⟨a, cap, d, dc, a3, c3⟩)) := Off.cells _ _ _ _ (Off.refl _ _) (.inl rfl)
                  have hfin : Below w.heap.size w (W.setCells (w.heap.size + 1 + 1 + 1) 0 (mcC (swM b n x) ⟨a, cap, d, dc, a3, c3⟩)) := below_cells _ _ _ _ h9.hB (by omega)
                  have hAt : McAt (W.setCells (w.heap.size + 1 + 1 + 1) 0 (mcC (swM b n x) ⟨a, cap, d, dc, a3, c3⟩)) (swM b n x) ⟨a, cap, d, dc, a3, c3⟩ := ⟨RowAt.vals (row_offB hOs hM.r (fun z hz => by have := (hM.b z hz).2.2; omega)), row_offB hOs hS.r (fun z hz => by have := (hS.b z hz).2.2; omega), row_offB hOs h9.o (fun z hz => by have := (h9.ob z hz).2.2; omega), HK.out.1⟩
                  have HZ : Hid (Below w.heap.size w (W.setCells (w.heap.size + 1 + 1 + 1) 0 (mcC (swM b n x) ⟨a, cap, d, dc, a3, c3⟩)) ∧ McAt (W.setCells (w.heap.size + 1 + 1 + 1) 0 (mcC (swM b n x) ⟨a, cap, d, dc, a3, c3⟩)) (swM b n x) ⟨a, cap, d, dc, a3, c3⟩) := ⟨hfin, hAt⟩
                  clear h9 hM hS hOs hfin hAt bR bT bZ bC
                  go_wp2
                  exact bodyPost_ret (v := .tuple #[.agg (mcC (swM b n x) ⟨a, cap, d, dc, a3, c3⟩).toArray, .int .i64 (cM b n x : Int), .int .i64 0]) (by simp [results, Try.results9, asAddr, Act.put, hld]) rfl ⟨_, rfl, HZ.out⟩
end Go.Proofs.Ythijebhhbflclaa
