/- run.Places: where a machine is ahead of each step. -/
import Derived.Test.YtigkmfccbndiiaaDoorRows
import Derived.Test.YtigkmfccbndiiaaDoorKeyPure
import Derived.Test.YtigkmfccbndiiaaDoorMachArg
import Derived.Test.YtigkmfccbndiiaaDoorInstShape
import Derived.Test.YtigkmfccbndiiaaDoorStepChk
import Derived.Test.YtigkmfccbndiiaaDoorStepRow
import Derived.Test.YtigkmfccbndiiaaDoorStepFresh
import Derived.Test.YtigkmfccbndiiaaDoorStepOff
import Derived.Test.YtigkmfccbndiiaaDoorStepOwn
import Derived.Test.YtigkmfccbndiiaaDoorStepTop
import Derived.Test.YtigkmfccbndiiaaDoorStepKeep
import Derived.Test.YtigkmfccbndiiaaDoorRangeW
import Derived.Test.YtigkmfccbndiiaaDoorInMid
import Derived.Test.YtigkmfccbndiiaaDoorRunPlain
import Derived.Test.YtigkmfccbndiiaaDoorRunBase
import Derived.Test.YtigkmfccbndiiaaDoorRunTop
import Derived.WalkKit
import Derived.ProofKit
import Derived.Shelf.RegionOpen
import Derived.RangeFuncOwn
import Derived.OwnWalkIn
import Derived.Maps.AppendAt
namespace Go.Proofs.YtigkmfccbndiiaaDoor
open Go.ChangeShapes Go.WideShapes Go.ChangeAt Go.RowKit Go.Shelf
set_option linter.unusedSimpArgs false
set_option linter.unusedVariables false
set_option maxRecDepth 100000
attribute [local go_sem] Oper.semAt_some

/-- What the caller owns: the box, and the row that it holds. -/
def ownV (B : Nat) (V : Value) (k : Nat) : Prop := k = B ∨ V.ownBlock = some k
structure PL (w : World) (x : MC) (f B D : Nat) (pre : List DD) (own : Nat → Prop) (A : World) : Prop where
  below : Below w.heap.size w A
  size : D + 2 ≤ A.heap.size
  v : ∃ V, own = ownV B V ∧ Box A B #[V] ∧ A.ownsRow (D + 3) 3 1 V (spots (pre.map ddP)).length ((spots (pre.map ddP)).map nmC)
  pre : ∃ r, pre.map ddP ++ r = dealt f x
theorem own_off {k : Nat} {A A' : World} {base : Nat} {e : TypeId} {size : Nat} {v : Value} {n : Nat} {xs : List Value} (h : A.ownsRow base e size v n xs) (hO : Off k A A') (hk : k < base) : A'.ownsRow base e size v n xs := by
  obtain ⟨hl, h⟩ := h
  refine ⟨hl, ?_⟩
  rcases h with h | ⟨g, cap, cur, rfl, hb, hc, h2, h3, h4, h5⟩
  · exact .inl h
  · exact .inr ⟨g, cap, cur, rfl, hb, hO.obj (by omega) hc, h2, h3, h4, h5⟩
theorem own_below {A A' : World} {base : Nat} {e : TypeId} {size : Nat} {v : Value} {n : Nat} {xs : List Value} (h : A.ownsRow base e size v n xs) (hb : Below A.heap.size A A') : A'.ownsRow base e size v n xs :=
  h.kept (row := none) ⟨hb.os, hb.tape, hb.output, hb.size, fun k hk _ => hb.block k hk⟩ (by cases v.ownBlock <;> simp)
theorem own_slice {A : World} {base : Nat} {e : TypeId} {size : Nat} {v : Value} {n : Nat} {xs : List Value} (h : A.ownsRow base e size v n xs) : ∃ a m c, v = .slice a m c := by
  rcases h.2 with ⟨h, _⟩ | ⟨g, cap, cur, h, _⟩
  · exact ⟨_, _, _, h⟩
  · exact ⟨_, _, _, h⟩
theorem box_grown {W w1 : World} {row : Option Nat} {k : Nat} {c : Array Value} (h : Box W k c) (hg : W.grownBy w1 row) (hne : some k ≠ row) : Box w1 k c := by
  have e := hg.block k h.lt hne
  refine ⟨Nat.lt_of_lt_of_le h.1 hg.size, fun o => ?_, fun o => ?_⟩
  · rw [World.cell?_of_block (w := W) (a := ⟨k, o, none⟩) e]; exact h.2.1 o
  · rw [World.frozen?_of_block (w := W) (a := ⟨k, o, none⟩) e]; exact h.2.2 o
theorem wpListIn_append_at {F : Fence} {n : Nat} {P : Program} (w : World) {ops : Array Oper} {rest : List Oper} {o : Oper} {a : Act} {Q : Exit → Act → World → Prop}
    (hg : o.guard = none) (s x : Operand) (t : TypeId) (hop : o.op = Op.call { callee := Callee.builtin Builtin.append, args := #[s, x], argTypes := #[t, t] })
    (base : Nat) (e : TypeId) (i : TypeInfo) (z : Value) (size bytes : Nat) (h1 : P.underlying t = some (.slice e)) (h2 : P.info? e = some i) (h3 : i.zero = some z) (h4 : i.size = size) (h5 : i.bytes = bytes) (h6 : z.cells.size = size) (h7 : 0 < size)
    (v : Value) (k : Nat) (xs : List Value) (hs : a.eval s = v) (hown : w.ownsRow base e size v k xs) (ad : Addr) (m c : Nat) (news : List Value) (hx : a.eval x = .slice (some ad) m c) (hn : news.length = m * size)
    (hc : ∀ j u, news[j]? = some u → w.cell? (ad.add j) = some u) (h1c : ∀ u ∈ news, u.oneCell' = true) (b1 : k + m ≤ maxLen) (b2 : (k + m) * bytes ≤ 140737488355328) (b3 : base ≤ w.heap.size)
    (hK : ∀ v' w', w'.ownsRow base e size v' (k + m) (xs ++ news) → w.grownBy w' v.ownBlock → (v'.ownBlock = v.ownBlock ∨ v'.ownBlock = some w.heap.size) → wpListIn F n P ops Q rest (a.put o.dst v') w') :
    wpListIn F n P ops Q (o :: rest) a w := by
  refine wpListIn_plain hg fun K hK' => ?_
  obtain ⟨v', w', hrun, r1, r2, _, r3⟩ := run_append_own_at (P := P) w base t o.type e i z size bytes h1 h2 h3 h4 h5 h6 h7 v k xs hown ad m c news hn hc h1c b1 b2 b3
  unfold Oper.wpIn
  refine ⟨?_, ?_⟩
  · simp [Oper.about, hop, resolve, Target.leads, Sem.run_pure]
  · rw [Oper.semAt_plain F _ _ (by rw [hop]; intro c hc'; cases hc')]
    simp [execOp, hop, resolve, invoke, builtin, hs, hx, hrun, Result.andThen]
    exact hK' _ _ (hK v' w' r1 r2 r3)
theorem offP_grown {p : Nat → Prop} {W w1 : World} {row : Option Nat} (hg : W.grownBy w1 row) (hp : ∀ k, row = some k → p k) : OffP p W w1 :=
  ⟨hg.os, hg.tape, hg.output, hg.size, fun k hk hn => hg.block k hk (fun e => hn (hp k e.symm))⟩
theorem box_set1 {w : World} {k : Nat} {u : Value} (h : Box w k #[u]) (v : Value) : Box (w.setCell ⟨k, 0, none⟩ v) k #[v] := by
  refine ⟨by simpa [World.setCell] using h.1, fun o => ?_, fun o => by rw [World.frozen?_setCell]; exact h.2.2 o⟩
  by_cases e : o = 0
  · subst e
    have : w.cell? ⟨k, 0, none⟩ = some u := by rw [h.2.1]; rfl
    rw [World.cell?_setCell_same _ _ _ this]; rfl
  · rw [World.cell?_setCell_other _ _ _ _ (fun x => e (by injection x with _ x _; exact x.symm)), h.2.1]
    rw [Array.getElem?_eq_none (by simp; omega), Array.getElem?_eq_none (by simp; omega)]
theorem grown_set (W : World) (b : Nat) (v : Value) : W.grownBy (W.setCell ⟨b, 0, none⟩ v) (some b) :=
  ⟨rfl, rfl, rfl, by simp [World.setCell], fun k _ hn => Below.heap_setCell _ _ _ _ (fun e => hn (by subst e; rfl))⟩
theorem own_at {A : World} {base : Nat} {e : TypeId} {v : Value} {n : Nat} {xs : List Value} (h : A.ownsRow base e 1 v n xs) : ∃ a c, v = .slice a n c ∧ FarR (fun k => k < base) a xs ∧ RowAt A a xs := by
  rcases h.2 with ⟨rfl, rfl⟩ | ⟨g, cap, cur, rfl, h1, h2, _⟩
  · have e : xs = [] := List.eq_nil_of_length_eq_zero (by simpa using h.1)
    exact ⟨none, 0, rfl, .inl e, .inl e⟩
  · exact ⟨_, _, rfl, .inr (fun x hx => by cases hx; exact Nat.not_lt.2 h1), .inr ⟨g, 0, rfl, (Array.getElem?_eq_some_iff.1 h2).1, fun j u hj => by have := h.cells (g := g) rfl j u hj; rwa [addr_add] at this⟩⟩
theorem PL.off {w : World} {x : MC} {f B D : Nat} {pre : List DD} {own : Nat → Prop} {A A' : World} {k : Nat} (h : PL w x f B D pre own A) (hO : Off k A A') (hk : k = D + 1 ∨ k = D + 2) (hw : w.heap.size ≤ D) (hB : B < D) : PL w x f B D pre own A' := by
  have hs := hO.size
  have h1 := h.size
  obtain ⟨V, e, b, r⟩ := h.v
  exact ⟨h.below.trans (hO.to (by omega) (by omega)), by omega, ⟨V, e, hO.box b (by omega), own_off r hO (by omega)⟩, h.pre⟩
theorem res_two {fn : Func} {u v : Tmp} (h : fn.results = #[.tmp u, .tmp v]) (tmps : Array Value) (P : Program) (w : World) :
    (results fn tmps).run P w = .ok (.tuple #[tmps.getD u undef, tmps.getD v undef]) w := by
  simp only [results, h]
  simp [Sem.run_bind, Result.andThen]
theorem zip2' (p1 p2 : Tmp) (v1 v2 : Value) (T : Array Value) : ((#[p1, p2] : Array Tmp).zip #[v1, v2]).foldl (fun t x => match x with | (p, v) => t.setIfInBounds p v) T = (T.setIfInBounds p1 v1).setIfInBounds p2 v2 := by
  simp
set_option maxHeartbeats 4000000 in
theorem run_places (x : MC) (q : MA) (F : Nat) (w : World) (hA : McAt w x q) (hG : Good x) (hS : Shp w) (hF : F ≤ 5000) :
    Calls Tryd.prog 24 #[.agg (mcC x q).toArray, .int .i64 (F : Int)] w fun e w' => ∃ a c, e = .returned (.tuple #[.slice a (runP F x).length c, .int .i64 0]) ∧ Below w.heap.size w w' ∧ NumsAt w' a (runP F x) ∧ FarR (fun k => k < w.heap.size) a ((runP F x).map nmC) := by
  have cC := fun w hA => run_check x q F w hA hG.b
  rw [chkR_in hF, hG.e] at cC
  have hi : (Tryd.prog.info? 31).map (·.size) = some (mcC x q).length := mach_info hG.r8
  have HA : Hid (∀ w', Below w.heap.size w w' → McAt w' x q) := fun w' hb => hA.below hb
  have HS : Hid (∀ w', Below w.heap.size w w' → Shp w') := fun w' hb => hS.below hb
  have hlt := hA.lt
  have hT := hS.1
  have HM : Hid (mcC x q = mcC x q) := rfl
  obtain ⟨L, hL⟩ : ∃ L, mcC x q = L := ⟨_, rfl⟩
  have HL : Hid (mcC x q = L) := hL
  rw [hL] at cC hi ⊢
  clear hA hL HM
  obtain ⟨i0, hi0, hz0, hy0, hx0⟩ := info_ints
  refine (callsIn_wide (n := 0)).1 (callsIn_of_wp_marks Tryd.func24 rfl trivial (wpIn_wide.2 ?_) rfl)
  simp only [Tryd.ntmps24, List.size_toArray, List.length_cons, List.length_nil, Nat.reduceAdd, Nat.reduceSub, Array.replicate_succ, Array.replicate_zero, List.push_toArray, List.append_toArray, List.nil_append, List.cons_append]
  have bL := Box.new w L.toArray 31
  have hB : Below w.heap.size w (w.alloc (.cells L.toArray 31)) := (Below.refl _ _).alloc (Nat.le_refl _) _
  go_upto_region 5 with (first | ((with_reducible refine at_load ?_); refine pl_load_box (by rfl) 31 (.tmp 2) rfl w.heap.size (by rfl) L bL _ Tryd.underlying31 rfl hi ?_) | (go_at_call 39; refine (cC _ (HA.out _ hB)).mono ?_; rintro e w1 ⟨rfl, hbb⟩; replace bL := bL.below hbb; replace hB := Below.step0 hB hbb; clear hbb cC))
  obtain ⟨w2, hw2⟩ : ∃ w2, w2 = w1.alloc (.cells #[.slice none 0 0] 29) := ⟨_, rfl⟩
  rw [← hw2]
  have bL2 : Box w2 w.heap.size L.toArray := by rw [hw2]; exact bL.alloc _
  have b7 : Box w2 w1.heap.size #[.slice none 0 0] := by rw [hw2]; exact Box.new _ _ _
  have hB2 : Below w.heap.size w w2 := by rw [hw2]; exact hB.alloc hB.size _
  have hz2 : w1.heap.size + 1 ≤ w2.heap.size := by rw [hw2]; simp
  have hbz := bL.lt
  clear hw2 bL hB
  generalize w1.heap.size = B at *
  go_wp2_with (first | ((with_reducible refine at_load ?_); refine pl_load_box (by rfl) 31 (.tmp 2) rfl w.heap.size (by rfl) L bL2 _ Tryd.underlying31 rfl hi ?_) | (go_at_call 40; refine (run_steps _ _ _).mono ?_; rintro e w4 ⟨rfl, hw4⟩; have HW4 : Hid (w4 = _) := hw4; clear hw4))
  have hw4 := HW4.out
  clear HW4
  have C1 : Box w4 w2.heap.size (mcC x q).toArray := by rw [HL.out, hw4]; exact (Box.new _ _ _).alloc _
  have C2 : Box w4 (w2.heap.size + 1) #[.int .i64 (F : Int)] := by rw [hw4]; exact Box.new1 _ _ _ _
  have hB4 : Below w2.heap.size w2 w4 := by rw [hw4]; exact two _ _
  have hz4 : w2.heap.size + 2 ≤ w4.heap.size := by rw [hw4]; simp
  replace b7 := b7.below hB4
  replace hB2 := Below.step0 hB2 hB4
  have hS4 := HS.out _ hB2
  have hA4 := HA.out _ hB2
  clear hw4 hB4
  refine wp_range (gf := 53) (lb := #[.pointer (some ⟨w2.heap.size, 0, none⟩), .pointer (some ⟨w2.heap.size + 1, 0, none⟩)]) rfl (enters_of Tryd.func53 (by kernel_rfl) rfl) (enc := ddV) (fun _ => rfl) (Ad := Ad (fun _ => False) x F (w4.heap.size + 2)) (Fin := FinD x F) (Cl := ClD (fun _ => False) x q w2.heap.size (w2.heap.size + 1) (w4.heap.size + 2)) ?iter (ownV B (.slice none 0 0)) (PL w x F B w4.heap.size) ?cl ?fresh ?off ?own ?init ?round ?done
  case iter =>
    intro o
    have hb : Below w4.heap.size w4 ((w4.alloc (.deferred (some []))).alloc o) := two _ _
    have := iter_deals (fun _ => False) x q w2.heap.size (w2.heap.size + 1) F _ (hS4.below hb) (C1.below hb) ((C2.below hb).cell 0) (hA4.below hb) hG hF
    rw [show ((w4.alloc (.deferred (some []))).alloc o).heap.size = w4.heap.size + 2 by simp] at this
    exact this
  case cl =>
    have e : ∀ k, ownV B (.slice none 0 0) k → k = B := fun k hk => by rcases hk with h | h; exact h; cases h
    refine ⟨hlt.mono fun k hk => ?_, fun k hk => hk.elim, fun h => ?_, fun h => ?_, fun h => ?_, by omega⟩
    · rcases hk with h | h | h
      · have := e _ h; omega
      · omega
      · exact h.elim
    · have := e _ h; omega
    · have := e _ h; omega
    · have := e _ h; omega
  case fresh =>
    intro k hk
    rcases hk with h | h
    · omega
    · cases h
  case off =>
    intro pre own A A' k hk hI hO
    exact hI.off hO hk (by have := hB2.size; omega) (by omega)
  case own =>
    intro pre own A k hI hk
    obtain ⟨V, e, b, r⟩ := hI.v
    rw [e] at hk
    rcases hk with h | h
    · omega
    · have := (r.lt k h).1; omega
  case init =>
    intro o
    have hb : Below w4.heap.size w4 ((w4.alloc (.deferred (some []))).alloc o) := two _ _
    exact ⟨Below.step0 hB2 hb, by simp, ⟨_, rfl, b7.below hb, World.ownsRow_nil _ _ _ _⟩, dealt F x, rfl⟩
  case round =>
    rintro pre ⟨yx, yq, ye⟩ own A ⟨hbA, hszA, ⟨V, hown, vA, rA⟩, pA⟩ ⟨m1, m2, mG, r, hr⟩ hsz
    subst hown
    dsimp only [ddV] at *
    simp only [zip2', List.setIfInBounds_toArray, List.set_cons_succ, List.set_cons_zero]
    have hiy : (Tryd.prog.info? 31).map (·.size) = some (mcC yx yq).length := mach_info mG.r8
    have hO1 : Below A.heap.size A ((A.alloc (.cells z64.toArray 31)).setCells A.heap.size 0 (mcC yx yq)) := below_cells _ _ _ _ ((Below.refl _ _).alloc (Nat.le_refl _) _) (Nat.le_refl _)
    have hz1 : ((A.alloc (.cells z64.toArray 31)).setCells A.heap.size 0 (mcC yx yq)).heap.size = A.heap.size + 1 := by rw [size_cells]; simp
    gi_wp2_with (first | (refine in_alloc_row rfl 31 rfl _ _ (alloc_mach _) ?_) | (refine in_store_box rfl 31 (.tmp 8) (.tmp 19) rfl A.heap.size (mcC yx yq) rfl rfl z64.toArray (Box.new _ _ _) (by rw [List.size_toArray, z64_len, mc_length mG.r8]) hiy (mc_one _ _) ?_; intro bN; generalize (A.alloc (.cells z64.toArray 31)).setCells A.heap.size 0 (mcC yx yq) = A1 at *))
    refine ⟨((OffP.refl _ _).below hO1), fun A2 hO2 => ?_⟩
    have hs2 := hO2.size
    have vA2 := hO2.box (vA.below hO1) (show B ≠ w4.heap.size + 1 by have := hB2.size; omega)
    have rA2 := own_off (own_below rA hO1) hO2 (by omega)
    have bN2 := hO2.box bN (by omega)
    have hB2s := hB2.size
    have hbA2 : Below w.heap.size w A2 := (Below.step0 hbA hO1).trans (hO2.to (by omega) (by omega))
    have c59 : A2.cell? ⟨A.heap.size, 59, none⟩ = some (.int .i64 yx.k.a) := (bN2.cell 59).trans (mc_cells yx yq mG.r8).c3
    have hVl := rA2.lt
    have hlen : (spots (pre.map ddP)).length + 1 ≤ 5001 := by
      have h1 := spots_zeros (pre.map ddP)
      have h2 := zeros_len (pre.map ddP)
      have h3 := dealt_len F x
      rw [← hr, List.length_append, List.length_cons] at h3
      omega
    have hsp : spots ((pre ++ [(yx, yq, ye)]).map ddP) = spots (pre.map ddP) ++ (if ye = 0 then [yx.k.a] else []) := by
      rw [List.map_append]; exact spots_snoc _ _
    have hpr : ∃ r, (pre ++ [(yx, yq, ye)]).map ddP ++ r = dealt F x := ⟨r, by rw [List.map_append, List.append_assoc]; exact hr⟩
    by_cases hye : ye = 0
    · subst hye
      rw [if_pos rfl] at hsp
      have q1 := vA2.cell 0
      have q2 := vA2.free 0
      have q3 := vA2.lt
      clear bN hO1 hA4 hS4 C1 C2
      gi_wp2_with (first | (gi_at_builtin; refine wpListIn_append_at _ (by rfl) (.tmp 23) (.tmp 27) 29 (by rfl) (w4.heap.size + 3) 3 i0 _ 1 8 Tryd.underlying29 hi0 hz0 hy0 hx0 (by rfl) (by omega) V _ _ (by rfl) (rA2.alloc _) ⟨A2.heap.size, 0, none⟩ 1 1 [nmC yx.k.a] (by rfl) (by rfl) (fun j u hj => by rw [addr_add, Nat.zero_add, cell_new, List.getElem?_toArray]; exact hj) (fun u hu => by rw [List.mem_singleton.1 hu]; rfl) (by unfold maxLen; omega) (by omega) (by simp; omega) (fun V' w' r' g' hat => ?_); obtain ⟨sa, sn, sc, rfl⟩ := own_slice r'; have hBg := box_grown (vA2.alloc _) g' (fun h => by have := (hVl B h.symm).1; omega); have q4 := hBg.cell 0; have q5 := hBg.free 0; have q6 := hBg.lt; have q7 := g'.size; clear q1 q2 q3))
      have hrl := r'.lt
      have hz5 : (A2.alloc (.cells #[.int .i64 yx.k.a] 3)).heap.size = A2.heap.size + 1 := by simp
      have o1 : OffP (ownV B V) A2 w' := ((OffP.refl _ A2).alloc _).trans (offP_grown g' (fun k hk => .inr hk))
      have o2 : OffP (ownV B V) A2 (w'.setCell ⟨B, 0, none⟩ (.slice sa sn sc)) := o1.set (.inl (.inl rfl)) _
      refine ⟨o2, ownV B (.slice sa sn sc), ⟨hbA2.trans (o2.to (fun k hk h => ?_) (by omega)), by have := o2.size; omega, ⟨_, rfl, box_set1 hBg _, ?_⟩, hpr⟩, fun k hk => ?_⟩
      · rcases h with h | h
        · omega
        · have := (hVl k h).1; omega
      · rw [hsp, List.length_append, List.map_append]
        exact r'.kept (row := some B) (grown_set w' B _) (.inr (fun h => by have := (hrl B h).1; omega))
      · rcases hk with h | h
        · exact .inl (.inl h)
        · rcases hat with e | e
          · exact .inl (.inr (e ▸ h))
          · have e1 : k = (A2.alloc (.cells #[.int .i64 yx.k.a] 3)).heap.size := Option.some.inj (h.symm.trans e)
            have := (hrl k h).2
            have hz6 : (w'.setCell ⟨B, 0, none⟩ (.slice sa sn sc)).heap.size = w'.heap.size := by simp [World.setCell]
            exact .inr ⟨by omega, by omega⟩
    · rw [if_neg hye, List.append_nil] at hsp
      have gE : (ye == 0) = false := by simpa using hye
      gi_wp2
      refine ⟨OffP.refl _ _, ownV B V, ⟨hbA2, by omega, ⟨V, rfl, vA2, by rw [hsp]; exact rA2⟩, hpr⟩, fun k hk => .inl hk⟩
  case done =>
    intro xs own A A' hFin hI hO hD
    replace hI := hI.off hO (.inl rfl) (by have := hB2.size; omega) (by omega)
    obtain ⟨hbA, hszA, ⟨V, hown, vA, rA⟩, -⟩ := hI
    have hFin' : xs.map ddP = dealt F x := hFin
    rw [hFin', dealt_spots] at rA
    obtain ⟨sa, sc, rfl, hfar, hrow⟩ := own_at rA
    have HFr : Hid (FarR (fun k => k < w.heap.size) sa ((runP F x).map nmC)) := hfar.imp id fun h y hy hk => h y hy (by have := hB2.size; omega)
    clear hfar
    have q1 := vA.cell 0
    have HT := (show Hid _ from run_takeDeferred (P := Tryd.prog) hD)
    have hOd : Off w4.heap.size A' (A'.putObj w4.heap.size (.deferred none)) := (Off.refl _ _).put _
    have HR : Hid (NumsAt (A'.putObj w4.heap.size (.deferred none)) sa (runP F x)) := (hOd.toP (p := fun k => k = w4.heap.size) rfl).rowR hrow (row_not hrow hD)
    have HB : Hid (Below w.heap.size w (A'.putObj w4.heap.size (.deferred none))) := hbA.trans (hOd.to (by have := hB2.size; omega) (by have := hbA.size; omega))
    clear hrow hOd hD rA vA hbA hFin hFin' b7 C1 C2 hS4 hA4 hB2 hO
    go_wp2
    refine ⟨by simp, .inl ⟨w4.heap.size, _, rfl, HT.out, ?_⟩⟩
    exact ⟨.tuple #[.slice sa (runP F x).length sc, .int .i64 0], (res_two Tryd.results24 _ _ _).trans rfl, sa, sc, rfl, HB.out, HR.out, HFr.out⟩
end Go.Proofs.YtigkmfccbndiiaaDoor
