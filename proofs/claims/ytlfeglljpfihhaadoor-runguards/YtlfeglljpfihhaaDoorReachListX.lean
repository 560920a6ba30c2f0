/- package reach: Keys: all that is come to, each once, in order. package reach: where something may be done by keys that are held: Cells, Seals. What laws ask of lists: Has, Eq, cellsIn. -/
import Derived.Test.YtlfeglljpfihhaaDoorRows
import Derived.Test.YtlfeglljpfihhaaDoorCardBaseX
import Derived.Test.YtlfeglljpfihhaaDoorValArgX
import Derived.Test.YtlfeglljpfihhaaDoorCellChkX
import Derived.Test.YtlfeglljpfihhaaDoorMemPureX
import Derived.Test.YtlfeglljpfihhaaDoorStepRowX
import Derived.Test.YtlfeglljpfihhaaDoorStepChkX
import Derived.Test.YtlfeglljpfihhaaDoorSweepPureX
import Derived.Test.YtlfeglljpfihhaaDoorRunTopX
import Derived.Test.YtlfeglljpfihhaaDoorReachAddX
import Derived.Test.YtlfeglljpfihhaaDoorReachFindX
import Derived.Test.YtlfeglljpfihhaaDoorShelfX
import Derived.Test.YtlfeglljpfihhaaDoorReachSortX
import Derived.Test.YtlfeglljpfihhaaDoorReachSeekX
import Derived.Deep.AppendLies
import Derived.WalkKit
import Derived.ProofKit
import Derived.OpenShut
import Derived.OwnWalk
import Derived.Maps.OwnOps
import Derived.Deep.MidRow
import Derived.Deep.CutBlock
import Derived.Deep.RegionHeld3
import Derived.Test.YtlfeglljpfihhaaDoorKeyCovX
import Derived.MapKept
import Derived.Below
import Derived.Maps.OwnSet
namespace Go.Proofs.YtlfeglljpfihhaaDoor
section
open Go.ChangeShapes Go.WideShapes Go.ChangeAt Go.RowKit
set_option linter.unusedSimpArgs false
set_option linter.unusedVariables false
set_option maxRecDepth 100000


open Go.Shelf Go.Lib Go.Sort
theorem k5C_len (k : K5) : (k5C k).length = 5 := rfl
theorem k5_one (ks : List K5) : ∀ u ∈ ks.flatMap k5C, u.oneCell' = true := fun u hu => by
  obtain ⟨k, _, hv⟩ := List.mem_flatMap.1 hu
  simp only [k5C, List.mem_cons, List.not_mem_nil, or_false] at hv
  rcases hv with rfl | rfl | rfl | rfl | rfl <;> rfl
section
variable [Inhabited K5]
theorem flat_k (ks : List K5) {j : Nat} (hj : j < ks.length * 5) : (ks.flatMap k5C)[j]? = some ((flatK k5C 5 ks.toArray)[j]!) := by
  obtain ⟨k, hk⟩ : ∃ k, ks[j / 5]? = some k := ⟨_, List.getElem?_eq_getElem (by omega)⟩
  have e : j = j / 5 * 5 + j % 5 := by omega
  have h1 := flat_cell k5C_len ks (j / 5) k (j % 5) hk (by omega)
  rw [← e] at h1
  have h2 : ks.toArray[j / 5]! = k := by
    rw [Array.getElem!_eq_getD, Array.getD_eq_getD_getElem?, List.getElem?_toArray, hk]
    rfl
  rw [get_flatK _ _ _ _ (by simpa using hj), h2, h1]
  have h3 : j % 5 < (k5C k).length := by rw [k5C_len]; omega
  rw [List.getElem?_eq_getElem h3, getElem!_pos (k5C k) (j % 5) h3]
theorem holds_of {w : World} {g : Nat} {ks : List K5} (h : ∀ (j : Nat) u, (ks.flatMap k5C)[j]? = some u → w.cell? ⟨g, j, none⟩ = some u ∧ w.frozen? ⟨g, j, none⟩ = false) : HoldsK k5C 5 w g 0 ks.toArray := by
  intro j hj
  rw [size_flatK] at hj
  rw [Nat.zero_add]
  exact h j _ (flat_k ks (by simpa using hj))
theorem of_holds {w : World} {g : Nat} {ks : List K5} (h : HoldsK k5C 5 w g 0 ks.toArray) (j : Nat) (u : Value) (hj : (ks.flatMap k5C)[j]? = some u) : w.cell? ⟨g, j, none⟩ = some u := by
  have hl : j < ks.length * 5 := by
    have := (List.getElem?_eq_some_iff.1 hj).1
    rwa [flat_len k5C_len] at this
  have h1 := h j (by rw [size_flatK]; simpa using hl)
  rw [Nat.zero_add] at h1
  rw [h1.1, ← hj, flat_k ks hl]
  rfl
theorem off_sort (w : World) (blk off n : Nat) (d : Array K5) (os : Array Obj) : Off blk w (sortWorldK k5C 5 w blk off n d os) := by
  refine ⟨rfl, rfl, rfl, ?_, fun k hk hn => ?_⟩
  · unfold sortWorldK grow
    simp only [Array.size_append]
    have : (putRowK k5C 5 (Sort.ahead w n) blk off d).heap.size = w.heap.size := by unfold putRowK; rw [size_putRow]; rfl
    omega
  · unfold sortWorldK
    have hz : (putRowK k5C 5 (Sort.ahead w n) blk off d).heap.size = w.heap.size := by unfold putRowK; rw [size_putRow]; rfl
    rw [heap_grow_old _ _ (by rw [hz]; exact hk)]
    unfold putRowK putRow mapBlock
    rw [Array.getElem?_modify, if_neg (fun e => hn e.symm)]
    rfl
theorem sort_keys0 (g cap : Nat) (ks : List K5) (w : World) (hg : g < w.heap.size) (h : ∀ (j : Nat) u, (ks.flatMap k5C)[j]? = some u → w.cell? ⟨g, j, none⟩ = some u ∧ w.frozen? ⟨g, j, none⟩ = false) (hl : ks.length ≤ 1000) :
    Calls Tryd.prog 38 #[.slice (some ⟨g, 0, none⟩) ks.length cap, .func (.func 39) #[] #[]] w fun e w' => e = .returned (.tuple #[]) ∧ ∃ ks' : List K5, ks'.Perm ks ∧ ks'.Pairwise (fun a b => ¬ cmp5 b a < 0) ∧ (∀ (j : Nat) u, (ks'.flatMap k5C)[j]? = some u → w'.cell? ⟨g, j, none⟩ = some u) ∧ Off g w w' := by
  have eg : ∀ args w, (callFunc 39 args).run Tryd.prog w = .ok (.enter 39 args) w := enters_of Tryd.func39 (by kernel_rfl) rfl
  have hc : CmpLays Tryd.prog 39 #[] k5C 5 cmp5 g 0 ks.toArray.size w := fun m os dk _ x y => reach_compare x y _
  have hcon := AnyQ.slices_SortFunc Tryd.laysSort 5 Tryd.isAgg23 Tryd.sizeOf23 k5C (fun _ => rfl) (fun x v hv => by
    simp only [k5C, List.mem_cons, List.not_mem_nil, or_false] at hv
    rcases hv with rfl | rfl | rfl | rfl | rfl <;> rfl) cmp5 swo5 39 #[] g 0 cap ks.toArray w eg hc (holds_of h) hg (by simp; omega)
  have hcon' : Calls Tryd.prog 38 _ _ _ := hcon
  rw [List.size_toArray] at hcon'
  refine hcon'.mono ?_
  rintro e w' ⟨rfl, d', n, os, ⟨hsz, _, hp⟩, hs, rfl⟩
  have hsz' : d'.size = ks.length := by simpa using hsz
  have hH := holdsK_sortWorldK_c k5C 5 w g 0 ks.toArray d' n os (holds_of h) hg hsz
  refine ⟨rfl, d'.toList, ?_, ?_, fun j u hj => of_holds (ks := d'.toList) (by simpa using hH) j u hj, off_sort _ _ _ _ _ _⟩
  · have e1 : (d'.extract 0 ks.length).toList = d'.toList := by rw [← hsz', Array.extract_size]
    have e2 : (ks.toArray.extract 0 ks.length).toList = ks := by rw [show ks.length = ks.toArray.size from (List.size_toArray).symm, Array.extract_size]
    rw [e1, e2] at hp
    exact hp
  · rw [List.pairwise_iff_getElem]
    intro i j hi hj hij
    rw [Array.length_toList] at hi hj
    have h1 := hs i j (Nat.zero_le _) hij (by omega)
    rw [lt5, getElem!_pos d' i hi, getElem!_pos d' j hj] at h1
    simpa using h1
end
theorem sort_keys (g cap : Nat) (ks : List K5) (w : World) (hg : g < w.heap.size) (h : ∀ (j : Nat) u, (ks.flatMap k5C)[j]? = some u → w.cell? ⟨g, j, none⟩ = some u ∧ w.frozen? ⟨g, j, none⟩ = false) (hl : ks.length ≤ 1000) :
    Calls Tryd.prog 38 #[.slice (some ⟨g, 0, none⟩) ks.length cap, .func (.func 39) #[] #[]] w fun e w' => e = .returned (.tuple #[]) ∧ ∃ ks' : List K5, ks'.Perm ks ∧ ks'.Pairwise (fun a b => ¬ cmp5 b a < 0) ∧ (∀ (j : Nat) u, (ks'.flatMap k5C)[j]? = some u → w'.cell? ⟨g, j, none⟩ = some u) ∧ Off g w w' :=
  @sort_keys0 ⟨⟨0, 0, 0, 0, 0⟩⟩ g cap ks w hg h hl
theorem own_off {w w' : World} {base S : Nat} {e : TypeId} {size : Nat} {v : Value} {n : Nat} {xs : List Value} (h : w.ownsRow base e size v n xs) (ho : Off S w w') (hS : S < base) : w'.ownsRow base e size v n xs := by
  obtain ⟨h1, h2⟩ := h
  refine ⟨h1, ?_⟩
  rcases h2 with h2 | ⟨g, cap, cur, e1, e2, e3, e4⟩
  · exact .inl h2
  · exact .inr ⟨g, cap, cur, e1, e2, by rw [ho.block g (Array.getElem?_eq_some_iff.1 e3).1 (by omega)]; exact e3, e4⟩
theorem own_low {w w' : World} {base : Nat} {e : TypeId} {size : Nat} {v : Value} {n : Nat} {xs : List Value} (h : w.ownsRow base e size v n xs) (hb : Below w.heap.size w w') : w'.ownsRow base e size v n xs := by
  obtain ⟨h1, h2⟩ := h
  refine ⟨h1, ?_⟩
  rcases h2 with h2 | ⟨g, cap, cur, e1, e2, e3, e4⟩
  · exact .inl h2
  · exact .inr ⟨g, cap, cur, e1, e2, by rw [hb.block g (Array.getElem?_eq_some_iff.1 e3).1]; exact e3, e4⟩
theorem own_cells {w : World} {base : Nat} {e : TypeId} {size n m c g : Nat} {xs : List Value} (h : w.ownsRow base e size (.slice (some ⟨g, 0, none⟩) m c) n xs) : (base ≤ g ∧ g < w.heap.size ∧ n ≤ c ∧ c ≤ maxLen) ∧ ∀ (j : Nat) u, xs[j]? = some u → w.cell? ⟨g, j, none⟩ = some u ∧ w.frozen? ⟨g, j, none⟩ = false := by
  obtain ⟨h1, h2⟩ := h
  rcases h2 with ⟨h2, _⟩ | ⟨g', cap, cur, e1, e2, e3, e4, e5, e6, e7⟩
  · cases h2
  · simp only [Value.slice.injEq, Option.some.injEq, Addr.mk.injEq, true_and, and_true] at e1
    obtain ⟨rfl, rfl, rfl⟩ := e1
    refine ⟨⟨e2, (Array.getElem?_eq_some_iff.1 e3).1, e4, e5⟩, fun j u hj => ⟨?_, by simp [World.frozen?, e3]⟩⟩
    have hl : j < m * size := by rw [← h1]; exact (List.getElem?_eq_some_iff.1 hj).1
    rw [← e7, List.getElem?_take, if_pos hl] at hj
    simp only [World.cell?, e3]
    rw [Array.getElem?_toList] at hj
    simpa using hj
theorem KRange.grown {w w' : World} {B r n : Nat} {s left : K5 → Bool} {cnt : Nat} {row : Option Nat} (h : KRange w B r n s left cnt) (hg : w.grownBy w' row) (hB : some B ≠ row) (hr : some r ≠ row) : KRange w' B r n s left cnt := by
  obtain ⟨D, L, h1, h2, h3⟩ := h.own
  exact ⟨⟨D, L, h1.kept hg hB hr, h2, h3⟩, h.ok, h.sub⟩
theorem KRange.left_eq {w : World} {B r n : Nat} {s left : K5 → Bool} {cnt : Nat} (h : KRange w B r n s left cnt) : w.rangeLeft B r = cnt := by
  obtain ⟨D, L, h1, _⟩ := h.own
  exact h1.left_eq
theorem KRange.ne {w : World} {B r n : Nat} {s left : K5 → Bool} {cnt : Nat} (h : KRange w B r n s left cnt) : r ≠ B := by
  obtain ⟨D, L, h1, _⟩ := h.own
  exact h1.ne
theorem info_key : ∃ i, Tryd.prog.info? 23 = some i ∧ i.zero = some (.agg #[.int .i64 0, .int .i64 0, .int .i64 0, .int .i64 0, .int .i64 0]) ∧ i.size = 5 ∧ i.bytes = 40 := by
  refine ⟨_, rfl, ?_, ?_, ?_⟩ <;> kernel_rfl
set_option maxHeartbeats 4000000 in
theorem reach_keys_no (x : MC) (q : MA) (d : Bool) (w : World) (hA : McAt w x q) (hO : McB x) (h : ¬ mcE x = 0) :
    Calls Tryd.prog 16 #[.agg (mcC x q).toArray, .bool d] w fun e w' => e = .returned (.tuple #[.slice none 0 0, .int .i64 (mcE x)]) ∧ Below w.heap.size w w' := by
  have cS := fun w hA => reach_seek_no x q d w hA hO h
  have hi : (Tryd.prog.info? 31).map (·.size) = some (mcC x q).length := mach_info hO.r8
  have HA : Hid (∀ w', Below w.heap.size w w' → McAt w' x q) := fun w' hb => hA.below hb
  obtain ⟨E, hE⟩ : ∃ E, mcE x = E := ⟨_, rfl⟩
  rw [hE] at cS h ⊢
  have gE : (E != 0) = true := by simpa using h
  have hB : Below w.heap.size w (w.alloc (.cells (mcC x q).toArray 31)) := (Below.refl _ _).alloc (Nat.le_refl _) _
  have bM := Box.new w (mcC x q).toArray 31
  clear hA hE h
  generalize mcC x q = L at *
  go_enter Tryd.func16, Tryd.ntmps16
  go_wp2_with (first | ((with_reducible refine at_load ?_); refine pl_load_box (by rfl) 31 (.tmp 2) rfl w.heap.size (by rfl) L bM _ Tryd.underlying31 rfl hi ?_) | (go_at_call 37; refine (cS _ (HA.out _ hB)).mono ?_; rintro e w1 ⟨rfl, hbb⟩; replace hB := Below.step0 hB hbb; clear hbb cS bM))
  exact bodyPost_ret (v := .tuple #[.slice none 0 0, .int .i64 E]) (by simp [results, Tryd.results16, go_sem]) rfl ⟨rfl, hB.alloc hB.size _⟩
set_option maxHeartbeats 8000000 in
theorem reach_keys (x : MC) (q : MA) (d : Bool) (w : World) (hA : McAt w x q) (hO : McB x) (zm : x.m.length ≤ q.cm) (ym : q.cm ≤ maxLen) (h : mcE x = 0) :
    Calls Tryd.prog 16 #[.agg (mcC x q).toArray, .bool d] w fun e w' => ∃ a c ks, e = .returned (.tuple #[.slice a (ks : List K5).length c, .int .i64 0]) ∧ Below w.heap.size w w' ∧ RowAt w' a (ks.flatMap k5C) ∧ ks.length ≤ 500 ∧ (∀ k, k ∈ ks ↔ Has x d k) ∧ ks.Pairwise (fun a b => cmp5 a b < 0) := by
  have cS := fun w hA => reach_seek x q d w hA hO zm ym h
  have hi : (Tryd.prog.info? 31).map (·.size) = some (mcC x q).length := mach_info hO.r8
  have HA : Hid (∀ w', Below w.heap.size w w' → McAt w' x q) := fun w' hb => hA.below hb
  have hB : Below w.heap.size w (w.alloc (.cells (mcC x q).toArray 31)) := (Below.refl _ _).alloc (Nat.le_refl _) _
  have bM := Box.new w (mcC x q).toArray 31
  obtain ⟨i0, hi0, hz0, hz1, hz2⟩ := info_key
  have HR : Hid (Has x d x.k) := .rt .code
  clear hA h
  generalize mcC x q = L at *
  go_enter Tryd.func16, Tryd.ntmps16
  go_upto_region 2 with (first | ((with_reducible refine at_load ?_); refine pl_load_box (by rfl) 31 (.tmp 2) rfl w.heap.size (by rfl) L bM _ Tryd.underlying31 rfl hi ?_) | (go_at_call 37; refine (cS _ (HA.out _ hB)).mono ?_; rintro e w1 ⟨B, n, s, rfl, hM, hn, hbb, hBB⟩; replace hB := Below.step0 hB hbb; have HN : Hid (n ≤ 500 ∧ ∀ k, s k = true ↔ Has x d k) := hn; clear hbb cS bM hn))
  obtain ⟨w2, hw2⟩ : ∃ w2, w2 = w1.alloc (.cells #[.map (some B), .slice q.m x.m.length q.cm, .bool d] 80) := ⟨_, rfl⟩
  have bS : Box w2 w1.heap.size #[.map (some B), .slice q.m x.m.length q.cm, .bool d] := by rw [hw2]; exact Box.new _ _ _
  have hB1 : Below w1.heap.size w1 w2 := by rw [hw2]; exact (Below.refl _ _).alloc (Nat.le_refl _) _
  replace hM := hM.below hB1
  replace hB := Below.step0 hB hB1
  have hBl := hM.lt
  have hl1 := hB.size
  have qS := bS.cell
  rw [← hw2]
  clear hw2 hB1
  go_wp2_with (at_range; refine wpK_range _ rfl _ 78 rfl _ Tryd.underlying78 B n s rfl hM ?_; intro w3 cnt hrg hcn hb3 hs3)
  go_frame
  have hrB : w2.heap.size ≠ B := by omega
  have hwr : w.heap.size ≤ w2.heap.size := hl1
  have hB3 : Below w.heap.size w w3 := Below.step0 hB hb3
  have h23 : w2.heap.size < w3.heap.size := by omega
  have hB3w : B < w3.heap.size := by omega
  have h3w : w.heap.size ≤ w3.heap.size := by omega
  clear hM hB hl1 bS qS hb3 hs3
  go_loopw [8] (fun v wr => ∃ (ks : List K5) (left : K5 → Bool) (cnt : Nat), wr.ownsRow w3.heap.size 23 5 v ks.length (ks.flatMap k5C) ∧ KRange wr B w2.heap.size n s left cnt ∧ ks.length + cnt ≤ n ∧ (∀ k, k ∈ ks ↔ s k = true ∧ left k = false) ∧ ks.Nodup ∧ Below w.heap.size w wr ∧ w3.heap.size ≤ wr.heap.size) (fun _ wr => wr.rangeLeft B w2.heap.size)
  case atStart => exact ⟨[], s, cnt, World.ownsRow_nil w3 _ _ _, hrg, by simpa using hcn, fun k => by simp, List.nodup_nil, hB3, Nat.le_refl _⟩
  case round =>
    clear hrg hcn hB3
    obtain ⟨ks, left, cnt, hown, hrg, hc, hks, hnd, hBw, hsw⟩ := hrel
    have hcl := hrg.left_eq
    have HK : Hid (∀ k, k ∈ ks ↔ s k = true ∧ left k = false) := hks
    have HD : Hid ks.Nodup := hnd
    clear hks hnd
    go_wp2_with (at_next; refine wpK_next _ rfl _ rfl B w2.heap.size n s left cnt rfl hrg ?_ ?_)
    · intro hl
      have hk0 : x.k ∈ ks := (HK.out x.k).2 ⟨(HN.out.2 x.k).2 HR.out, hl x.k⟩
      have hpos : 0 < ks.length := List.length_pos_of_mem hk0
      obtain ⟨g, cap, rfl⟩ : ∃ g cap, u8 = .slice (some ⟨g, 0, none⟩) ks.length cap := by
        rcases hown.2 with ⟨_, h0⟩ | ⟨g, cap, cur, e, _⟩
        · omega
        · exact ⟨g, cap, e⟩
      obtain ⟨⟨o1, o2, o3, o4⟩, hcell⟩ := own_cells hown
      have hn5 := HN.out.1
      have cQ := sort_keys g cap ks wr o2 hcell (by omega)
      have hgw : w.heap.size ≤ g := by omega
      clear hrg hcl hcell hown o1 o3 o4
      go_upto_region 10 with (go_at_call 38; refine cQ.mono ?_; rintro e w5 ⟨rfl, ks', hp, hsort, hrow, hoff⟩)
      have hlen := hp.length_eq
      go_wp2
      refine bodyPost_ret (v := .tuple #[.slice (some ⟨g, 0, none⟩) ks.length cap, .int .i64 0]) (by simp [results, Tryd.results16, go_sem]) rfl ?_
      have hB5 : Below w.heap.size w w5 := hBw.trans (hoff.to hgw (Nat.le_of_lt o2))
      have hsrt : ks'.Pairwise (fun a b => cmp5 a b < 0) := by
        have hnd : ks'.Pairwise (fun a b => a ≠ b) := hp.nodup_iff.2 HD.out
        refine (List.Pairwise.and hsort hnd).imp fun {a b} h => ?_
        by_cases h1 : cmp5 a b < 0
        · exact h1
        · exact absurd (cmp5_one h1 (by have := h.1; omega)) h.2
      have hmem : ∀ k, k ∈ ks' ↔ Has x d k := fun k => by
        rw [hp.mem_iff, HK.out k, ← HN.out.2 k]
        exact ⟨fun h => h.1, fun h => ⟨h, hl k⟩⟩
      have hra : RowAt w5 (some ⟨g, 0, none⟩) (ks'.flatMap k5C) := .inr ⟨g, 0, rfl, Nat.lt_of_lt_of_le o2 hoff.size, fun j u hj => by rw [Nat.zero_add]; exact hrow j u hj⟩
      exact ⟨some ⟨g, 0, none⟩, cap, ks', by rw [hlen], hB5, hra, by omega, hmem, hsrt⟩
    · intro k w4 left' cnt' hk hlk hrg1 hleft hlt hof hs4 hen
      dsimp only [kV5] at hen ⊢
      have HF : Hid (∀ j, left' j = true ↔ left j = true ∧ j ≠ k) := hleft
      have hown4 := own_off hown hof h23
      have hs5 : w3.heap.size ≤ w4.heap.size := by omega
      have hB4 : Below w.heap.size w w4 := hBw.trans (hof.to hwr (by omega))
      have hb2 := two (w := w4) (.cells #[.int .i64 k.p, .int .i64 k.b, .int .i64 k.l, .int .i64 k.a, .int .i64 k.s] 23) (.cells #[.int .i64 k.p, .int .i64 k.b, .int .i64 k.l, .int .i64 k.a, .int .i64 k.s] 23)
      have hrg2 : KRange ((w4.alloc (.cells #[.int .i64 k.p, .int .i64 k.b, .int .i64 k.l, .int .i64 k.a, .int .i64 k.s] 23)).alloc (.cells #[.int .i64 k.p, .int .i64 k.b, .int .i64 k.l, .int .i64 k.a, .int .i64 k.s] 23)) B w2.heap.size n s left' cnt' := hrg1.below hb2
      have hB5 := Below.step0 hB4 hb2
      have HO : Hid (s k = true ∧ left k = true) := ⟨hrg.sub k hlk, hlk⟩
      have h5w : w.heap.size ≤ w4.heap.size := by omega
      clear hleft hlk hrg1 hB4 hBw hown hb2 hrg hs4 hof
      go_wp2_with (at_builtin; refine wpList_append_lies _ rfl _ _ _ rfl w3.heap.size 23 i0 _ 5 40 Tryd.underlying44 hi0 hz0 hz1 hz2 rfl (by omega) _ ks.length _ rfl ((hown4.alloc _).alloc _) ⟨w4.heap.size + 1, 0, none⟩ 1 1 (k5C k) rfl rfl ?c1 ?c2 (by omega) ?c3 ?c4 ?c5 _ rfl ?_)
      case c1 =>
        refine World.news_of_block (cs := #[.int .i64 k.p, .int .i64 k.b, .int .i64 k.l, .int .i64 k.a, .int .i64 k.s]) (t := 23) (fr := (0, 0)) ?_
        have := heap_alloc_new (w4.alloc (.cells #[.int .i64 k.p, .int .i64 k.b, .int .i64 k.l, .int .i64 k.a, .int .i64 k.s] 23)) (.cells #[.int .i64 k.p, .int .i64 k.b, .int .i64 k.l, .int .i64 k.a, .int .i64 k.s] 23)
        rwa [World.size_alloc] at this
      case c2 =>
        intro u hu
        simp only [k5C, List.mem_cons, List.not_mem_nil, or_false] at hu
        rcases hu with rfl | rfl | rfl | rfl | rfl <;> rfl
      case c3 => have := HN.out.1; unfold maxLen; omega
      case c4 => have := HN.out.1; omega
      case c5 => simp; omega
      intro g cap w5 hown5 hgrow hat hlt5
      have hB6 : Below w.heap.size w w5 := Below.grown hB5 hgrow (by simp; omega) (fun j hj => by have := (hown4.lt j hj).1; omega)
      have hrg5 : KRange w5 B w2.heap.size n s left' cnt' := hrg2.grown hgrow (fun e => by have := (hown4.lt _ e.symm).1; omega) (fun e => by have := (hown4.lt _ e.symm).1; omega)
      have hs6 : w3.heap.size ≤ w5.heap.size := by have := hgrow.size; simp at this; omega
      clear hown4 hB5 hrg2 hgrow hat
      go_wp2
      go_roundw
      case rel =>
        refine ⟨ks ++ [k], left', cnt', ?_, hrg5, by rw [List.length_append]; simp; omega, fun j => ?_, ?_, hB6, hs6⟩
        · rw [List.length_append, List.flatMap_append, List.flatMap_cons, List.flatMap_nil, List.append_nil]
          exact hown5
        · have hj := HF.out j
          have hkj := HK.out j
          rw [List.mem_append, List.mem_singleton, hkj]
          by_cases e : j = k
          · subst e
            have : left' j = false := by
              cases h : left' j
              · rfl
              · exact absurd rfl (hj.1 h).2
            simp [this, HO.out.1]
          · have : left' j = left j := by
              cases h : left j
              · cases h' : left' j
                · rfl
                · rw [(hj.1 h').1] at h; cases h
              · exact hj.2 ⟨h, e⟩
            simp [this, e]
        · rw [List.nodup_append]
          refine ⟨HD.out, by simp, fun a ha b hb => ?_⟩
          rw [List.mem_singleton] at hb
          subst hb
          intro e
          subst e
          have := ((HK.out a).1 ha).2
          rw [HO.out.2] at this
          cases this
      case measure => rw [hrg5.left_eq]; omega
end
section
open Go.ChangeShapes Go.WideShapes Go.ChangeAt Go.RowKit
set_option linter.unusedSimpArgs false
set_option linter.unusedVariables false
set_option maxRecDepth 100000


open Go.Shelf Go.Lib
/-- Those of n numbers from f on that b takes. -/
def filtN (b : Int → Bool) (f : Int) : Nat → List Int
  | 0 => []
  | n + 1 => if b (f + n) = true then filtN b f n ++ [f + (n : Int)] else filtN b f n
theorem filt_len (b : Int → Bool) (f : Int) : ∀ n, (filtN b f n).length ≤ n
  | 0 => Nat.le_refl _
  | n + 1 => by
    have := filt_len b f n
    unfold filtN
    split
    · rw [List.length_append]; simp; omega
    · omega
theorem filt_mem (b : Int → Bool) (f : Int) (j : Int) : ∀ n : Nat, j ∈ filtN b f n ↔ b j = true ∧ f ≤ j ∧ j < f + n
  | 0 => by
    constructor
    · intro h; cases h
    · rintro ⟨_, h2, h3⟩; omega
  | n + 1 => by
    have ih := filt_mem b f j n
    unfold filtN
    by_cases h : b (f + n) = true
    · rw [if_pos h, List.mem_append, List.mem_singleton, ih]
      constructor
      · rintro (⟨h1, h2, h3⟩ | rfl)
        · exact ⟨h1, h2, by omega⟩
        · exact ⟨h, by omega, by omega⟩
      · rintro ⟨h1, h2, h3⟩
        by_cases e : j = f + n
        · exact .inr e
        · exact .inl ⟨h1, h2, by omega⟩
    · rw [if_neg h, ih]
      constructor
      · rintro ⟨h1, h2, h3⟩; exact ⟨h1, h2, by omega⟩
      · rintro ⟨h1, h2, h3⟩
        refine ⟨h1, h2, ?_⟩
        by_cases e : j = f + n
        · rw [e] at h1; exact absurd h1 h
        · omega
set_option maxHeartbeats 1000000 in
theorem reach_cover (k : K5) (x : Int) (A : Nat) (w : World) (hk : k5b k) (hx : -9223372036854775808 ≤ x ∧ x ≤ 9223372036854775807) (hA : Box w A #[.int .i64 x]) :
    Calls Tryd.prog 70 #[kV5 k, .pointer (some ⟨A, 0, none⟩)] w fun e w' => e = .returned (.bool (covB k.b k.l x)) ∧ Below w.heap.size w w' := by
  have cV := fun W => keys_covers k.p k.b k.l k.a k.s x W hk hx
  have q1 := hA.cell
  have l1 := hA.lt
  have hB : Below w.heap.size w (w.alloc (.cells #[.int .i64 k.p, .int .i64 k.b, .int .i64 k.l, .int .i64 k.a, .int .i64 k.s] 23)) := (Below.refl _ _).alloc (Nat.le_refl _) _
  unfold kV5
  generalize covB k.b k.l x = R at *
  clear hA
  go_enter Tryd.func70, Tryd.ntmps70
  go_wp2_with (go_at_call 71; refine (cV _).mono ?_; rintro e w1 ⟨rfl, hbb⟩)
  go_ret
  exact ⟨rfl, Below.step0 hB hbb⟩
theorem idx_empty (a : Option Addr) (c : Nat) (fv : Value) (w : World) : Calls Tryd.prog 116 #[.slice a 0 c, fv] w fun e w' => e = .returned (.int .i64 (-1)) ∧ w' = w := by
  go_enter Tryd.func116, Tryd.ntmps116
  go_wp2
  refine wp_loop_rounds 1 ?_
  rw [rounds_succ]
  go_wp2
  go_ret
  exact ⟨rfl, rfl⟩
theorem cont_empty (a : Option Addr) (c : Nat) (fv : Value) (w : World) : Calls Tryd.prog 69 #[.slice a 0 c, fv] w fun e w' => e = .returned (.bool false) ∧ w' = w := by
  have cI := fun W => idx_empty a c fv W
  go_enter Tryd.func69, Tryd.ntmps69
  go_wp2_with (go_at_call 116; refine (cI _).mono ?_; rintro e w1 ⟨rfl, rfl⟩)
  go_ret
  exact ⟨rfl, rfl⟩
theorem any_pmap (f : K5 → Bool) : ∀ (ks : List K5) (h : ∀ k ∈ ks, k5b k), (ks.pmap Subtype.mk h).any (fun z => f z.1) = ks.any f
  | [], _ => rfl
  | k :: ks, h => by rw [List.pmap_cons, List.any_cons, List.any_cons, any_pmap f ks]
section
variable [Inhabited {k : K5 // k5b k}]
theorem cont_keys0 (g cap A : Nat) (ks : List K5) (x : Int) (w : World) (hk : ∀ k ∈ ks, k5b k) (hx : -9223372036854775808 ≤ x ∧ x ≤ 9223372036854775807) (hA : Box w A #[.int .i64 x]) (hg : g < w.heap.size) (hl : ks.length ≤ 1000)
    (h : ∀ (j : Nat) u, (ks.flatMap k5C)[j]? = some u → w.cell? ⟨g, j, none⟩ = some u) :
    Calls Tryd.prog 69 #[.slice (some ⟨g, 0, none⟩) ks.length cap, .func (.func 70) #[] #[.pointer (some ⟨A, 0, none⟩)]] w fun e w' => e = .returned (.bool (ks.any fun k => covB k.b k.l x)) ∧ Below w.heap.size w w' := by
  have eg : ∀ args w, (callFunc 70 args).run Tryd.prog w = .ok (.enter 70 args) w := enters_of Tryd.func70 (by kernel_rfl) rfl
  have hzl : (ks.pmap Subtype.mk hk).length = ks.length := by simp
  have hcon := AnyQ.slices_ContainsFunc Tryd.laysCont 5 Tryd.isAgg23 Tryd.sizeOf23 (fun z : {k : K5 // k5b k} => k5C z.1) (fun _ => rfl) (fun z => covB z.1.b z.1.l x) 70 #[.pointer (some ⟨A, 0, none⟩)] eg g 0 ks.length cap (ks.pmap Subtype.mk hk) w
    (fun W z hW => (reach_cover z.1 x A W z.2 hx (hA.below hW)).mono fun e w' ⟨he, hb⟩ => ⟨he, Below.step0 hW hb⟩) (by omega) (by omega) hg (fun j hj i v hv => by
      rw [hzl] at hj
      rw [getElem!_pos (ks.pmap Subtype.mk hk) j (by omega), List.getElem_pmap] at hv
      have hi : i < 5 := (List.getElem?_eq_some_iff.1 hv).1
      rw [Nat.zero_add]
      refine h _ v ?_
      rw [flat_cell k5C_len ks j ks[j] i (List.getElem?_eq_getElem hj) hi]
      exact hv)
  have hcon' : Calls Tryd.prog 69 _ _ _ := hcon
  rw [List.take_of_length_le (by omega), any_pmap (fun k => covB k.b k.l x)] at hcon'
  exact hcon'
end
theorem cont_keys (v : Value) (A : Nat) (ks : List K5) (x : Int) (w : World) (hk : ∀ k ∈ ks, k5b k) (hx : -9223372036854775808 ≤ x ∧ x ≤ 9223372036854775807) (hA : Box w A #[.int .i64 x]) (hl : ks.length ≤ 1000)
    (base : Nat) (h : w.ownsRow base 23 5 v ks.length (ks.flatMap k5C)) :
    Calls Tryd.prog 69 #[v, .func (.func 70) #[] #[.pointer (some ⟨A, 0, none⟩)]] w fun e w' => e = .returned (.bool (ks.any fun k => covB k.b k.l x)) ∧ Below w.heap.size w w' := by
  rcases h.2 with ⟨rfl, h0⟩ | ⟨g, cap, cur, rfl, _⟩
  · obtain rfl := List.length_eq_zero_iff.1 h0
    exact (cont_empty none 0 _ w).mono fun e w' ⟨he, hw⟩ => ⟨he, by rw [hw]; exact Below.refl _ _⟩
  · obtain ⟨⟨o1, o2, o3, o4⟩, hc⟩ := own_cells h
    exact @cont_keys0 ⟨⟨⟨0, 0, 0, 0, 0⟩, by simp [k5b, kb]⟩⟩ g cap A ks x w hk hx hA o2 hl fun j u hj => (hc j u hj).1
theorem info_int1 : ∃ i, Tryd.prog.info? 3 = some i ∧ i.zero = some (.int .i64 0) ∧ i.size = 1 ∧ i.bytes = 8 := by
  refine ⟨_, rfl, ?_, ?_, ?_⟩ <;> kernel_rfl
theorem own_mono {w : World} {base base' : Nat} {e : TypeId} {size : Nat} {v : Value} {n : Nat} {xs : List Value} (h : w.ownsRow base e size v n xs) (hb : base' ≤ base) : w.ownsRow base' e size v n xs := by
  obtain ⟨h1, h2⟩ := h
  refine ⟨h1, ?_⟩
  rcases h2 with h2 | ⟨g, cap, cur, e1, e2, e3⟩
  · exact .inl h2
  · exact .inr ⟨g, cap, cur, e1, Nat.le_trans hb e2, e3⟩
def deref (w : World) (v : Value) : Value := match v with | .pointer (some a) => (w.cell? a).getD undef | _ => undef
theorem own_ne {w : World} {base A : Nat} {e : TypeId} {size : Nat} {v : Value} {n : Nat} {xs : List Value} (h : w.ownsRow base e size v n xs) (hA : w.heap.size ≤ A) : some A ≠ v.ownBlock := fun e => by
  have := (h.lt A e.symm).2
  omega
theorem box_grown {W w1 : World} {row : Option Nat} {k : Nat} {c : Array Value} (h : Box W k c) (hg : W.grownBy w1 row) (hne : some k ≠ row) : Box w1 k c :=
  ⟨Nat.lt_of_lt_of_le h.1 hg.size, fun o => by rw [hg.cell_far ⟨k, o, none⟩ h.1 hne]; exact h.2.1 o, fun o => by rw [hg.frozen_far ⟨k, o, none⟩ h.1 hne]; exact h.2.2 o⟩
set_option maxHeartbeats 8000000 in
theorem reach_places (B n : Nat) (s : K5 → Bool) (sm : Option Addr) (len cm : Nat) (d : Bool) (p : Int) (f : Int) (m : Nat) (w : World) (hM : KMap w B n s) (hn : n ≤ 500) (hf : 0 ≤ f ∧ f + m ≤ 1000) :
    Calls Tryd.prog 41 #[.agg #[.map (some B), .slice sm len cm, .bool d], .int .i64 p, .int .i64 f, .int .i64 (f + (m : Int))] w fun e w' => ∃ v b, e = .returned v ∧ Below w.heap.size w w' ∧ w'.ownsRow w.heap.size 3 1 v (filtN b f m).length ((filtN b f m).map nmC) ∧ ∀ j, b j = true ↔ ∃ k, s k = true ∧ srvB d k p = true ∧ covB k.b k.l j = true := by
  have cV := fun k W => reach_serves (.map (some B)) sm len cm d k p W
  obtain ⟨i0, hi0, hz0, hz1, hz2⟩ := info_key
  obtain ⟨j0, hj0, y0, y1, y2⟩ := info_int1
  have hBl := hM.lt
  have hB1 : Below w.heap.size w (w.alloc (.cells #[.map (some B), .slice sm len cm, .bool d] 80)) := (Below.refl _ _).alloc (Nat.le_refl _) _
  replace hM := hM.below hB1
  have bS := Box.new w #[.map (some B), .slice sm len cm, .bool d] 80
  obtain ⟨w2, hw2⟩ : ∃ w2, w2 = w.alloc (.cells #[.map (some B), .slice sm len cm, .bool d] 80) := ⟨_, rfl⟩
  have hs2 : w.heap.size < w2.heap.size := by rw [hw2]; simp
  rw [← hw2] at hM hB1 bS
  unfold kV5 at cV
  go_enter Tryd.func41, Tryd.ntmps41
  go_upto_region 2 with fail
  rw [← hw2]
  clear hw2
  have qS := bS.cell
  go_wp2_with (at_range; refine wpK_range _ rfl _ 78 rfl _ Tryd.underlying78 B n s rfl hM ?_; intro w3 cnt hrg hcn hb3 hs3)
  go_frame
  have bS3 := bS.below hb3
  have hB3 : Below w.heap.size w w3 := Below.step0 hB1 hb3
  have h23 : w2.heap.size < w3.heap.size := by omega
  have hB3w : B < w2.heap.size := by omega
  have h3w : w.heap.size ≤ w3.heap.size := by omega
  clear hM bS qS hb3 hs3 hB1
  go_loopw [9] (fun v wr => ∃ (ks : List K5) (left : K5 → Bool) (cnt : Nat), wr.ownsRow w3.heap.size 23 5 v ks.length (ks.flatMap k5C) ∧ KRange wr B w2.heap.size n s left cnt ∧ ks.length + cnt ≤ n ∧ (∀ k, k ∈ ks ↔ (s k = true ∧ left k = false) ∧ srvB d k p = true) ∧ Below w.heap.size w wr ∧ w3.heap.size ≤ wr.heap.size ∧ Box wr w.heap.size #[.map (some B), .slice sm len cm, .bool d]) (fun _ wr => wr.rangeLeft B w2.heap.size)
  case atStart => exact ⟨[], s, cnt, World.ownsRow_nil w3 _ _ _, hrg, by simpa using hcn, fun k => by simp, hB3, Nat.le_refl _, bS3⟩
  case round =>
    clear hrg hcn hB3 bS3
    obtain ⟨ks, left, cnt, hown, hrg, hc, hks, hBw, hsw, bS⟩ := hrel
    have hcl := hrg.left_eq
    have hok := hrg.ok
    have HK : Hid (∀ k, k ∈ ks ↔ (s k = true ∧ left k = false) ∧ srvB d k p = true) := hks
    clear hks
    have HOK : Hid (∀ k, s k = true → k5b k) := hok
    clear hok
    go_wp2_with (at_next; refine wpK_next _ rfl _ rfl B w2.heap.size n s left cnt rfl hrg ?_ ?_)
    · intro hl
      have hkb : ∀ k ∈ ks, k5b k := fun k hk => HOK.out k ((HK.out k).1 hk).1.1
      have hn5 : ks.length ≤ 1000 := by omega
      have HB : Hid (∀ j, (ks.any fun k => covB k.b k.l j) = true ↔ ∃ k, s k = true ∧ srvB d k p = true ∧ covB k.b k.l j = true) := by
        show ∀ j, _
        intro j
        rw [List.any_eq_true]
        constructor
        · rintro ⟨k, hk, h⟩
          have := (HK.out k).1 hk
          exact ⟨k, this.1.1, this.2, h⟩
        · rintro ⟨k, h1, h2, h3⟩
          exact ⟨k, (HK.out k).2 ⟨⟨h1, hl k⟩, h2⟩, h3⟩
      have cC := fun x W (hx : -9223372036854775808 ≤ x ∧ x ≤ 9223372036854775807) A hA hO => cont_keys u9 A ks x W hkb hx hA hn5 w3.heap.size hO
      clear hrg hcl HOK cV bS
      obtain ⟨b, hb⟩ : ∃ b : Int → Bool, b = fun j => ks.any fun k => covB k.b k.l j := ⟨_, rfl⟩
      have cC' : ∀ x W, (-9223372036854775808 ≤ x ∧ x ≤ 9223372036854775807) → ∀ A, Box W A #[.int .i64 x] → W.ownsRow w3.heap.size 23 5 u9 ks.length (ks.flatMap k5C) → Calls Tryd.prog 69 #[u9, .func (.func 70) #[] #[.pointer (some ⟨A, 0, none⟩)]] W fun e w' => e = .returned (.bool (b x)) ∧ Below W.heap.size W w' := by
        intro x W hx A hA hO
        rw [hb]
        exact cC x W hx A hA hO
      have HB' : Hid (∀ j, b j = true ↔ ∃ k, s k = true ∧ srvB d k p = true ∧ covB k.b k.l j = true) := by
        show ∀ j, _
        rw [hb]
        exact HB.out
      clear hb cC HB HK hkb hl
      go_upto_region 9 with fail
      obtain ⟨w9, hw9⟩ : ∃ w9, w9 = wr.alloc (.cells #[.int .i64 f] 3) := ⟨_, rfl⟩
      have bA : Box w9 wr.heap.size #[.int .i64 (f + ((0 : Nat) : Int))] := by rw [hw9]; simpa using Box.new wr #[.int .i64 f] 3
      have hb9 : Below wr.heap.size wr w9 := by rw [hw9]; exact (Below.refl _ _).alloc (Nat.le_refl _) _
      have own9 := own_low hown hb9
      have hB9 := Below.step0 hBw hb9
      have h9w : w.heap.size ≤ w9.heap.size := hB9.size
      rw [← hw9]
      clear hw9 hb9 hown hBw
      go_loopw [11, 12] (fun v q wq => ∃ (i A : Nat), i ≤ m ∧ q = .pointer (some ⟨A, 0, none⟩) ∧ Box wq A #[.int .i64 (f + (i : Int))] ∧ wq.ownsRow w9.heap.size 3 1 v (filtN b f i).length ((filtN b f i).map nmC) ∧ some A ≠ v.ownBlock ∧ Below w9.heap.size w9 wq) (fun _ q wq => (f + (m : Int) - intOf (deref wq q)).toNat)
      case atStart => exact ⟨0, wr.heap.size, Nat.zero_le _, rfl, bA, World.ownsRow_nil w9 _ _ _, (fun e => by cases e), Below.refl _ _⟩
      case round =>
        clear bA
        obtain ⟨i, A, hi, rfl, bA, own, hne, hB⟩ := hrel
        have qA := bA.cell
        have lA := bA.lt
        have hsz := hB.size
        have HO9 : Hid (wr.ownsRow w3.heap.size 23 5 u9 ks.length (ks.flatMap k5C)) := own_low own9 hB
        by_cases hlt : i < m
        · have g1 : f + (i : Int) < f + (m : Int) := by omega
          have hw1 : IntKind.i64.wrap (f + (i : Int) + 1) = f + (i : Int) + 1 := by rw [IntKind.wrap_i64]; omega
          have cK := cC' (f + (i : Int)) wr (by omega) A bA HO9.out
          have hfl := filt_len b f i
          have HM : Hid (deref wr (.pointer (some ⟨A, 0, none⟩)) = .int .i64 (f + (i : Int))) := by
            show (wr.cell? ⟨A, 0, none⟩).getD undef = _
            rw [qA]
            rfl
          cases hbb : b (f + (i : Int))
          · rw [hbb] at cK
            have hfe : filtN b f (i + 1) = filtN b f i := by
              show (if b (f + i) = true then _ else _) = _
              rw [hbb]
              rfl
            go_upto_region 13 with (go_at_call 69; refine cK.mono ?_; rintro e w10 ⟨rfl, hb10⟩; have qA2 := (bA.below hb10).cell; have lA2 := (bA.below hb10).lt; have hS10 := hb10.size)
            have own10 := own_low own hb10
            have hB10 := hB.trans (hb10.mono hsz)
            obtain ⟨w11, hw11⟩ : ∃ w11, w11 = w10.alloc (.cells #[.int .i64 (f + (i : Int) + 1)] 3) := ⟨_, rfl⟩
            have bA1 : Box w11 w10.heap.size #[.int .i64 (f + ((i + 1 : Nat) : Int))] := by rw [hw11]; have := Box.new w10 #[.int .i64 (f + (i : Int) + 1)] 3; rw [show f + ((i + 1 : Nat) : Int) = f + (i : Int) + 1 by omega]; exact this
            have hb11 : Below w10.heap.size w10 w11 := by rw [hw11]; exact (Below.refl _ _).alloc (Nat.le_refl _) _
            have own11 := own_low own10 hb11
            have hne11 : some w10.heap.size ≠ u11.ownBlock := own_ne own10 (Nat.le_refl _)
            have hB11 := hB10.trans (hb11.mono hB10.size)
            clear cK bA own hne hB HO9 cC' own9 qA lA hb10
            go_wp2
            go_roundw
            case rel =>
              rw [hw11] at bA1 own11 hB11
              exact ⟨i + 1, w10.heap.size, by omega, rfl, bA1, by rw [hfe]; exact own11, hne11, hB11⟩
            case measure =>
              rw [HM.out, ← hw11, show deref w11 (.pointer (some ⟨w10.heap.size, 0, none⟩)) = .int .i64 (f + ((i + 1 : Nat) : Int)) from by
                show (w11.cell? ⟨w10.heap.size, 0, none⟩).getD undef = _
                rw [bA1.cell]
                rfl]
              simp only [intOf]
              omega
          · rw [hbb] at cK
            have hfe : filtN b f (i + 1) = filtN b f i ++ [f + (i : Int)] := by
              show (if b (f + i) = true then _ else _) = _
              rw [hbb]
              rfl
            go_upto_region 12 with (go_at_call 69; refine cK.mono ?_; rintro e w10 ⟨rfl, hb10⟩; have bA2 := bA.below hb10; have qA2 := bA2.cell; have lA2 := bA2.lt; have hS10 := hb10.size)
            have own10 := own_low own hb10
            have hB10 := hB.trans (hb10.mono hsz)
            have hs10 : w9.heap.size ≤ w10.heap.size := by omega
            have bA3 := bA2.alloc (.cells #[.int .i64 (f + (i : Int))] 3)
            have hB11 := hB10.alloc hs10 (.cells #[.int .i64 (f + (i : Int))] 3)
            clear cK bA own hB HO9 cC' own9 qA lA hb10
            go_wp2_with (at_builtin; refine wpList_append_lies _ rfl _ _ _ rfl w9.heap.size 3 j0 _ 1 8 Tryd.underlying29 hj0 y0 y1 y2 rfl (by omega) _ (filtN b f i).length _ rfl (own10.alloc _) ⟨w10.heap.size, 0, none⟩ 1 1 [.int .i64 (f + (i : Int))] rfl rfl ?c1 ?c2 (by omega) ?c3 ?c4 ?c5 _ rfl ?_)
            case c1 => exact World.news_of_block (cs := #[.int .i64 (f + (i : Int))]) (t := 3) (fr := (0, 0)) (heap_alloc_new w10 (.cells #[.int .i64 (f + (i : Int))] 3))
            case c2 =>
              intro u hu
              rw [List.mem_singleton] at hu
              subst hu
              rfl
            case c3 => unfold maxLen; omega
            case c4 => omega
            case c5 => simp; omega
            intro g cap w12 own12 hgrow hat hlt12
            have hB12 : Below w9.heap.size w9 w12 := Below.grown hB11 hgrow (by simp; omega) (fun j hj => (own10.lt j hj).1)
            have bA12 := box_grown bA3 hgrow hne
            have qA12 := bA12.cell
            have lA12 := bA12.lt
            have hs12 := hB12.size
            obtain ⟨w13, hw13⟩ : ∃ w13, w13 = w12.alloc (.cells #[.int .i64 (f + (i : Int) + 1)] 3) := ⟨_, rfl⟩
            have bA1 : Box w13 w12.heap.size #[.int .i64 (f + ((i + 1 : Nat) : Int))] := by rw [hw13]; have := Box.new w12 #[.int .i64 (f + (i : Int) + 1)] 3; rw [show f + ((i + 1 : Nat) : Int) = f + (i : Int) + 1 by omega]; exact this
            have hb13 : Below w12.heap.size w12 w13 := by rw [hw13]; exact (Below.refl _ _).alloc (Nat.le_refl _) _
            have own13 := own_low own12 hb13
            have hne13 : some w12.heap.size ≠ (Value.slice (some ⟨g, 0, none⟩) ((filtN b f i).length + 1) cap).ownBlock := own_ne own12 (Nat.le_refl _)
            have hB13 := hB12.trans (hb13.mono hs12)
            clear own10 hB11 hgrow hat bA3 bA12 hne qA2 lA2 bA2 hB12 own12
            go_wp2
            go_roundw
            case rel =>
              rw [hw13] at bA1 own13 hB13
              refine ⟨i + 1, w12.heap.size, by omega, rfl, bA1, ?_, hne13, hB13⟩
              rw [hfe, List.length_append, List.map_append]
              exact own13
            case measure =>
              rw [HM.out, ← hw13, show deref w13 (.pointer (some ⟨w12.heap.size, 0, none⟩)) = .int .i64 (f + ((i + 1 : Nat) : Int)) from by
                show (w13.cell? ⟨w12.heap.size, 0, none⟩).getD undef = _
                rw [bA1.cell]
                rfl]
              simp only [intOf]
              omega
        · obtain rfl : i = m := by omega
          have g1 : ¬ f + (i : Int) < f + (i : Int) := by omega
          have hBw : Below w.heap.size w wr := hB9.trans (hB.mono h9w)
          have ownw := own_mono own h9w
          clear cC'
          go_wp2
          go_ret
          exact ⟨u11, rfl, hBw, b, ownw, HB'.out⟩
    · intro k w4 left' cnt' hk hlk hrg1 hleft hlt hof hs4 hen
      have cVk := cV k
      dsimp only [kV5] at hen ⊢
      have HF : Hid (∀ j, left' j = true ↔ left j = true ∧ j ≠ k) := hleft
      have hown4 := own_off hown hof h23
      have hs5 : w3.heap.size ≤ w4.heap.size := by omega
      have hB4 : Below w.heap.size w w4 := hBw.trans (hof.to (Nat.le_of_lt hs2) (by omega))
      have bS4 := (hof.box bS (by omega)).alloc (.cells #[.int .i64 k.p, .int .i64 k.b, .int .i64 k.l, .int .i64 k.a, .int .i64 k.s] 23)
      have hb1 : Below w4.heap.size w4 (w4.alloc (.cells #[.int .i64 k.p, .int .i64 k.b, .int .i64 k.l, .int .i64 k.a, .int .i64 k.s] 23)) := (Below.refl _ _).alloc (Nat.le_refl _) _
      have hrg2 := hrg1.below hb1
      have hB5 := Below.step0 hB4 hb1
      have hown5 := own_low hown4 hb1
      have bK := Box.new w4 #[.int .i64 k.p, .int .i64 k.b, .int .i64 k.l, .int .i64 k.a, .int .i64 k.s] 23
      have HO : Hid (s k = true ∧ left k = true) := ⟨hrg.sub k hlk, hlk⟩
      have h5w : w.heap.size ≤ w4.heap.size := by omega
      have hstep : Hid (∀ (ks' : List K5), (∀ j, j ∈ ks' ↔ j ∈ ks ∨ (j = k ∧ srvB d k p = true)) → ∀ j, j ∈ ks' ↔ (s j = true ∧ left' j = false) ∧ srvB d j p = true) := by
        show ∀ ks', _
        intro ks' h' j
        have hj := HF.out j
        have hkj := HK.out j
        rw [h', hkj]
        by_cases e : j = k
        · subst e
          have : left' j = false := by
            cases h : left' j
            · rfl
            · exact absurd rfl (hj.1 h).2
          simp [this, HO.out.1, HO.out.2]
        · have : left' j = left j := by
            cases h : left j
            · cases h' : left' j
              · rfl
              · rw [(hj.1 h').1] at h; cases h
            · exact hj.2 ⟨h, e⟩
          simp [this, e]
      have qS4 := bS4.cell
      have qK4 := bK.cell
      have lS4 := bS4.lt
      have lK4 := bK.lt
      clear hleft hlk hrg1 hB4 hBw hown hrg hs4 hof bS cV hb1 hown4
      cases hsv : srvB d k p
      · rw [hsv] at cVk
        go_upto_region 5 with fail
        obtain ⟨w5, hw5⟩ : ∃ w5, w5 = w4.alloc (.cells #[.int .i64 k.p, .int .i64 k.b, .int .i64 k.l, .int .i64 k.a, .int .i64 k.s] 23) := ⟨_, rfl⟩
        rw [← hw5] at hrg2 hB5 hown5 bK qS4 qK4 lS4 lK4 bS4 ⊢
        have hs7 : w4.heap.size < w5.heap.size := lK4
        clear hw5
        go_wp2_with (go_at_call 68; refine (cVk _).mono ?_; rintro e w6 ⟨rfl, hbb⟩)
        have hrg6 := hrg2.below hbb
        go_roundw
        case rel => exact ⟨ks, left', cnt', own_low hown5 hbb, hrg6, by omega, hstep.out ks (fun j => by simp [hsv]), Below.step0 hB5 hbb, by have := hbb.size; omega, bS4.below hbb⟩
        case measure => rw [hrg6.left_eq]; omega
      · rw [hsv] at cVk
        have hn5 : ks.length ≤ 500 := by omega
        go_upto_region 5 with fail
        obtain ⟨w5, hw5⟩ : ∃ w5, w5 = w4.alloc (.cells #[.int .i64 k.p, .int .i64 k.b, .int .i64 k.l, .int .i64 k.a, .int .i64 k.s] 23) := ⟨_, rfl⟩
        rw [← hw5] at hrg2 hB5 hown5 bK qS4 qK4 lS4 lK4 bS4 ⊢
        have hs7 : w4.heap.size < w5.heap.size := lK4
        clear hw5
        go_upto_region 6 with (go_at_call 68; refine (cVk _).mono ?_; rintro e w6 ⟨rfl, hbb⟩)
        replace hrg2 := hrg2.below hbb
        replace hB5 := Below.step0 hB5 hbb
        replace hown5 := own_low hown5 hbb
        replace bK := bK.below hbb
        replace bS4 := bS4.below hbb
        have qK6 := bK.cell
        have lK6 := bK.lt
        have hs8 : w3.heap.size ≤ w6.heap.size := by have := hbb.size; omega
        have hb7 : Below w6.heap.size w6 (w6.alloc (.cells #[.int .i64 k.p, .int .i64 k.b, .int .i64 k.l, .int .i64 k.a, .int .i64 k.s] 23)) := (Below.refl _ _).alloc (Nat.le_refl _) _
        have hrg7 := hrg2.below hb7
        have hB7 := Below.step0 hB5 hb7
        have bS7 := bS4.below hb7
        clear qS4 qK4 lS4 lK4 hbb cVk bK hrg2 hB5 hb7 bS4
        go_wp2_with (at_builtin; refine wpList_append_lies _ rfl _ _ _ rfl w3.heap.size 23 i0 _ 5 40 Tryd.underlying44 hi0 hz0 hz1 hz2 rfl (by omega) _ ks.length _ rfl (hown5.alloc _) ⟨w6.heap.size, 0, none⟩ 1 1 (k5C k) rfl rfl ?c1 ?c2 (by omega) ?c3 ?c4 ?c5 _ rfl ?_)
        case c1 => exact World.news_of_block (cs := #[.int .i64 k.p, .int .i64 k.b, .int .i64 k.l, .int .i64 k.a, .int .i64 k.s]) (t := 23) (fr := (0, 0)) (heap_alloc_new w6 (.cells #[.int .i64 k.p, .int .i64 k.b, .int .i64 k.l, .int .i64 k.a, .int .i64 k.s] 23))
        case c2 =>
          intro u hu
          simp only [k5C, List.mem_cons, List.not_mem_nil, or_false] at hu
          rcases hu with rfl | rfl | rfl | rfl | rfl <;> rfl
        case c3 => unfold maxLen; omega
        case c4 => omega
        case c5 => simp; omega
        intro g cap w8 hown8 hgrow hat hlt8
        have hB8 : Below w.heap.size w w8 := Below.grown hB7 hgrow (by simp; omega) (fun j hj => by have := (hown5.lt j hj).1; omega)
        have hrg8 : KRange w8 B w2.heap.size n s left' cnt' := hrg7.grown hgrow (fun e => by have := (hown5.lt _ e.symm).1; omega) (fun e => by have := (hown5.lt _ e.symm).1; omega)
        have bS8 : Box w8 w.heap.size #[.map (some B), .slice sm len cm, .bool d] := by
          have hne : some w.heap.size ≠ _ := fun e => by have := (hown5.lt _ e.symm).1; omega
          exact box_grown bS7 hgrow hne
        have hs9 : w3.heap.size ≤ w8.heap.size := by have := hgrow.size; simp at this; omega
        clear hown5 hB7 hrg7 hgrow hat bS7
        go_wp2
        go_roundw
        case rel =>
          refine ⟨ks ++ [k], left', cnt', ?_, hrg8, by rw [List.length_append]; simp; omega, hstep.out _ (fun j => by rw [List.mem_append, List.mem_singleton]; simp [hsv]), hB8, hs9, bS8⟩
          rw [List.length_append, List.flatMap_append, List.flatMap_cons, List.flatMap_nil, List.append_nil]
          exact hown8
        case measure => rw [hrg8.left_eq]; omega
set_option maxHeartbeats 4000000 in
theorem reach_cls_no (x : MC) (q : MA) (p : Int) (d : Bool) (w : World) (hA : McAt w x q) (hO : McB x) (h : ¬ mcE x = 0) :
    Calls Tryd.prog 18 #[.agg (mcC x q).toArray, .int .i64 p, .bool d] w fun e w' => e = .returned (.tuple #[.slice none 0 0, .int .i64 (mcE x)]) ∧ Below w.heap.size w w' := by
  have cS := fun w hA => reach_seek_no x q d w hA hO h
  have hi : (Tryd.prog.info? 31).map (·.size) = some (mcC x q).length := mach_info hO.r8
  have HA : Hid (∀ w', Below w.heap.size w w' → McAt w' x q) := fun w' hb => hA.below hb
  obtain ⟨E, hE⟩ : ∃ E, mcE x = E := ⟨_, rfl⟩
  rw [hE] at cS h ⊢
  have gE : (E != 0) = true := by simpa using h
  have hB : Below w.heap.size w (w.alloc (.cells (mcC x q).toArray 31)) := (Below.refl _ _).alloc (Nat.le_refl _) _
  have bM := Box.new w (mcC x q).toArray 31
  clear hA hE h
  generalize mcC x q = L at *
  go_enter Tryd.func18, Tryd.ntmps18
  go_wp2_with (first | ((with_reducible refine at_load ?_); refine pl_load_box (by rfl) 31 (.tmp 3) rfl w.heap.size (by rfl) L bM _ Tryd.underlying31 rfl hi ?_) | (go_at_call 37; refine (cS _ (HA.out _ hB)).mono ?_; rintro e w1 ⟨rfl, hbb⟩; replace hB := Below.step0 hB hbb; clear hbb cS bM))
  exact bodyPost_ret (v := .tuple #[.slice none 0 0, .int .i64 E]) (by simp [results, Tryd.results18, go_sem]) rfl ⟨rfl, hB.alloc hB.size _⟩
set_option maxHeartbeats 4000000 in
theorem reach_cls (x : MC) (q : MA) (p : Int) (d : Bool) (w : World) (hA : McAt w x q) (hO : McB x) (zm : x.m.length ≤ q.cm) (ym : q.cm ≤ maxLen) (h : mcE x = 0) :
    Calls Tryd.prog 18 #[.agg (mcC x q).toArray, .int .i64 p, .bool d] w fun e w' => ∃ v b, e = .returned (.tuple #[v, .int .i64 0]) ∧ Below w.heap.size w w' ∧ w'.ownsRow w.heap.size 3 1 v (filtN b 0 x.m.length).length ((filtN b 0 x.m.length).map nmC) ∧ ∀ j, b j = true ↔ ∃ k, Has x d k ∧ srvB d k p = true ∧ covB k.b k.l j = true := by
  have cS := fun w hA => reach_seek x q d w hA hO zm ym h
  have h8 := hO.r8
  have hlm := (mem_small (mc_zero.1 h).2.2.1).1
  have hi : (Tryd.prog.info? 31).map (·.size) = some (mcC x q).length := mach_info hO.r8
  have HA : Hid (∀ w', Below w.heap.size w w' → McAt w' x q) := fun w' hb => hA.below hb
  have hB : Below w.heap.size w (w.alloc (.cells (mcC x q).toArray 31)) := (Below.refl _ _).alloc (Nat.le_refl _) _
  have bM := Box.new w (mcC x q).toArray 31
  have cP := fun B n s W hM hn => reach_places B n s q.m x.m.length q.cm d p 0 x.m.length W hM hn (by omega)
  rw [show (0 : Int) + (x.m.length : Int) = (x.m.length : Int) from Int.zero_add _] at cP
  clear hA h
  obtain ⟨L, hL⟩ : ∃ L, mcC x q = L := ⟨_, rfl⟩
  have HL : Hid (mcC x q = L) := hL
  rw [hL] at hi hB bM cS ⊢
  clear hL
  go_enter Tryd.func18, Tryd.ntmps18
  go_upto_region 2 with (first | ((with_reducible refine at_load ?_); refine pl_load_box (by rfl) 31 (.tmp 3) rfl w.heap.size (by rfl) L bM _ Tryd.underlying31 rfl hi ?_) | (go_at_call 37; refine (cS _ (HA.out _ hB)).mono ?_; rintro e w1 ⟨B, n, s, rfl, hM, hn, hbb, hBB⟩; replace hB := Below.step0 hB hbb; replace bM := bM.below hbb; have HN : Hid (∀ k, s k = true ↔ Has x d k) := hn.2; have hn5 := hn.1; clear hbb cS hn))
  obtain ⟨w2, hw2⟩ : ∃ w2, w2 = w1.alloc (.cells #[.map (some B), .slice q.m x.m.length q.cm, .bool d] 80) := ⟨_, rfl⟩
  have bS : Box w2 w1.heap.size #[.map (some B), .slice q.m x.m.length q.cm, .bool d] := by rw [hw2]; exact Box.new _ _ _
  have hB1 : Below w1.heap.size w1 w2 := by rw [hw2]; exact (Below.refl _ _).alloc (Nat.le_refl _) _
  replace hM := hM.below hB1
  replace hB := Below.step0 hB hB1
  replace bM := bM.below hB1
  obtain ⟨-, -, -, -, -, lm, -, -⟩ := mc_tail (q := q) (by rw [HL.out]; exact bM) h8
  have qS := bS.cell
  have hl1 := hB.size
  rw [← hw2]
  clear hw2 hB1 bM
  go_wp2_with (go_at_call 41; refine (cP B n s w2 hM hn5).mono ?_; rintro e w3 ⟨v, b, rfl, hbb, hown, hb⟩; have HO : Hid (w3.ownsRow w.heap.size 3 1 v (filtN b 0 x.m.length).length ((filtN b 0 x.m.length).map nmC)) := own_mono hown hl1; clear hown)
  have hres : ∀ j, b j = true ↔ ∃ k, Has x d k ∧ srvB d k p = true ∧ covB k.b k.l j = true := fun j => by
    rw [hb j]
    exact ⟨fun ⟨k, h1, h2⟩ => ⟨k, (HN.out k).1 h1, h2⟩, fun ⟨k, h1, h2⟩ => ⟨k, (HN.out k).2 h1, h2⟩⟩
  refine bodyPost_ret (v := .tuple #[v, .int .i64 0]) (by simp [results, Tryd.results18, go_sem]) rfl ?_
  exact ⟨v, b, rfl, Below.step0 hB hbb, HO.out, hres⟩
end
section
open Go.ChangeShapes Go.WideShapes Go.ChangeAt Go.RowKit
set_option linter.unusedSimpArgs false
set_option linter.unusedVariables false
set_option maxRecDepth 100000

set_option maxHeartbeats 1000000 in
theorem has_int (a : Option Addr) (c : Nat) (ns : List Int) (x : Int) (w : World) (hA : NumsAt w a ns) (hl : ns.length ≤ maxLen) :
    Calls Tryd.prog 21 #[.slice a ns.length c, .int .i64 x] w fun e w' => e = .returned (.bool (ns.contains x)) ∧ w' = w := by
  obtain ⟨R, hR⟩ : ∃ R, ns.contains x = R := ⟨_, rfl⟩
  rw [hR]
  have HR : Hid (ns.contains x = R) := hR
  clear hR
  unfold maxLen at hl
  go_enter Tryd.func21, Tryd.ntmps21
  go_wp2
  go_loop [9] (fun i => ∃ k : Nat, k ≤ ns.length ∧ i = .int .i64 (k : Int) ∧ (ns.drop k).contains x = R) (fun i => ns.length - (intOf i).toNat)
  case atStart => exact ⟨0, Nat.zero_le _, rfl, HR.out⟩
  case round =>
    obtain ⟨k, hk, rfl, hs⟩ := hrel
    by_cases hlt : k < ns.length
    · have gk : (k : Int) < (ns.length : Int) := by omega
      have hw1 : IntKind.i64.wrap ((k : Int) + 1) = (k : Int) + 1 := by rw [IntKind.wrap_i64]; omega
      obtain ⟨n, hn⟩ : ∃ n, ns[k]? = some n := ⟨_, List.getElem?_eq_getElem hlt⟩
      obtain ⟨B, off, rfl, hBl, c0⟩ := hA.at hn
      rw [drop_one hn, List.contains_cons] at hs
      by_cases h0 : x = n
      · have hs' : R = true := by rw [← hs, h0]; simp
        have g0 : (x == n) = true := by simpa using h0
        subst hs'
        clear hn HR hA hs
        go_wp2
        go_ret
        exact ⟨rfl, rfl⟩
      · have g0 : (x == n) = false := by simpa using h0
        have HS : Hid ((ns.drop (k + 1)).contains x = R) := by
          show _ = R
          rw [← hs, g0]
          simp
        clear hs hn HR hA
        go_wp2
        go_round
        case rel => exact ⟨k + 1, by omega, by go_num, HS.out⟩
        case measure => simp [intOf]; omega
    · obtain rfl : k = ns.length := by omega
      have gk : ¬ (ns.length : Int) < (ns.length : Int) := by omega
      rw [List.drop_length] at hs
      have hs' : R = false := hs.symm
      subst hs'
      clear hs HR
      go_wp2
      go_ret
      exact ⟨rfl, rfl⟩
/-- The five cells of one of them. -/
def At5 (w : World) (B o : Nat) (k : K5) : Prop :=
  w.cell? ⟨B, o, none⟩ = some (.int .i64 k.p) ∧ w.cell? ⟨B, o + 1, none⟩ = some (.int .i64 k.b) ∧ w.cell? ⟨B, o + 2, none⟩ = some (.int .i64 k.l) ∧ w.cell? ⟨B, o + 3, none⟩ = some (.int .i64 k.a) ∧ w.cell? ⟨B, o + 4, none⟩ = some (.int .i64 k.s)
theorem keys_at {w : World} {a : Option Addr} {ks : List K5} {i : Nat} {k : K5} (h : RowAt w a (ks.flatMap k5C)) (hk : ks[i]? = some k) : ∃ B off : Nat, a = some ⟨B, off, none⟩ ∧ B < w.heap.size ∧ At5 w B (off + i * 5) k := by
  rcases h with h | ⟨B, off, e, hB, hc⟩
  · cases ks with
    | nil => simp at hk
    | cons v vs => cases h
  · refine ⟨B, off, e, hB, ?_⟩
    have g : ∀ (j : Nat) (u : Value), j < 5 → (k5C k)[j]? = some u → w.cell? ⟨B, off + i * 5 + j, none⟩ = some u := fun j u hj hu => by
      rw [Nat.add_assoc]
      exact hc _ _ (by rw [flat_cell (n := 5) (fun _ => rfl) ks i k j hk hj]; exact hu)
    exact ⟨g 0 _ (by omega) rfl, g 1 _ (by omega) rfl, g 2 _ (by omega) rfl, g 3 _ (by omega) rfl, g 4 _ (by omega) rfl⟩
/-- Two keys are one. -/
def kEq (a b : K5) : Bool := a.p == b.p && (a.b == b.b && (a.l == b.l && (a.a == b.a && a.s == b.s)))
theorem kEq_iff {a b : K5} : kEq a b = true ↔ a = b := by
  obtain ⟨p, b1, l, q, s⟩ := a
  obtain ⟨p', b2, l', q', s'⟩ := b
  simp only [kEq, Bool.and_eq_true, beq_iff_eq, K5.mk.injEq]
theorem eql_key (a b : K5) (w : World) : (Op.equalIn 10000 23 (.agg #[.int .i64 a.p, .int .i64 a.b, .int .i64 a.l, .int .i64 a.a, .int .i64 a.s]) (.agg #[.int .i64 b.p, .int .i64 b.b, .int .i64 b.l, .int .i64 b.a, .int .i64 b.s])).run Tryd.prog w = .ok (kEq a b) w := by
  unfold kEq
  simp [go_sem]
  by_cases h1 : a.p = b.p
  · by_cases h2 : a.b = b.b
    · by_cases h3 : a.l = b.l
      · by_cases h4 : a.a = b.a
        · by_cases h5 : a.s = b.s <;> simp [h1, h2, h3, h4, h5]
        · simp [h1, h2, h3, h4]
      · simp [h1, h2, h3]
    · simp [h1, h2]
  · simp [h1]
/-- Block B is a map of at most n numbers: those that s names. -/
structure IMap (w : World) (B n : Nat) (s : Int → Bool) : Prop where
  own : ∃ D : DataW Unit, w.ownsMap Tryd.prog 3 (plainElem Tryd.prog 4) B n D ∧ Maps.IsMap D ∧ ∀ k, D.atKey (.int .i64 k) (.lit (.bool false)) = .lit (.bool (s k))
theorem int_law : Maps.Keyed Tryd.prog 3 := Maps.int_keyed Tryd.underlying3
theorem zero_bool (w : World) : (zeroValue 4).run Tryd.prog w = .ok (.bool false) w := by kernel_rfl
theorem int_key {k : Int} (hk : nmOk k) : keyOf Tryd.prog 3 (.int .i64 k) = some (.int .i64 k) := Maps.keyOf_int_mk Tryd.underlying3 (WalkArith.wf_i64 hk)
theorem IMap.made (w : World) : IMap (w.alloc (.map #[] 0)) w.heap.size 0 (fun _ => false) :=
  ⟨⟨.map [], World.ownsMap_made w _ _ _, Maps.isMap_empty, fun _ => rfl⟩⟩
theorem plain_bool_inv {v : Value} {z : DataW Unit × List MemPlace} (h : plainElem Tryd.prog 4 v = some z) : ∃ b, v = .bool b ∧ z = (.lit (.bool b), []) := by
  unfold plainElem at h
  rw [Tryd.underlying4] at h
  cases v <;> simp at h
  exact ⟨_, rfl, h.symm⟩
section
variable (w : World) {ops : Array Oper} {rest : List Oper} {o : Oper} {a : Act} {Q : Exit → Act → World → Prop}
theorem wpI_look (hg : o.guard = none) (m x : Operand) (t : TypeId) (hop : o.op = Op.lookup t m x false) (ht : Tryd.prog.underlying t = some (.map 3 4)) (B n : Nat) (s : Int → Bool) (k : Int)
    (hm : a.eval m = .map (some B)) (h : IMap w B n s) (hx : a.eval x = .int .i64 k) (hk : nmOk k)
    (hK : wpList Tryd.prog ops Q rest (a.put o.dst (.bool (s k))) w) : wpList Tryd.prog ops Q (o :: rest) a w := by
  refine wpList_plain hg fun K' hK' => ?_
  obtain ⟨D, h1, _, h2⟩ := h.own
  obtain ⟨v, ps, hr, hv⟩ := h1.lookup int_law ht (zero_bool w) (plainElem_bool Tryd.underlying4 false) (int_key hk)
  rw [h2 k] at hv
  obtain ⟨b, rfl, hb⟩ := plain_bool_inv hv
  simp only [Prod.mk.injEq, DataW.lit.injEq, Lit.bool.injEq] at hb
  rw [← hb.1] at hr
  unfold Oper.wp
  simp [execOp, hop, hm, hx, hr, Result.andThen]
  exact hK' _ _ hK
theorem wpI_put (hg : o.guard = none) (m x v : Operand) (t : TypeId) (hop : o.op = Op.mapUpdate t m x v) (ht : Tryd.prog.underlying t = some (.map 3 4)) (B n : Nat) (s : Int → Bool) (k : Int)
    (hm : a.eval m = .map (some B)) (h : IMap w B n s) (hn : n < maxLen) (hx : a.eval x = .int .i64 k) (hv : a.eval v = .bool true) (hk : nmOk k)
    (hK : ∀ w', IMap w' B (n + 1) (fun j => j == k || s j) → Off B w w' → wpList Tryd.prog ops Q rest (a.put o.dst undef) w') : wpList Tryd.prog ops Q (o :: rest) a w := by
  obtain ⟨D, h1, h2, h3⟩ := h.own
  refine wpList_mapUpdate_own w hg m x v t hop _ _ int_law ht _ B n D hm h1 hn _ _ _ hx hv (int_key hk) (.lit (.bool true)) [] (plainElem_bool Tryd.underlying4 true) fun w' g1 g2 => hK w' ⟨⟨_, g1, h2.put _ _, fun j => ?_⟩⟩ ⟨g2.os, g2.tape, g2.output, g2.size, fun i hi hn => g2.block i hi (fun e => hn (by cases e; rfl))⟩
  by_cases e : j = k
  · subst e
    rw [Maps.atKey_put_same h2 (int_law.key (int_key hk))]
    simp
  · rw [Maps.atKey_put_other (fun e' => e (by injection e')), h3 j]
    simp [e]
end
theorem IMap.off {w w' : World} {B S n : Nat} {s : Int → Bool} (h : IMap w B n s) (ho : Off S w w') (hne : B ≠ S) : IMap w' B n s := by
  obtain ⟨D, h1, h2⟩ := h.own
  exact ⟨⟨D, h1.kept ⟨ho.os, ho.tape, ho.output, ho.size, fun k hk hn => ho.block k hk (fun e => hn (by rw [e]))⟩ (by simpa using hne), h2⟩⟩
set_option maxHeartbeats 4000000 in
theorem cells_in (a b : Option Addr) (c d : Nat) (xs ys : List Int) (w : World) (hA : NumsAt w a xs) (hB : NumsAt w b ys) (hx : ∀ n ∈ xs, nmOk n) (hy : ∀ n ∈ ys, nmOk n) (lx : xs.length ≤ 1000) (ly : ys.length ≤ 1000) :
    Calls Tryd.prog 19 #[.slice a xs.length c, .slice b ys.length d] w fun e w' => e = .returned (.bool (xs.all fun n => ys.contains n)) ∧ Below w.heap.size w w' := by
  have HA : Hid (∀ w', Below w.heap.size w w' → NumsAt w' a xs) := fun w' hb => hA.below hb
  have HB : Hid (∀ w', Below w.heap.size w w' → NumsAt w' b ys) := fun w' hb => hB.below hb
  have HX : Hid (∀ n ∈ xs, nmOk n) := hx
  have HY : Hid (∀ n ∈ ys, nmOk n) := hy
  have hmm := @run_makeMap Tryd.prog
  have hM := IMap.made w
  have hBl : Below w.heap.size w (w.alloc (.map #[] 0)) := (Below.refl _ _).alloc (Nat.le_refl _) _
  obtain ⟨R, hR⟩ : ∃ R, (xs.all fun n => ys.contains n) = R := ⟨_, rfl⟩
  rw [hR]
  have HR : Hid ((xs.all fun n => ys.contains n) = R) := hR
  clear hA hB hx hy hR
  go_enter Tryd.func19, Tryd.ntmps19
  go_upto_region 3 with fail
  obtain ⟨w0, hw0⟩ : ∃ w0, w0 = w.alloc (.map #[] 0) := ⟨_, rfl⟩
  have hs0 : w.heap.size < w0.heap.size := by rw [hw0]; simp
  rw [← hw0] at hM hBl ⊢
  clear hw0 hmm
  go_loopw [13] (fun i wr => ∃ j : Nat, j ≤ ys.length ∧ i = .int .i64 (j : Int) ∧ Below w.heap.size w wr ∧ ∃ n s, n ≤ j ∧ IMap wr w.heap.size n s ∧ ∀ k, s k = (ys.take j).contains k) (fun i _ => ys.length - (intOf i).toNat)
  case atStart => exact ⟨0, Nat.zero_le _, rfl, hBl, 0, _, Nat.le_refl _, hM, fun k => by rw [List.take_zero]; rfl⟩
  case round =>
    clear hM hBl
    obtain ⟨j, hj, rfl, hBw, n, s, hn, hM, hs⟩ := hrel
    have HS : Hid (∀ k, s k = (ys.take j).contains k) := hs
    clear hs
    by_cases hlt : j < ys.length
    · have gk : (j : Int) < (ys.length : Int) := by omega
      have hw1 : IntKind.i64.wrap ((j : Int) + 1) = (j : Int) + 1 := by rw [IntKind.wrap_i64]; omega
      obtain ⟨y, hyj⟩ : ∃ y, ys[j]? = some y := ⟨_, List.getElem?_eq_getElem hlt⟩
      obtain ⟨BB, off, rfl, hBl2, c0⟩ := (HB.out _ hBw).at hyj
      have hok := HY.out y (List.mem_of_getElem? hyj)
      have HJ : Hid (ys[j]? = some y) := hyj
      have hnm : n < maxLen := by unfold maxLen; omega
      have hBz := hBw.size
      clear hyj
      go_wp2_with (at_mapUpdate; refine wpI_put _ rfl _ _ _ 87 rfl Tryd.underlying87 w.heap.size n s y rfl hM hnm rfl rfl hok ?_; intro w1 g1 g2)
      go_roundw
      case rel =>
        refine ⟨j + 1, by omega, rfl, hBw.trans (g2.to (Nat.le_refl _) hBz), n + 1, _, by omega, g1, fun k => ?_⟩
        rw [List.take_add_one, HJ.out, HS.out]
        simp only [Option.toList_some, List.contains_append, List.contains_cons, List.contains_nil, Bool.or_false]
        rw [Bool.or_comm]
      case measure => simp [intOf]; omega
    · obtain rfl : j = ys.length := by omega
      have gk : ¬ (ys.length : Int) < (ys.length : Int) := by omega
      have HS2 : Hid (∀ k, s k = ys.contains k) := by
        show ∀ k, s k = ys.contains k
        intro k
        rw [HS.out, List.take_length]
      clear HB HY HS
      go_upto_region 8 with fail
      go_loop [22] (fun i => ∃ j : Nat, j ≤ xs.length ∧ i = .int .i64 (j : Int) ∧ ((xs.drop j).all fun n => ys.contains n) = R) (fun i => xs.length - (intOf i).toNat)
      case atStart => exact ⟨0, Nat.zero_le _, rfl, HR.out⟩
      case round =>
        obtain ⟨j, hj2, rfl, hs⟩ := hrel
        by_cases hlt2 : j < xs.length
        · have gk2 : (j : Int) < (xs.length : Int) := by omega
          have hw1 : IntKind.i64.wrap ((j : Int) + 1) = (j : Int) + 1 := by rw [IntKind.wrap_i64]; omega
          obtain ⟨x, hxj⟩ : ∃ x, xs[j]? = some x := ⟨_, List.getElem?_eq_getElem hlt2⟩
          obtain ⟨BB, off, rfl, hBl2, c0⟩ := (HA.out _ hBw).at hxj
          have hok := HX.out x (List.mem_of_getElem? hxj)
          rw [drop_one hxj, List.all_cons, ← HS2.out x] at hs
          clear hxj
          cases hsx : s x
          · rw [hsx] at hs
            have hs' : R = false := by rw [← hs]; rfl
            subst hs'
            clear hs
            go_wp2_with (at_lookup; refine wpI_look _ rfl _ _ 87 rfl Tryd.underlying87 w.heap.size n s x rfl hM rfl hok ?_; rw [hsx])
            go_ret
            exact ⟨rfl, hBw⟩
          · rw [hsx, Bool.true_and] at hs
            have HS3 : Hid (((xs.drop (j + 1)).all fun n => ys.contains n) = R) := hs
            clear hs
            go_wp2_with (at_lookup; refine wpI_look _ rfl _ _ 87 rfl Tryd.underlying87 w.heap.size n s x rfl hM rfl hok ?_; rw [hsx])
            go_round
            case rel => exact ⟨j + 1, by omega, by go_num, HS3.out⟩
            case measure => simp [intOf]; omega
        · obtain rfl : j = xs.length := by omega
          have gk2 : ¬ (xs.length : Int) < (xs.length : Int) := by omega
          rw [List.drop_length] at hs
          have hs' : R = true := hs.symm
          subst hs'
          clear hs HR
          go_wp2
          go_ret
          exact ⟨rfl, hBw⟩
end
end Go.Proofs.YtlfeglljpfihhaaDoor
