/- package reach: Keys: all that is come to, each once, in order. What laws ask of lists: Has, Eq, cellsIn. Which key is at most which; every key of one list is at most one of the other. -/
import Derived.Test.YtlfeglljpfihhaaGreatDoorRows
import Derived.Test.YtlfeglljpfihhaaGreatDoorCardBaseX
import Derived.Test.YtlfeglljpfihhaaGreatDoorValArgX
import Derived.Test.YtlfeglljpfihhaaGreatDoorCellChkX
import Derived.Test.YtlfeglljpfihhaaGreatDoorMemPureX
import Derived.Test.YtlfeglljpfihhaaGreatDoorStepRowX
import Derived.Test.YtlfeglljpfihhaaGreatDoorStepChkX
import Derived.Test.YtlfeglljpfihhaaGreatDoorSweepPureX
import Derived.Test.YtlfeglljpfihhaaGreatDoorRunTopX
import Derived.Test.YtlfeglljpfihhaaGreatDoorReachAddX
import Derived.Test.YtlfeglljpfihhaaGreatDoorReachFindX
import Derived.Test.YtlfeglljpfihhaaGreatDoorShelfX
import Derived.Test.YtlfeglljpfihhaaGreatDoorReachSortX
import Derived.Test.YtlfeglljpfihhaaGreatDoorReachSeekX
import Derived.Deep.AppendLies
import Derived.WalkKit
import Derived.ProofKit
import Derived.OpenShut
import Derived.OwnWalk
import Derived.Maps.OwnOps
import Derived.Deep.MidRow
import Derived.Deep.CutBlock
import Derived.Deep.RegionHeld3
import Derived.MapKept
import Derived.Below
import Derived.Maps.OwnSet
import Derived.Test.YtlfeglljpfihhaaGreatDoorKeyCovX
namespace Go.Proofs.YtlfeglljpfihhaaGreatDoor
section
open Go.ChangeShapes Go.WideShapes Go.ChangeAt Go.RowKit
set_option linter.unusedSimpArgs false
set_option linter.unusedVariables false
set_option maxRecDepth 100000


open Go.Shelf Go.Lib Go.Sort
theorem k5C_len (k : K5) : (k5C k).length = 5 := rfl
theorem k5_one (ks : List K5) : ∀ u ∈ ks.flatMap k5C, u.oneCell' = true := fun u hu => by
  obtain ⟨k, _, hv⟩ := List.mem_flatMap.1 hu
  simp only [k5C, List.mem_cons, List.not_mem_nil, or_false] at hv
  rcases hv with rfl | rfl | rfl | rfl | rfl <;> rfl
section
variable [Inhabited K5]
theorem flat_k (ks : List K5) {j : Nat} (hj : j < ks.length * 5) : (ks.flatMap k5C)[j]? = some ((flatK k5C 5 ks.toArray)[j]!) := by
  obtain ⟨k, hk⟩ : ∃ k, ks[j / 5]? = some k := ⟨_, List.getElem?_eq_getElem (by omega)⟩
  have e : j = j / 5 * 5 + j % 5 := by omega
  have h1 := flat_cell k5C_len ks (j / 5) k (j % 5) hk (by omega)
  rw [← e] at h1
  have h2 : ks.toArray[j / 5]! = k := by
    rw [Array.getElem!_eq_getD, Array.getD_eq_getD_getElem?, List.getElem?_toArray, hk]
    rfl
  rw [get_flatK _ _ _ _ (by simpa using hj), h2, h1]
  have h3 : j % 5 < (k5C k).length := by rw [k5C_len]; omega
  rw [List.getElem?_eq_getElem h3, getElem!_pos (k5C k) (j % 5) h3]
theorem holds_of {w : World} {g : Nat} {ks : List K5} (h : ∀ (j : Nat) u, (ks.flatMap k5C)[j]? = some u → w.cell? ⟨g, j, none⟩ = some u ∧ w.frozen? ⟨g, j, none⟩ = false) : HoldsK k5C 5 w g 0 ks.toArray := by
  intro j hj
  rw [size_flatK] at hj
  rw [Nat.zero_add]
  exact h j _ (flat_k ks (by simpa using hj))
theorem of_holds {w : World} {g : Nat} {ks : List K5} (h : HoldsK k5C 5 w g 0 ks.toArray) (j : Nat) (u : Value) (hj : (ks.flatMap k5C)[j]? = some u) : w.cell? ⟨g, j, none⟩ = some u := by
  have hl : j < ks.length * 5 := by
    have := (List.getElem?_eq_some_iff.1 hj).1
    rwa [flat_len k5C_len] at this
  have h1 := h j (by rw [size_flatK]; simpa using hl)
  rw [Nat.zero_add] at h1
  rw [h1.1, ← hj, flat_k ks hl]
  rfl
theorem off_sort (w : World) (blk off n : Nat) (d : Array K5) (os : Array Obj) : Off blk w (sortWorldK k5C 5 w blk off n d os) := by
  refine ⟨rfl, rfl, rfl, ?_, fun k hk hn => ?_⟩
  · unfold sortWorldK grow
    simp only [Array.size_append]
    have : (putRowK k5C 5 (Sort.ahead w n) blk off d).heap.size = w.heap.size := by unfold putRowK; rw [size_putRow]; rfl
    omega
  · unfold sortWorldK
    have hz : (putRowK k5C 5 (Sort.ahead w n) blk off d).heap.size = w.heap.size := by unfold putRowK; rw [size_putRow]; rfl
    rw [heap_grow_old _ _ (by rw [hz]; exact hk)]
    unfold putRowK putRow mapBlock
    rw [Array.getElem?_modify, if_neg (fun e => hn e.symm)]
    rfl
theorem sort_keys0 (g cap : Nat) (ks : List K5) (w : World) (hg : g < w.heap.size) (h : ∀ (j : Nat) u, (ks.flatMap k5C)[j]? = some u → w.cell? ⟨g, j, none⟩ = some u ∧ w.frozen? ⟨g, j, none⟩ = false) (hl : ks.length ≤ 1000) :
    Calls Tryz.prog 15 #[.slice (some ⟨g, 0, none⟩) ks.length cap, .func (.func 16) #[] #[]] w fun e w' => e = .returned (.tuple #[]) ∧ ∃ ks' : List K5, ks'.Perm ks ∧ ks'.Pairwise (fun a b => ¬ cmp5 b a < 0) ∧ (∀ (j : Nat) u, (ks'.flatMap k5C)[j]? = some u → w'.cell? ⟨g, j, none⟩ = some u) ∧ Off g w w' := by
  have eg : ∀ args w, (callFunc 16 args).run Tryz.prog w = .ok (.enter 16 args) w := enters_of Tryz.func16 (by kernel_rfl) rfl
  have hc : CmpLays Tryz.prog 16 #[] k5C 5 cmp5 g 0 ks.toArray.size w := fun m os dk _ x y => reach_compare x y _
  have hcon := AnyQ.slices_SortFunc Tryz.laysSort 5 Tryz.isAgg23 Tryz.sizeOf23 k5C (fun _ => rfl) (fun x v hv => by
    simp only [k5C, List.mem_cons, List.not_mem_nil, or_false] at hv
    rcases hv with rfl | rfl | rfl | rfl | rfl <;> rfl) cmp5 swo5 16 #[] g 0 cap ks.toArray w eg hc (holds_of h) hg (by simp; omega)
  have hcon' : Calls Tryz.prog 15 _ _ _ := hcon
  rw [List.size_toArray] at hcon'
  refine hcon'.mono ?_
  rintro e w' ⟨rfl, d', n, os, ⟨hsz, _, hp⟩, hs, rfl⟩
  have hsz' : d'.size = ks.length := by simpa using hsz
  have hH := holdsK_sortWorldK_c k5C 5 w g 0 ks.toArray d' n os (holds_of h) hg hsz
  refine ⟨rfl, d'.toList, ?_, ?_, fun j u hj => of_holds (ks := d'.toList) (by simpa using hH) j u hj, off_sort _ _ _ _ _ _⟩
  · have e1 : (d'.extract 0 ks.length).toList = d'.toList := by rw [← hsz', Array.extract_size]
    have e2 : (ks.toArray.extract 0 ks.length).toList = ks := by rw [show ks.length = ks.toArray.size from (List.size_toArray).symm, Array.extract_size]
    rw [e1, e2] at hp
    exact hp
  · rw [List.pairwise_iff_getElem]
    intro i j hi hj hij
    rw [Array.length_toList] at hi hj
    have h1 := hs i j (Nat.zero_le _) hij (by omega)
    rw [lt5, getElem!_pos d' i hi, getElem!_pos d' j hj] at h1
    simpa using h1
end
theorem sort_keys (g cap : Nat) (ks : List K5) (w : World) (hg : g < w.heap.size) (h : ∀ (j : Nat) u, (ks.flatMap k5C)[j]? = some u → w.cell? ⟨g, j, none⟩ = some u ∧ w.frozen? ⟨g, j, none⟩ = false) (hl : ks.length ≤ 1000) :
    Calls Tryz.prog 15 #[.slice (some ⟨g, 0, none⟩) ks.length cap, .func (.func 16) #[] #[]] w fun e w' => e = .returned (.tuple #[]) ∧ ∃ ks' : List K5, ks'.Perm ks ∧ ks'.Pairwise (fun a b => ¬ cmp5 b a < 0) ∧ (∀ (j : Nat) u, (ks'.flatMap k5C)[j]? = some u → w'.cell? ⟨g, j, none⟩ = some u) ∧ Off g w w' :=
  @sort_keys0 ⟨⟨0, 0, 0, 0, 0⟩⟩ g cap ks w hg h hl
theorem own_off {w w' : World} {base S : Nat} {e : TypeId} {size : Nat} {v : Value} {n : Nat} {xs : List Value} (h : w.ownsRow base e size v n xs) (ho : Off S w w') (hS : S < base) : w'.ownsRow base e size v n xs := by
  obtain ⟨h1, h2⟩ := h
  refine ⟨h1, ?_⟩
  rcases h2 with h2 | ⟨g, cap, cur, e1, e2, e3, e4⟩
  · exact .inl h2
  · exact .inr ⟨g, cap, cur, e1, e2, by rw [ho.block g (Array.getElem?_eq_some_iff.1 e3).1 (by omega)]; exact e3, e4⟩
theorem own_low {w w' : World} {base : Nat} {e : TypeId} {size : Nat} {v : Value} {n : Nat} {xs : List Value} (h : w.ownsRow base e size v n xs) (hb : Below w.heap.size w w') : w'.ownsRow base e size v n xs := by
  obtain ⟨h1, h2⟩ := h
  refine ⟨h1, ?_⟩
  rcases h2 with h2 | ⟨g, cap, cur, e1, e2, e3, e4⟩
  · exact .inl h2
  · exact .inr ⟨g, cap, cur, e1, e2, by rw [hb.block g (Array.getElem?_eq_some_iff.1 e3).1]; exact e3, e4⟩
theorem own_cells {w : World} {base : Nat} {e : TypeId} {size n m c g : Nat} {xs : List Value} (h : w.ownsRow base e size (.slice (some ⟨g, 0, none⟩) m c) n xs) : (base ≤ g ∧ g < w.heap.size ∧ n ≤ c ∧ c ≤ maxLen) ∧ ∀ (j : Nat) u, xs[j]? = some u → w.cell? ⟨g, j, none⟩ = some u ∧ w.frozen? ⟨g, j, none⟩ = false := by
  obtain ⟨h1, h2⟩ := h
  rcases h2 with ⟨h2, _⟩ | ⟨g', cap, cur, e1, e2, e3, e4, e5, e6, e7⟩
  · cases h2
  · simp only [Value.slice.injEq, Option.some.injEq, Addr.mk.injEq, true_and, and_true] at e1
    obtain ⟨rfl, rfl, rfl⟩ := e1
    refine ⟨⟨e2, (Array.getElem?_eq_some_iff.1 e3).1, e4, e5⟩, fun j u hj => ⟨?_, by simp [World.frozen?, e3]⟩⟩
    have hl : j < m * size := by rw [← h1]; exact (List.getElem?_eq_some_iff.1 hj).1
    rw [← e7, List.getElem?_take, if_pos hl] at hj
    simp only [World.cell?, e3]
    rw [Array.getElem?_toList] at hj
    simpa using hj
theorem KRange.grown {w w' : World} {B r n : Nat} {s left : K5 → Bool} {cnt : Nat} {row : Option Nat} (h : KRange w B r n s left cnt) (hg : w.grownBy w' row) (hB : some B ≠ row) (hr : some r ≠ row) : KRange w' B r n s left cnt := by
  obtain ⟨D, L, h1, h2, h3⟩ := h.own
  exact ⟨⟨D, L, h1.kept hg hB hr, h2, h3⟩, h.ok, h.sub⟩
theorem KRange.left_eq {w : World} {B r n : Nat} {s left : K5 → Bool} {cnt : Nat} (h : KRange w B r n s left cnt) : w.rangeLeft B r = cnt := by
  obtain ⟨D, L, h1, _⟩ := h.own
  exact h1.left_eq
theorem KRange.ne {w : World} {B r n : Nat} {s left : K5 → Bool} {cnt : Nat} (h : KRange w B r n s left cnt) : r ≠ B := by
  obtain ⟨D, L, h1, _⟩ := h.own
  exact h1.ne
theorem info_key : ∃ i, Tryz.prog.info? 23 = some i ∧ i.zero = some (.agg #[.int .i64 0, .int .i64 0, .int .i64 0, .int .i64 0, .int .i64 0]) ∧ i.size = 5 ∧ i.bytes = 40 := by
  refine ⟨_, rfl, ?_, ?_, ?_⟩ <;> kernel_rfl
set_option maxHeartbeats 4000000 in
theorem reach_keys_no (x : MC) (q : MA) (d : Bool) (w : World) (hA : McAt w x q) (hO : McB x) (h : ¬ mcE x = 0) :
    Calls Tryz.prog 7 #[.agg (mcC x q).toArray, .bool d] w fun e w' => e = .returned (.tuple #[.slice none 0 0, .int .i64 (mcE x)]) ∧ Below w.heap.size w w' := by
  have cS := fun w hA => reach_seek_no x q d w hA hO h
  have hi : (Tryz.prog.info? 31).map (·.size) = some (mcC x q).length := mach_info hO.r8
  have HA : Hid (∀ w', Below w.heap.size w w' → McAt w' x q) := fun w' hb => hA.below hb
  obtain ⟨E, hE⟩ : ∃ E, mcE x = E := ⟨_, rfl⟩
  rw [hE] at cS h ⊢
  have gE : (E != 0) = true := by simpa using h
  have hB : Below w.heap.size w (w.alloc (.cells (mcC x q).toArray 31)) := (Below.refl _ _).alloc (Nat.le_refl _) _
  have bM := Box.new w (mcC x q).toArray 31
  clear hA hE h
  generalize mcC x q = L at *
  go_enter Tryz.func7, Tryz.ntmps7
  go_wp2_with (first | ((with_reducible refine at_load ?_); refine pl_load_box (by rfl) 31 (.tmp 2) rfl w.heap.size (by rfl) L bM _ Tryz.underlying31 rfl hi ?_) | (go_at_call 14; refine (cS _ (HA.out _ hB)).mono ?_; rintro e w1 ⟨rfl, hbb⟩; replace hB := Below.step0 hB hbb; clear hbb cS bM))
  exact bodyPost_ret (v := .tuple #[.slice none 0 0, .int .i64 E]) (by simp [results, Tryz.results7, go_sem]) rfl ⟨rfl, hB.alloc hB.size _⟩
set_option maxHeartbeats 8000000 in
theorem reach_keys_f (x : MC) (q : MA) (d : Bool) (w : World) (hA : McAt w x q) (hO : McB x) (zm : x.m.length ≤ q.cm) (ym : q.cm ≤ maxLen) (h : mcE x = 0) :
    Calls Tryz.prog 7 #[.agg (mcC x q).toArray, .bool d] w fun e w' => ∃ g c ks, e = .returned (.tuple #[.slice (some ⟨g, 0, none⟩) (ks : List K5).length c, .int .i64 0]) ∧ w.heap.size ≤ g ∧ Below w.heap.size w w' ∧ RowAt w' (some ⟨g, 0, none⟩) (ks.flatMap k5C) ∧ ks.length ≤ 500 ∧ (∀ k, k ∈ ks ↔ Has x d k) ∧ ks.Pairwise (fun a b => cmp5 a b < 0) := by
  have cS := fun w hA => reach_seek x q d w hA hO zm ym h
  have hi : (Tryz.prog.info? 31).map (·.size) = some (mcC x q).length := mach_info hO.r8
  have HA : Hid (∀ w', Below w.heap.size w w' → McAt w' x q) := fun w' hb => hA.below hb
  have hB : Below w.heap.size w (w.alloc (.cells (mcC x q).toArray 31)) := (Below.refl _ _).alloc (Nat.le_refl _) _
  have bM := Box.new w (mcC x q).toArray 31
  obtain ⟨i0, hi0, hz0, hz1, hz2⟩ := info_key
  have HR : Hid (Has x d x.k) := .rt .code
  clear hA h
  generalize mcC x q = L at *
  go_enter Tryz.func7, Tryz.ntmps7
  go_upto_region 2 with (first | ((with_reducible refine at_load ?_); refine pl_load_box (by rfl) 31 (.tmp 2) rfl w.heap.size (by rfl) L bM _ Tryz.underlying31 rfl hi ?_) | (go_at_call 14; refine (cS _ (HA.out _ hB)).mono ?_; rintro e w1 ⟨B, n, s, rfl, hM, hn, hbb, hBB⟩; replace hB := Below.step0 hB hbb; have HN : Hid (n ≤ 500 ∧ ∀ k, s k = true ↔ Has x d k) := hn; clear hbb cS bM hn))
  obtain ⟨w2, hw2⟩ : ∃ w2, w2 = w1.alloc (.cells #[.map (some B), .slice q.m x.m.length q.cm, .bool d] 53) := ⟨_, rfl⟩
  have bS : Box w2 w1.heap.size #[.map (some B), .slice q.m x.m.length q.cm, .bool d] := by rw [hw2]; exact Box.new _ _ _
  have hB1 : Below w1.heap.size w1 w2 := by rw [hw2]; exact (Below.refl _ _).alloc (Nat.le_refl _) _
  replace hM := hM.below hB1
  replace hB := Below.step0 hB hB1
  have hBl := hM.lt
  have hl1 := hB.size
  have qS := bS.cell
  rw [← hw2]
  clear hw2 hB1
  go_wp2_with (at_range; refine wpK_range _ rfl _ 51 rfl _ Tryz.underlying51 B n s rfl hM ?_; intro w3 cnt hrg hcn hb3 hs3)
  go_frame
  have hrB : w2.heap.size ≠ B := by omega
  have hwr : w.heap.size ≤ w2.heap.size := hl1
  have hB3 : Below w.heap.size w w3 := Below.step0 hB hb3
  have h23 : w2.heap.size < w3.heap.size := by omega
  have hB3w : B < w3.heap.size := by omega
  have h3w : w.heap.size ≤ w3.heap.size := by omega
  clear hM hB hl1 bS qS hb3 hs3
  go_loopw [8] (fun v wr => ∃ (ks : List K5) (left : K5 → Bool) (cnt : Nat), wr.ownsRow w3.heap.size 23 5 v ks.length (ks.flatMap k5C) ∧ KRange wr B w2.heap.size n s left cnt ∧ ks.length + cnt ≤ n ∧ (∀ k, k ∈ ks ↔ s k = true ∧ left k = false) ∧ ks.Nodup ∧ Below w.heap.size w wr ∧ w3.heap.size ≤ wr.heap.size) (fun _ wr => wr.rangeLeft B w2.heap.size)
  case atStart => exact ⟨[], s, cnt, World.ownsRow_nil w3 _ _ _, hrg, by simpa using hcn, fun k => by simp, List.nodup_nil, hB3, Nat.le_refl _⟩
  case round =>
    clear hrg hcn hB3
    obtain ⟨ks, left, cnt, hown, hrg, hc, hks, hnd, hBw, hsw⟩ := hrel
    have hcl := hrg.left_eq
    have HK : Hid (∀ k, k ∈ ks ↔ s k = true ∧ left k = false) := hks
    have HD : Hid ks.Nodup := hnd
    clear hks hnd
    go_wp2_with (at_next; refine wpK_next _ rfl _ rfl B w2.heap.size n s left cnt rfl hrg ?_ ?_)
    · intro hl
      have hk0 : x.k ∈ ks := (HK.out x.k).2 ⟨(HN.out.2 x.k).2 HR.out, hl x.k⟩
      have hpos : 0 < ks.length := List.length_pos_of_mem hk0
      obtain ⟨g, cap, rfl⟩ : ∃ g cap, u8 = .slice (some ⟨g, 0, none⟩) ks.length cap := by
        rcases hown.2 with ⟨_, h0⟩ | ⟨g, cap, cur, e, _⟩
        · omega
        · exact ⟨g, cap, e⟩
      obtain ⟨⟨o1, o2, o3, o4⟩, hcell⟩ := own_cells hown
      have hn5 := HN.out.1
      have cQ := sort_keys g cap ks wr o2 hcell (by omega)
      have hgw : w.heap.size ≤ g := by omega
      clear hrg hcl hcell hown o1 o3 o4
      go_upto_region 10 with (go_at_call 15; refine cQ.mono ?_; rintro e w5 ⟨rfl, ks', hp, hsort, hrow, hoff⟩)
      have hlen := hp.length_eq
      go_wp2
      refine bodyPost_ret (v := .tuple #[.slice (some ⟨g, 0, none⟩) ks.length cap, .int .i64 0]) (by simp [results, Tryz.results7, go_sem]) rfl ?_
      have hB5 : Below w.heap.size w w5 := hBw.trans (hoff.to hgw (Nat.le_of_lt o2))
      have hsrt : ks'.Pairwise (fun a b => cmp5 a b < 0) := by
        have hnd : ks'.Pairwise (fun a b => a ≠ b) := hp.nodup_iff.2 HD.out
        refine (List.Pairwise.and hsort hnd).imp fun {a b} h => ?_
        by_cases h1 : cmp5 a b < 0
        · exact h1
        · exact absurd (cmp5_one h1 (by have := h.1; omega)) h.2
      have hmem : ∀ k, k ∈ ks' ↔ Has x d k := fun k => by
        rw [hp.mem_iff, HK.out k, ← HN.out.2 k]
        exact ⟨fun h => h.1, fun h => ⟨h, hl k⟩⟩
      have hra : RowAt w5 (some ⟨g, 0, none⟩) (ks'.flatMap k5C) := .inr ⟨g, 0, rfl, Nat.lt_of_lt_of_le o2 hoff.size, fun j u hj => by rw [Nat.zero_add]; exact hrow j u hj⟩
      exact ⟨g, cap, ks', by rw [hlen], hgw, hB5, hra, by omega, hmem, hsrt⟩
    · intro k w4 left' cnt' hk hlk hrg1 hleft hlt hof hs4 hen
      dsimp only [kV5] at hen ⊢
      have HF : Hid (∀ j, left' j = true ↔ left j = true ∧ j ≠ k) := hleft
      have hown4 := own_off hown hof h23
      have hs5 : w3.heap.size ≤ w4.heap.size := by omega
      have hB4 : Below w.heap.size w w4 := hBw.trans (hof.to hwr (by omega))
      have hb2 := two (w := w4) (.cells #[.int .i64 k.p, .int .i64 k.b, .int .i64 k.l, .int .i64 k.a, .int .i64 k.s] 23) (.cells #[.int .i64 k.p, .int .i64 k.b, .int .i64 k.l, .int .i64 k.a, .int .i64 k.s] 23)
      have hrg2 : KRange ((w4.alloc (.cells #[.int .i64 k.p, .int .i64 k.b, .int .i64 k.l, .int .i64 k.a, .int .i64 k.s] 23)).alloc (.cells #[.int .i64 k.p, .int .i64 k.b, .int .i64 k.l, .int .i64 k.a, .int .i64 k.s] 23)) B w2.heap.size n s left' cnt' := hrg1.below hb2
      have hB5 := Below.step0 hB4 hb2
      have HO : Hid (s k = true ∧ left k = true) := ⟨hrg.sub k hlk, hlk⟩
      have h5w : w.heap.size ≤ w4.heap.size := by omega
      clear hleft hlk hrg1 hB4 hBw hown hb2 hrg hs4 hof
      go_wp2_with (at_builtin; refine wpList_append_lies _ rfl _ _ _ rfl w3.heap.size 23 i0 _ 5 40 Tryz.underlying34 hi0 hz0 hz1 hz2 rfl (by omega) _ ks.length _ rfl ((hown4.alloc _).alloc _) ⟨w4.heap.size + 1, 0, none⟩ 1 1 (k5C k) rfl rfl ?c1 ?c2 (by omega) ?c3 ?c4 ?c5 _ rfl ?_)
      case c1 =>
        refine World.news_of_block (cs := #[.int .i64 k.p, .int .i64 k.b, .int .i64 k.l, .int .i64 k.a, .int .i64 k.s]) (t := 23) (fr := (0, 0)) ?_
        have := heap_alloc_new (w4.alloc (.cells #[.int .i64 k.p, .int .i64 k.b, .int .i64 k.l, .int .i64 k.a, .int .i64 k.s] 23)) (.cells #[.int .i64 k.p, .int .i64 k.b, .int .i64 k.l, .int .i64 k.a, .int .i64 k.s] 23)
        rwa [World.size_alloc] at this
      case c2 =>
        intro u hu
        simp only [k5C, List.mem_cons, List.not_mem_nil, or_false] at hu
        rcases hu with rfl | rfl | rfl | rfl | rfl <;> rfl
      case c3 => have := HN.out.1; unfold maxLen; omega
      case c4 => have := HN.out.1; omega
      case c5 => simp; omega
      intro g cap w5 hown5 hgrow hat hlt5
      have hB6 : Below w.heap.size w w5 := Below.grown hB5 hgrow (by simp; omega) (fun j hj => by have := (hown4.lt j hj).1; omega)
      have hrg5 : KRange w5 B w2.heap.size n s left' cnt' := hrg2.grown hgrow (fun e => by have := (hown4.lt _ e.symm).1; omega) (fun e => by have := (hown4.lt _ e.symm).1; omega)
      have hs6 : w3.heap.size ≤ w5.heap.size := by have := hgrow.size; simp at this; omega
      clear hown4 hB5 hrg2 hgrow hat
      go_wp2
      go_roundw
      case rel =>
        refine ⟨ks ++ [k], left', cnt', ?_, hrg5, by rw [List.length_append]; simp; omega, fun j => ?_, ?_, hB6, hs6⟩
        · rw [List.length_append, List.flatMap_append, List.flatMap_cons, List.flatMap_nil, List.append_nil]
          exact hown5
        · have hj := HF.out j
          have hkj := HK.out j
          rw [List.mem_append, List.mem_singleton, hkj]
          by_cases e : j = k
          · subst e
            have : left' j = false := by
              cases h : left' j
              · rfl
              · exact absurd rfl (hj.1 h).2
            simp [this, HO.out.1]
          · have : left' j = left j := by
              cases h : left j
              · cases h' : left' j
                · rfl
                · rw [(hj.1 h').1] at h; cases h
              · exact hj.2 ⟨h, e⟩
            simp [this, e]
        · rw [List.nodup_append]
          refine ⟨HD.out, by simp, fun a ha b hb => ?_⟩
          rw [List.mem_singleton] at hb
          subst hb
          intro e
          subst e
          have := ((HK.out a).1 ha).2
          rw [HO.out.2] at this
          cases this
      case measure => rw [hrg5.left_eq]; omega
theorem reach_keys (x : MC) (q : MA) (d : Bool) (w : World) (hA : McAt w x q) (hO : McB x) (zm : x.m.length ≤ q.cm) (ym : q.cm ≤ maxLen) (h : mcE x = 0) :
    Calls Tryz.prog 7 #[.agg (mcC x q).toArray, .bool d] w fun e w' => ∃ a c ks, e = .returned (.tuple #[.slice a (ks : List K5).length c, .int .i64 0]) ∧ Below w.heap.size w w' ∧ RowAt w' a (ks.flatMap k5C) ∧ ks.length ≤ 500 ∧ (∀ k, k ∈ ks ↔ Has x d k) ∧ ks.Pairwise (fun a b => cmp5 a b < 0) :=
  (reach_keys_f x q d w hA hO zm ym h).mono fun _ _ ⟨g, c, ks, he, _, hb⟩ => ⟨some ⟨g, 0, none⟩, c, ks, he, hb⟩
end
section
open Go.ChangeShapes Go.WideShapes Go.ChangeAt Go.RowKit
set_option linter.unusedSimpArgs false
set_option linter.unusedVariables false
set_option maxRecDepth 100000

/-- The five cells of one of them. -/
def At5 (w : World) (B o : Nat) (k : K5) : Prop :=
  w.cell? ⟨B, o, none⟩ = some (.int .i64 k.p) ∧ w.cell? ⟨B, o + 1, none⟩ = some (.int .i64 k.b) ∧ w.cell? ⟨B, o + 2, none⟩ = some (.int .i64 k.l) ∧ w.cell? ⟨B, o + 3, none⟩ = some (.int .i64 k.a) ∧ w.cell? ⟨B, o + 4, none⟩ = some (.int .i64 k.s)
theorem keys_at {w : World} {a : Option Addr} {ks : List K5} {i : Nat} {k : K5} (h : RowAt w a (ks.flatMap k5C)) (hk : ks[i]? = some k) : ∃ B off : Nat, a = some ⟨B, off, none⟩ ∧ B < w.heap.size ∧ At5 w B (off + i * 5) k := by
  rcases h with h | ⟨B, off, e, hB, hc⟩
  · cases ks with
    | nil => simp at hk
    | cons v vs => cases h
  · refine ⟨B, off, e, hB, ?_⟩
    have g : ∀ (j : Nat) (u : Value), j < 5 → (k5C k)[j]? = some u → w.cell? ⟨B, off + i * 5 + j, none⟩ = some u := fun j u hj hu => by
      rw [Nat.add_assoc]
      exact hc _ _ (by rw [flat_cell (n := 5) (fun _ => rfl) ks i k j hk hj]; exact hu)
    exact ⟨g 0 _ (by omega) rfl, g 1 _ (by omega) rfl, g 2 _ (by omega) rfl, g 3 _ (by omega) rfl, g 4 _ (by omega) rfl⟩
/-- Two keys are one. -/
def kEq (a b : K5) : Bool := a.p == b.p && (a.b == b.b && (a.l == b.l && (a.a == b.a && a.s == b.s)))
theorem kEq_iff {a b : K5} : kEq a b = true ↔ a = b := by
  obtain ⟨p, b1, l, q, s⟩ := a
  obtain ⟨p', b2, l', q', s'⟩ := b
  simp only [kEq, Bool.and_eq_true, beq_iff_eq, K5.mk.injEq]
theorem eql_key (a b : K5) (w : World) : (Op.equalIn 10000 23 (.agg #[.int .i64 a.p, .int .i64 a.b, .int .i64 a.l, .int .i64 a.a, .int .i64 a.s]) (.agg #[.int .i64 b.p, .int .i64 b.b, .int .i64 b.l, .int .i64 b.a, .int .i64 b.s])).run Tryz.prog w = .ok (kEq a b) w := by
  unfold kEq
  simp [go_sem]
  by_cases h1 : a.p = b.p
  · by_cases h2 : a.b = b.b
    · by_cases h3 : a.l = b.l
      · by_cases h4 : a.a = b.a
        · by_cases h5 : a.s = b.s <;> simp [h1, h2, h3, h4, h5]
        · simp [h1, h2, h3, h4]
      · simp [h1, h2, h3]
    · simp [h1, h2]
  · simp [h1]
end
section
open Go.ChangeShapes Go.WideShapes Go.ChangeAt Go.RowKit
set_option linter.unusedSimpArgs false
set_option linter.unusedVariables false
set_option maxRecDepth 100000

theorem keys_cw (p b l a s p' b' l' a' s' : Int) (w : World) (hb : kb p b l a s) (hb' : kb p' b' l' a' s') :
    Calls Tryz.prog 34 #[.agg #[.int .i64 p, .int .i64 b, .int .i64 l, .int .i64 a, .int .i64 s], .agg #[.int .i64 p', .int .i64 b', .int .i64 l', .int .i64 a', .int .i64 s']] w
      fun e w' => e = .returned (.bool (cwB b l b' l')) ∧ Below w.heap.size w w' := by
  obtain ⟨-, b2, b3, -, -⟩ := hb
  have hk := hb'
  obtain ⟨-, c2, c3, -, -⟩ := hb'
  have cs : (l ≤ 0 ∧ cwB b l b' l' = true) ∨ (0 < l ∧ covB b' l' b = false ∧ cwB b l b' l' = false) ∨ (0 < l ∧ covB b' l' b = true ∧ (b' ≤ b ∧ 0 < l' ∧ b - b' < l') ∧ l ≤ l' - (b - b') ∧ cwB b l b' l' = true) ∨
      (0 < l ∧ covB b' l' b = true ∧ (b' ≤ b ∧ 0 < l' ∧ b - b' < l') ∧ decide (l ≤ l' - (b - b')) = false ∧ cwB b l b' l' = false) := by
    simp only [cwB, covB, decide_eq_true_eq, decide_eq_false_iff_not]; omega
  rcases cs with ⟨h1, hc⟩ | ⟨h1, h2, hc⟩ | ⟨h1, h2, ⟨h3, h4, h5⟩, h6, hc⟩ | ⟨h1, h2, ⟨h3, h4, h5⟩, h6, hc⟩
  · rw [hc]
    clear hc
    go_enter Tryz.func34, Tryz.ntmps34
    go_wp2
    go_ret
    exact ⟨rfl, ((Below.refl _ _).alloc (Nat.le_refl _) _).alloc (by simp) _⟩
  all_goals
    rw [hc]
    clear hc
    go_enter Tryz.func34, Tryz.ntmps34
    go_wp2_with (go_at_call 66; refine (keys_covers _ _ _ _ _ _ _ hk b2).mono ?_; rintro e w' ⟨rfl, hb⟩; obtain ⟨hc, hf⟩ := bcell hb)
    go_ret
    exact ⟨rfl, (((Below.refl _ _).alloc (Nat.le_refl _) _).alloc (by simp) _).trans (hb.mono (by simp; omega))⟩
theorem keys_under (p b l a s p' b' l' a' s' : Int) (w : World) (hb : kb p b l a s) (hb' : kb p' b' l' a' s') :
    Calls Tryz.prog 20 #[.agg #[.int .i64 p, .int .i64 b, .int .i64 l, .int .i64 a, .int .i64 s], .agg #[.int .i64 p', .int .i64 b', .int .i64 l', .int .i64 a', .int .i64 s']] w
      fun e w' => e = .returned (.bool (undB p b l s p' b' l' s')) ∧ Below w.heap.size w w' := by
  have cs : (cwB b l b' l' = false) ∨ (cwB b l b' l' = true ∧ inB p p' = false) ∨ (cwB b l b' l' = true ∧ inB p p' = true ∧ (s' == 0) = true) ∨ (cwB b l b' l' = true ∧ inB p p' = true ∧ (s' == 0) = false) := by
    cases cwB b l b' l' <;> cases inB p p' <;> cases (s' == 0) <;> simp
  unfold undB
  rcases cs with h1 | ⟨h1, h2⟩ | ⟨h1, h2, h3⟩ | ⟨h1, h2, h3⟩
  · rw [h1]
    simp only [Bool.false_and]
    go_enter Tryz.func20, Tryz.ntmps20
    go_wp2_with (first | (go_at_call 34; refine (keys_cw _ _ _ _ _ _ _ _ _ _ _ hb hb').mono ?_; rintro e w' ⟨rfl, hbb⟩; obtain ⟨hc, hf⟩ := bcell hbb) | (go_at_call 35; refine (perm_within _ _ _).mono ?_; rintro e w' ⟨rfl, rfl⟩))
    go_ret
    exact ⟨rfl, (((Below.refl _ _).alloc (Nat.le_refl _) _).alloc (by simp) _).trans (hbb.mono (by simp; omega))⟩
  · rw [h1, h2]
    simp only [Bool.false_and, Bool.and_false]
    go_enter Tryz.func20, Tryz.ntmps20
    go_wp2_with (first | (go_at_call 34; refine (keys_cw _ _ _ _ _ _ _ _ _ _ _ hb hb').mono ?_; rintro e w' ⟨rfl, hbb⟩; obtain ⟨hc, hf⟩ := bcell hbb) | (go_at_call 35; refine (perm_within _ _ _).mono ?_; rintro e w' ⟨rfl, rfl⟩))
    go_ret
    exact ⟨rfl, (((Below.refl _ _).alloc (Nat.le_refl _) _).alloc (by simp) _).trans (hbb.mono (by simp; omega))⟩
  · rw [h1, h2, h3]
    simp only [Bool.true_and, Bool.true_or]
    go_enter Tryz.func20, Tryz.ntmps20
    go_wp2_with (first | (go_at_call 34; refine (keys_cw _ _ _ _ _ _ _ _ _ _ _ hb hb').mono ?_; rintro e w' ⟨rfl, hbb⟩; obtain ⟨hc, hf⟩ := bcell hbb) | (go_at_call 35; refine (perm_within _ _ _).mono ?_; rintro e w' ⟨rfl, rfl⟩))
    go_ret
    exact ⟨rfl, (((Below.refl _ _).alloc (Nat.le_refl _) _).alloc (by simp) _).trans (hbb.mono (by simp; omega))⟩
  · rw [h1, h2, h3]
    simp only [Bool.true_and, Bool.false_or]
    go_enter Tryz.func20, Tryz.ntmps20
    go_wp2_with (first | (go_at_call 34; refine (keys_cw _ _ _ _ _ _ _ _ _ _ _ hb hb').mono ?_; rintro e w' ⟨rfl, hbb⟩; obtain ⟨hc, hf⟩ := bcell hbb) | (go_at_call 35; refine (perm_within _ _ _).mono ?_; rintro e w' ⟨rfl, rfl⟩))
    go_ret
    exact ⟨rfl, (((Below.refl _ _).alloc (Nat.le_refl _) _).alloc (by simp) _).trans (hbb.mono (by simp; omega))⟩

theorem k5b_zero {k : K5} (h : k5b k) : kb k.p k.b k.l k.a 0 := by
  unfold k5b kb at *
  omega
theorem und_les {k x : K5} : undB k.p k.b k.l 0 x.p x.b x.l 0 = true ↔ Les k x := by
  unfold undB cwB Les
  simp
theorem has_kb {x : MC} {d : Bool} (h : McB x) {k : K5} (hk : Has x d k) : k5b k := by
  have hv : ∀ v : MV, mvOk v → k5b (vK v) := fun v h => ⟨h.2.1, h.2.2.1, h.2.2.2.1, h.2.2.2.2.1, h.2.2.2.2.2⟩
  cases hk with
  | rt hr =>
    cases hr with
    | reg v hm hi => exact hv v (h.r v hm)
    | code => exact h.k
    | fc hd f hf => exact (h.s f hf).1
    | fd hd f hf hi => exact hv _ (h.s f hf).2
  | cell r j v _ _ _ _ hm hi => exact hv v (mvs_at h.m hm)
def wiB (l all : List K5) : Bool := l.all fun k => all.any fun x => undB k.p k.b k.l 0 x.p x.b x.l 0
theorem wi_les {l all : List K5} (h : ∀ k ∈ l, ∃ x ∈ all, Les k x) : wiB l all = true := by
  unfold wiB
  rw [List.all_eq_true]
  intro k hk
  rw [List.any_eq_true]
  obtain ⟨x, h1, h2⟩ := h k hk
  exact ⟨x, h1, und_les.2 h2⟩
set_option maxHeartbeats 2000000 in
theorem keep_within (a b : Option Addr) (c d : Nat) (ks js : List K5) (w : World) (hA : RowAt w a (ks.flatMap k5C)) (hB : RowAt w b (js.flatMap k5C)) (hk : ∀ k ∈ ks, k5b k) (hj : ∀ k ∈ js, k5b k) (lk : ks.length ≤ 500) (lj : js.length ≤ 500) (hw : ∀ k ∈ ks, (js.any fun x => undB k.p k.b k.l 0 x.p x.b x.l 0) = true) :
    Calls Tryz.prog 9 #[.slice a ks.length c, .slice b js.length d] w fun e w' => e = .returned (.bool true) ∧ Below w.heap.size w w' := by
  have HA : Hid (∀ w', Below w.heap.size w w' → RowAt w' a (ks.flatMap k5C)) := fun w' hb => hA.below hb
  have HB : Hid (∀ w', Below w.heap.size w w' → RowAt w' b (js.flatMap k5C)) := fun w' hb => hB.below hb
  have HK : Hid (∀ k ∈ ks, k5b k) := hk
  have HJ : Hid (∀ k ∈ js, k5b k) := hj
  have HW : Hid (∀ k ∈ ks, (js.any fun x => undB k.p k.b k.l 0 x.p x.b x.l 0) = true) := hw
  clear hA hB hk hj hw
  go_enter Tryz.func9, Tryz.ntmps9
  go_upto_region 2 with fail
  go_loopw [12] (fun i wr => ∃ j : Nat, j ≤ ks.length ∧ i = .int .i64 (j : Int) ∧ Below w.heap.size w wr) (fun i _ => ks.length - (intOf i).toNat)
  case atStart => exact ⟨0, Nat.zero_le _, rfl, Below.refl _ _⟩
  case round =>
    obtain ⟨j, hj, rfl, hB⟩ := hrel
    by_cases hlt : j < ks.length
    · have gk : (j : Int) < (ks.length : Int) := by omega
      have hw1 : IntKind.i64.wrap ((j : Int) + 1) = (j : Int) + 1 := by rw [IntKind.wrap_i64]; omega
      obtain ⟨y, hy⟩ : ∃ y, ks[j]? = some y := ⟨_, List.getElem?_eq_getElem hlt⟩
      obtain ⟨B, off, rfl, hBl, c0, c1, c2, c3, c4⟩ := keys_at (HA.out _ hB) hy
      have HY : Hid (k5b y) := HK.out y (List.mem_of_getElem? hy)
      have HX : Hid ((js.any fun x => undB y.p y.b y.l 0 x.p x.b x.l 0) = true) := HW.out y (List.mem_of_getElem? hy)
      have hs := hB.size
      clear hy
      go_upto_region 7 with fail
      obtain ⟨w0, hw0⟩ : ∃ w0, w0 = wr.alloc (.cells #[.int .i64 y.p, .int .i64 y.b, .int .i64 y.l, .int .i64 y.a, .int .i64 0] 23) := ⟨_, rfl⟩
      have bK : Box w0 wr.heap.size #[.int .i64 y.p, .int .i64 y.b, .int .i64 y.l, .int .i64 y.a, .int .i64 0] := by rw [hw0]; exact Box.new _ _ _
      have hB0 : Below w.heap.size w w0 := by rw [hw0]; exact hB.alloc hs _
      rw [← hw0]
      clear hw0 hB
      generalize wr.heap.size = N0 at *
      go_loopw [7, 19] (fun g i wz => ∃ m : Nat, m ≤ js.length ∧ i = .int .i64 (m : Int) ∧ g = .bool ((js.take m).any fun x => undB y.p y.b y.l 0 x.p x.b x.l 0) ∧ Below w.heap.size w wz ∧ Box wz N0 #[.int .i64 y.p, .int .i64 y.b, .int .i64 y.l, .int .i64 y.a, .int .i64 0]) (fun _ i _ => js.length - (intOf i).toNat)
      case atStart => exact ⟨0, Nat.zero_le _, rfl, rfl, hB0, bK⟩
      case round =>
        clear hB0 bK
        obtain ⟨m, hm, rfl, rfl, hB, bK⟩ := hrel
        have qK := bK.cell
        by_cases hlm : m < js.length
        · have gm : (m : Int) < (js.length : Int) := by omega
          have hw2 : IntKind.i64.wrap ((m : Int) + 1) = (m : Int) + 1 := by rw [IntKind.wrap_i64]; omega
          obtain ⟨x, hx⟩ : ∃ x, js[m]? = some x := ⟨_, List.getElem?_eq_getElem hlm⟩
          obtain ⟨C, oc, rfl, hCl, d0, d1, d2, d3, d4⟩ := keys_at (HB.out _ hB) hx
          have kx : k5b x := HJ.out x (List.mem_of_getElem? hx)
          have hnx : ((js.take (m + 1)).any fun x => undB y.p y.b y.l 0 x.p x.b x.l 0) = (((js.take m).any fun x => undB y.p y.b y.l 0 x.p x.b x.l 0) || undB y.p y.b y.l 0 x.p x.b x.l 0) := by
            rw [List.take_add_one, hx]
            simp [List.any_append]
          have hs2 := hB.size
          have hB2 := hB.alloc hs2 (.cells #[.int .i64 x.p, .int .i64 x.b, .int .i64 x.l, .int .i64 x.a, .int .i64 0] 23)
          have bK2 := bK.alloc (.cells #[.int .i64 x.p, .int .i64 x.b, .int .i64 x.l, .int .i64 x.a, .int .i64 0] 23)
          have cU := fun W => keys_under y.p y.b y.l y.a 0 x.p x.b x.l x.a 0 W (k5b_zero HY.out) (k5b_zero kx)
          clear hx
          generalize undB y.p y.b y.l 0 x.p x.b x.l 0 = U at *
          clear qK
          go_upto_region 10 with fail
          obtain ⟨w1, he1⟩ : ∃ w1, w1 = wr.alloc (.cells #[.int .i64 x.p, .int .i64 x.b, .int .i64 x.l, .int .i64 x.a, .int .i64 0] 23) := ⟨_, rfl⟩
          have bX : Box w1 wr.heap.size #[.int .i64 x.p, .int .i64 x.b, .int .i64 x.l, .int .i64 x.a, .int .i64 0] := by rw [he1]; exact Box.new _ _ _
          rw [← he1] at hB2 bK2 ⊢
          have qX := bX.cell
          have qK := bK2.cell
          clear he1
          cases hg : ((js.take m).any fun x => undB y.p y.b y.l 0 x.p x.b x.l 0)
          · rw [hg] at hnx
            clear hg
            go_wp2_with (go_at_call 20; refine (cU _).mono ?_; rintro e wu ⟨rfl, hbu⟩; have hB3 := Below.step0 hB2 hbu; have bK3 := bK2.below hbu)
            go_roundw
            case rel => first | exact ⟨m + 1, by omega, rfl, by rw [hnx]; rfl, hB3, bK3⟩ | exact ⟨_, _, ⟨m + 1, by omega, rfl, by rw [hnx]; rfl, hB3, bK3⟩⟩
            case measure => simp [intOf]; omega
          · rw [hg] at hnx
            clear hg cU
            go_wp2
            go_roundw
            case rel => first | exact ⟨m + 1, by omega, rfl, by rw [hnx]; rfl, hB2, bK2⟩ | exact ⟨_, _, ⟨m + 1, by omega, rfl, by rw [hnx]; rfl, hB2, bK2⟩⟩
            case measure => simp [intOf]; omega
        · obtain rfl : m = js.length := by omega
          have gm : ¬ (js.length : Int) < (js.length : Int) := by omega
          have h1 := HX.out
          rw [List.take_length, h1]
          go_wp2
          go_roundw
          case rel => first | exact ⟨j + 1, by omega, rfl, hB⟩ | exact ⟨_, ⟨j + 1, by omega, rfl, hB⟩⟩
          case measure => simp [intOf]; omega
    · obtain rfl : j = ks.length := by omega
      have gk : ¬ (ks.length : Int) < (ks.length : Int) := by omega
      go_wp2
      go_ret
      exact ⟨rfl, hB⟩
end
end Go.Proofs.YtlfeglljpfihhaaGreatDoor
