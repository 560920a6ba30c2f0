/- package reach: where something may be done by keys that are held: Cells, Seals. -/
import Derived.Test.YtlfeglljpfihhaaRows
import Derived.Test.YtlfeglljpfihhaaBits
import Derived.Test.YtlfeglljpfihhaaKeyPure
import Derived.Test.YtlfeglljpfihhaaCellPure
import Derived.Test.YtlfeglljpfihhaaWithin
import Derived.Test.YtlfeglljpfihhaaValsArg
import Derived.Test.YtlfeglljpfihhaaMemPure
import Derived.Test.YtlfeglljpfihhaaMachArg
import Derived.Test.YtlfeglljpfihhaaMachMid
import Derived.Test.YtlfeglljpfihhaaStepChk
import Derived.Test.YtlfeglljpfihhaaStepChk2
import Derived.Test.YtlfeglljpfihhaaSweepPure
import Derived.Test.YtlfeglljpfihhaaMachSet
import Derived.Test.YtlfeglljpfihhaaReachPure
import Derived.Test.YtlfeglljpfihhaaReachGo
import Derived.Test.YtlfeglljpfihhaaReachMap
import Derived.Test.YtlfeglljpfihhaaReachAdd
import Derived.Test.YtlfeglljpfihhaaReachFind
import Derived.Test.YtlfeglljpfihhaaShelf
import Derived.Test.YtlfeglljpfihhaaReachSort
import Derived.Test.YtlfeglljpfihhaaReachSeek
import Derived.Test.YtlfeglljpfihhaaReachList
import Derived.Test.YtlfeglljpfihhaaKeyCov
import Derived.Deep.AppendLies
import Derived.WalkKit
import Derived.ProofKit
import Derived.OpenShut
import Derived.OwnWalk
import Derived.Maps.OwnOps
import Derived.Deep.MidRow
import Derived.Deep.CutBlock
import Derived.Deep.RegionHeld3
namespace Go.Proofs.Ytlfeglljpfihhaa
open Go.ChangeShapes Go.WideShapes Go.ChangeAt Go.RowKit
set_option linter.unusedSimpArgs false
set_option linter.unusedVariables false
set_option maxRecDepth 100000


open Go.Shelf Go.Lib
/-- Those of n numbers from f on that b takes. -/
def filtN (b : Int → Bool) (f : Int) : Nat → List Int
  | 0 => []
  | n + 1 => if b (f + n) = true then filtN b f n ++ [f + (n : Int)] else filtN b f n
theorem filt_len (b : Int → Bool) (f : Int) : ∀ n, (filtN b f n).length ≤ n
  | 0 => Nat.le_refl _
  | n + 1 => by
    have := filt_len b f n
    unfold filtN
    split
    · rw [List.length_append]; simp; omega
    · omega
theorem filt_mem (b : Int → Bool) (f : Int) (j : Int) : ∀ n : Nat, j ∈ filtN b f n ↔ b j = true ∧ f ≤ j ∧ j < f + n
  | 0 => by
    constructor
    · intro h; cases h
    · rintro ⟨_, h2, h3⟩; omega
  | n + 1 => by
    have ih := filt_mem b f j n
    unfold filtN
    by_cases h : b (f + n) = true
    · rw [if_pos h, List.mem_append, List.mem_singleton, ih]
      constructor
      · rintro (⟨h1, h2, h3⟩ | rfl)
        · exact ⟨h1, h2, by omega⟩
        · exact ⟨h, by omega, by omega⟩
      · rintro ⟨h1, h2, h3⟩
        by_cases e : j = f + n
        · exact .inr e
        · exact .inl ⟨h1, h2, by omega⟩
    · rw [if_neg h, ih]
      constructor
      · rintro ⟨h1, h2, h3⟩; exact ⟨h1, h2, by omega⟩
      · rintro ⟨h1, h2, h3⟩
        refine ⟨h1, h2, ?_⟩
        by_cases e : j = f + n
        · rw [e] at h1; exact absurd h1 h
        · omega
set_option maxHeartbeats 1000000 in
theorem reach_cover (k : K5) (x : Int) (A : Nat) (w : World) (hk : k5b k) (hx : -9223372036854775808 ≤ x ∧ x ≤ 9223372036854775807) (hA : Box w A #[.int .i64 x]) :
    Calls Try.prog 50 #[kV5 k, .pointer (some ⟨A, 0, none⟩)] w fun e w' => e = .returned (.bool (covB k.b k.l x)) ∧ Below w.heap.size w w' := by
  have cV := fun W => keys_covers k.p k.b k.l k.a k.s x W hk hx
  have q1 := hA.cell
  have l1 := hA.lt
  have hB : Below w.heap.size w (w.alloc (.cells #[.int .i64 k.p, .int .i64 k.b, .int .i64 k.l, .int .i64 k.a, .int .i64 k.s] 23)) := (Below.refl _ _).alloc (Nat.le_refl _) _
  unfold kV5
  generalize covB k.b k.l x = R at *
  clear hA
  go_enter Try.func50, Try.ntmps50
  go_wp2_with (go_at_call 51; refine (cV _).mono ?_; rintro e w1 ⟨rfl, hbb⟩)
  go_ret
  exact ⟨rfl, Below.step0 hB hbb⟩
theorem idx_empty (a : Option Addr) (c : Nat) (fv : Value) (w : World) : Calls Try.prog 70 #[.slice a 0 c, fv] w fun e w' => e = .returned (.int .i64 (-1)) ∧ w' = w := by
  go_enter Try.func70, Try.ntmps70
  go_wp2
  refine wp_loop_rounds 1 ?_
  rw [rounds_succ]
  go_wp2
  go_ret
  exact ⟨rfl, rfl⟩
theorem cont_empty (a : Option Addr) (c : Nat) (fv : Value) (w : World) : Calls Try.prog 49 #[.slice a 0 c, fv] w fun e w' => e = .returned (.bool false) ∧ w' = w := by
  have cI := fun W => idx_empty a c fv W
  go_enter Try.func49, Try.ntmps49
  go_wp2_with (go_at_call 70; refine (cI _).mono ?_; rintro e w1 ⟨rfl, rfl⟩)
  go_ret
  exact ⟨rfl, rfl⟩
theorem any_pmap (f : K5 → Bool) : ∀ (ks : List K5) (h : ∀ k ∈ ks, k5b k), (ks.pmap Subtype.mk h).any (fun z => f z.1) = ks.any f
  | [], _ => rfl
  | k :: ks, h => by rw [List.pmap_cons, List.any_cons, List.any_cons, any_pmap f ks]
section
variable [Inhabited {k : K5 // k5b k}]
theorem cont_keys0 (g cap A : Nat) (ks : List K5) (x : Int) (w : World) (hk : ∀ k ∈ ks, k5b k) (hx : -9223372036854775808 ≤ x ∧ x ≤ 9223372036854775807) (hA : Box w A #[.int .i64 x]) (hg : g < w.heap.size) (hl : ks.length ≤ 1000)
    (h : ∀ (j : Nat) u, (ks.flatMap k5C)[j]? = some u → w.cell? ⟨g, j, none⟩ = some u) :
    Calls Try.prog 49 #[.slice (some ⟨g, 0, none⟩) ks.length cap, .func (.func 50) #[] #[.pointer (some ⟨A, 0, none⟩)]] w fun e w' => e = .returned (.bool (ks.any fun k => covB k.b k.l x)) ∧ Below w.heap.size w w' := by
  have eg : ∀ args w, (callFunc 50 args).run Try.prog w = .ok (.enter 50 args) w := enters_of Try.func50 (by kernel_rfl) rfl
  have hzl : (ks.pmap Subtype.mk hk).length = ks.length := by simp
  have hcon := AnyQ.slices_ContainsFunc Try.laysCont 5 Try.isAgg23 Try.sizeOf23 (fun z : {k : K5 // k5b k} => k5C z.1) (fun _ => rfl) (fun z => covB z.1.b z.1.l x) 50 #[.pointer (some ⟨A, 0, none⟩)] eg g 0 ks.length cap (ks.pmap Subtype.mk hk) w
    (fun W z hW => (reach_cover z.1 x A W z.2 hx (hA.below hW)).mono fun e w' ⟨he, hb⟩ => ⟨he, Below.step0 hW hb⟩) (by omega) (by omega) hg (fun j hj i v hv => by
      rw [hzl] at hj
      rw [getElem!_pos (ks.pmap Subtype.mk hk) j (by omega), List.getElem_pmap] at hv
      have hi : i < 5 := (List.getElem?_eq_some_iff.1 hv).1
      rw [Nat.zero_add]
      refine h _ v ?_
      rw [flat_cell k5C_len ks j ks[j] i (List.getElem?_eq_getElem hj) hi]
      exact hv)
  have hcon' : Calls Try.prog 49 _ _ _ := hcon
  rw [List.take_of_length_le (by omega), any_pmap (fun k => covB k.b k.l x)] at hcon'
  exact hcon'
end
theorem cont_keys (v : Value) (A : Nat) (ks : List K5) (x : Int) (w : World) (hk : ∀ k ∈ ks, k5b k) (hx : -9223372036854775808 ≤ x ∧ x ≤ 9223372036854775807) (hA : Box w A #[.int .i64 x]) (hl : ks.length ≤ 1000)
    (base : Nat) (h : w.ownsRow base 23 5 v ks.length (ks.flatMap k5C)) :
    Calls Try.prog 49 #[v, .func (.func 50) #[] #[.pointer (some ⟨A, 0, none⟩)]] w fun e w' => e = .returned (.bool (ks.any fun k => covB k.b k.l x)) ∧ Below w.heap.size w w' := by
  rcases h.2 with ⟨rfl, h0⟩ | ⟨g, cap, cur, rfl, _⟩
  · obtain rfl := List.length_eq_zero_iff.1 h0
    exact (cont_empty none 0 _ w).mono fun e w' ⟨he, hw⟩ => ⟨he, by rw [hw]; exact Below.refl _ _⟩
  · obtain ⟨⟨o1, o2, o3, o4⟩, hc⟩ := own_cells h
    exact @cont_keys0 ⟨⟨⟨0, 0, 0, 0, 0⟩, by simp [k5b, kb]⟩⟩ g cap A ks x w hk hx hA o2 hl fun j u hj => (hc j u hj).1
theorem info_int1 : ∃ i, Try.prog.info? 3 = some i ∧ i.zero = some (.int .i64 0) ∧ i.size = 1 ∧ i.bytes = 8 := by
  refine ⟨_, rfl, ?_, ?_, ?_⟩ <;> kernel_rfl
theorem own_mono {w : World} {base base' : Nat} {e : TypeId} {size : Nat} {v : Value} {n : Nat} {xs : List Value} (h : w.ownsRow base e size v n xs) (hb : base' ≤ base) : w.ownsRow base' e size v n xs := by
  obtain ⟨h1, h2⟩ := h
  refine ⟨h1, ?_⟩
  rcases h2 with h2 | ⟨g, cap, cur, e1, e2, e3⟩
  · exact .inl h2
  · exact .inr ⟨g, cap, cur, e1, Nat.le_trans hb e2, e3⟩
def deref (w : World) (v : Value) : Value := match v with | .pointer (some a) => (w.cell? a).getD undef | _ => undef
theorem own_ne {w : World} {base A : Nat} {e : TypeId} {size : Nat} {v : Value} {n : Nat} {xs : List Value} (h : w.ownsRow base e size v n xs) (hA : w.heap.size ≤ A) : some A ≠ v.ownBlock := fun e => by
  have := (h.lt A e.symm).2
  omega
theorem box_grown {W w1 : World} {row : Option Nat} {k : Nat} {c : Array Value} (h : Box W k c) (hg : W.grownBy w1 row) (hne : some k ≠ row) : Box w1 k c :=
  ⟨Nat.lt_of_lt_of_le h.1 hg.size, fun o => by rw [hg.cell_far ⟨k, o, none⟩ h.1 hne]; exact h.2.1 o, fun o => by rw [hg.frozen_far ⟨k, o, none⟩ h.1 hne]; exact h.2.2 o⟩
set_option maxHeartbeats 8000000 in
theorem reach_places (B n : Nat) (s : K5 → Bool) (sm : Option Addr) (len cm : Nat) (d : Bool) (p : Int) (f : Int) (m : Nat) (w : World) (hM : KMap w B n s) (hn : n ≤ 500) (hf : 0 ≤ f ∧ f + m ≤ 1000) :
    Calls Try.prog 34 #[.agg #[.map (some B), .slice sm len cm, .bool d], .int .i64 p, .int .i64 f, .int .i64 (f + (m : Int))] w fun e w' => ∃ v b, e = .returned v ∧ Below w.heap.size w w' ∧ w'.ownsRow w.heap.size 3 1 v (filtN b f m).length ((filtN b f m).map nmC) ∧ ∀ j, b j = true ↔ ∃ k, s k = true ∧ srvB d k p = true ∧ covB k.b k.l j = true := by
  have cV := fun k W => reach_serves (.map (some B)) sm len cm d k p W
  obtain ⟨i0, hi0, hz0, hz1, hz2⟩ := info_key
  obtain ⟨j0, hj0, y0, y1, y2⟩ := info_int1
  have hBl := hM.lt
  have hB1 : Below w.heap.size w (w.alloc (.cells #[.map (some B), .slice sm len cm, .bool d] 54)) := (Below.refl _ _).alloc (Nat.le_refl _) _
  replace hM := hM.below hB1
  have bS := Box.new w #[.map (some B), .slice sm len cm, .bool d] 54
  obtain ⟨w2, hw2⟩ : ∃ w2, w2 = w.alloc (.cells #[.map (some B), .slice sm len cm, .bool d] 54) := ⟨_, rfl⟩
  have hs2 : w.heap.size < w2.heap.size := by rw [hw2]; simp
  rw [← hw2] at hM hB1 bS
  unfold kV5 at cV
  go_enter Try.func34, Try.ntmps34
  go_upto_region 2 with fail
  rw [← hw2]
  clear hw2
  have qS := bS.cell
  go_wp2_with (at_range; refine wpK_range _ rfl _ 52 rfl _ Try.underlying52 B n s rfl hM ?_; intro w3 cnt hrg hcn hb3 hs3)
  go_frame
  have bS3 := bS.below hb3
  have hB3 : Below w.heap.size w w3 := Below.step0 hB1 hb3
  have h23 : w2.heap.size < w3.heap.size := by omega
  have hB3w : B < w2.heap.size := by omega
  have h3w : w.heap.size ≤ w3.heap.size := by omega
  clear hM bS qS hb3 hs3 hB1
  go_loopw [9] (fun v wr => ∃ (ks : List K5) (left : K5 → Bool) (cnt : Nat), wr.ownsRow w3.heap.size 23 5 v ks.length (ks.flatMap k5C) ∧ KRange wr B w2.heap.size n s left cnt ∧ ks.length + cnt ≤ n ∧ (∀ k, k ∈ ks ↔ (s k = true ∧ left k = false) ∧ srvB d k p = true) ∧ Below w.heap.size w wr ∧ w3.heap.size ≤ wr.heap.size ∧ Box wr w.heap.size #[.map (some B), .slice sm len cm, .bool d]) (fun _ wr => wr.rangeLeft B w2.heap.size)
  case atStart => exact ⟨[], s, cnt, World.ownsRow_nil w3 _ _ _, hrg, by simpa using hcn, fun k => by simp, hB3, Nat.le_refl _, bS3⟩
  case round =>
    clear hrg hcn hB3 bS3
    obtain ⟨ks, left, cnt, hown, hrg, hc, hks, hBw, hsw, bS⟩ := hrel
    have hcl := hrg.left_eq
    have hok := hrg.ok
    have HK : Hid (∀ k, k ∈ ks ↔ (s k = true ∧ left k = false) ∧ srvB d k p = true) := hks
    clear hks
    have HOK : Hid (∀ k, s k = true → k5b k) := hok
    clear hok
    go_wp2_with (at_next; refine wpK_next _ rfl _ rfl B w2.heap.size n s left cnt rfl hrg ?_ ?_)
    · intro hl
      have hkb : ∀ k ∈ ks, k5b k := fun k hk => HOK.out k ((HK.out k).1 hk).1.1
      have hn5 : ks.length ≤ 1000 := by omega
      have HB : Hid (∀ j, (ks.any fun k => covB k.b k.l j) = true ↔ ∃ k, s k = true ∧ srvB d k p = true ∧ covB k.b k.l j = true) := by
        show ∀ j, _
        intro j
        rw [List.any_eq_true]
        constructor
        · rintro ⟨k, hk, h⟩
          have := (HK.out k).1 hk
          exact ⟨k, this.1.1, this.2, h⟩
        · rintro ⟨k, h1, h2, h3⟩
          exact ⟨k, (HK.out k).2 ⟨⟨h1, hl k⟩, h2⟩, h3⟩
      have cC := fun x W (hx : -9223372036854775808 ≤ x ∧ x ≤ 9223372036854775807) A hA hO => cont_keys u9 A ks x W hkb hx hA hn5 w3.heap.size hO
      clear hrg hcl HOK cV bS
      obtain ⟨b, hb⟩ : ∃ b : Int → Bool, b = fun j => ks.any fun k => covB k.b k.l j := ⟨_, rfl⟩
      have cC' : ∀ x W, (-9223372036854775808 ≤ x ∧ x ≤ 9223372036854775807) → ∀ A, Box W A #[.int .i64 x] → W.ownsRow w3.heap.size 23 5 u9 ks.length (ks.flatMap k5C) → Calls Try.prog 49 #[u9, .func (.func 50) #[] #[.pointer (some ⟨A, 0, none⟩)]] W fun e w' => e = .returned (.bool (b x)) ∧ Below W.heap.size W w' := by
        intro x W hx A hA hO
        rw [hb]
        exact cC x W hx A hA hO
      have HB' : Hid (∀ j, b j = true ↔ ∃ k, s k = true ∧ srvB d k p = true ∧ covB k.b k.l j = true) := by
        show ∀ j, _
        rw [hb]
        exact HB.out
      clear hb cC HB HK hkb hl
      go_upto_region 9 with fail
      obtain ⟨w9, hw9⟩ : ∃ w9, w9 = wr.alloc (.cells #[.int .i64 f] 3) := ⟨_, rfl⟩
      have bA : Box w9 wr.heap.size #[.int .i64 (f + ((0 : Nat) : Int))] := by rw [hw9]; simpa using Box.new wr #[.int .i64 f] 3
      have hb9 : Below wr.heap.size wr w9 := by rw [hw9]; exact (Below.refl _ _).alloc (Nat.le_refl _) _
      have own9 := own_low hown hb9
      have hB9 := Below.step0 hBw hb9
      have h9w : w.heap.size ≤ w9.heap.size := hB9.size
      rw [← hw9]
      clear hw9 hb9 hown hBw
      go_loopw [11, 12] (fun v q wq => ∃ (i A : Nat), i ≤ m ∧ q = .pointer (some ⟨A, 0, none⟩) ∧ Box wq A #[.int .i64 (f + (i : Int))] ∧ wq.ownsRow w9.heap.size 3 1 v (filtN b f i).length ((filtN b f i).map nmC) ∧ some A ≠ v.ownBlock ∧ Below w9.heap.size w9 wq) (fun _ q wq => (f + (m : Int) - intOf (deref wq q)).toNat)
      case atStart => exact ⟨0, wr.heap.size, Nat.zero_le _, rfl, bA, World.ownsRow_nil w9 _ _ _, (fun e => by cases e), Below.refl _ _⟩
      case round =>
        clear bA
        obtain ⟨i, A, hi, rfl, bA, own, hne, hB⟩ := hrel
        have qA := bA.cell
        have lA := bA.lt
        have hsz := hB.size
        have HO9 : Hid (wr.ownsRow w3.heap.size 23 5 u9 ks.length (ks.flatMap k5C)) := own_low own9 hB
        by_cases hlt : i < m
        · have g1 : f + (i : Int) < f + (m : Int) := by omega
          have hw1 : IntKind.i64.wrap (f + (i : Int) + 1) = f + (i : Int) + 1 := by rw [IntKind.wrap_i64]; omega
          have cK := cC' (f + (i : Int)) wr (by omega) A bA HO9.out
          have hfl := filt_len b f i
          have HM : Hid (deref wr (.pointer (some ⟨A, 0, none⟩)) = .int .i64 (f + (i : Int))) := by
            show (wr.cell? ⟨A, 0, none⟩).getD undef = _
            rw [qA]
            rfl
          cases hbb : b (f + (i : Int))
          · rw [hbb] at cK
            have hfe : filtN b f (i + 1) = filtN b f i := by
              show (if b (f + i) = true then _ else _) = _
              rw [hbb]
              rfl
            go_upto_region 13 with (go_at_call 49; refine cK.mono ?_; rintro e w10 ⟨rfl, hb10⟩; have qA2 := (bA.below hb10).cell; have lA2 := (bA.below hb10).lt; have hS10 := hb10.size)
            have own10 := own_low own hb10
            have hB10 := hB.trans (hb10.mono hsz)
            obtain ⟨w11, hw11⟩ : ∃ w11, w11 = w10.alloc (.cells #[.int .i64 (f + (i : Int) + 1)] 3) := ⟨_, rfl⟩
            have bA1 : Box w11 w10.heap.size #[.int .i64 (f + ((i + 1 : Nat) : Int))] := by rw [hw11]; have := Box.new w10 #[.int .i64 (f + (i : Int) + 1)] 3; rw [show f + ((i + 1 : Nat) : Int) = f + (i : Int) + 1 by omega]; exact this
            have hb11 : Below w10.heap.size w10 w11 := by rw [hw11]; exact (Below.refl _ _).alloc (Nat.le_refl _) _
            have own11 := own_low own10 hb11
            have hne11 : some w10.heap.size ≠ u11.ownBlock := own_ne own10 (Nat.le_refl _)
            have hB11 := hB10.trans (hb11.mono hB10.size)
            clear cK bA own hne hB HO9 cC' own9 qA lA hb10
            go_wp2
            go_roundw
            case rel =>
              rw [hw11] at bA1 own11 hB11
              exact ⟨i + 1, w10.heap.size, by omega, rfl, bA1, by rw [hfe]; exact own11, hne11, hB11⟩
            case measure =>
              rw [HM.out, ← hw11, show deref w11 (.pointer (some ⟨w10.heap.size, 0, none⟩)) = .int .i64 (f + ((i + 1 : Nat) : Int)) from by
                show (w11.cell? ⟨w10.heap.size, 0, none⟩).getD undef = _
                rw [bA1.cell]
                rfl]
              simp only [intOf]
              omega
          · rw [hbb] at cK
            have hfe : filtN b f (i + 1) = filtN b f i ++ [f + (i : Int)] := by
              show (if b (f + i) = true then _ else _) = _
              rw [hbb]
              rfl
            go_upto_region 12 with (go_at_call 49; refine cK.mono ?_; rintro e w10 ⟨rfl, hb10⟩; have bA2 := bA.below hb10; have qA2 := bA2.cell; have lA2 := bA2.lt; have hS10 := hb10.size)
            have own10 := own_low own hb10
            have hB10 := hB.trans (hb10.mono hsz)
            have hs10 : w9.heap.size ≤ w10.heap.size := by omega
            have bA3 := bA2.alloc (.cells #[.int .i64 (f + (i : Int))] 3)
            have hB11 := hB10.alloc hs10 (.cells #[.int .i64 (f + (i : Int))] 3)
            clear cK bA own hB HO9 cC' own9 qA lA hb10
            go_wp2_with (at_builtin; refine wpList_append_lies _ rfl _ _ _ rfl w9.heap.size 3 j0 _ 1 8 Try.underlying29 hj0 y0 y1 y2 rfl (by omega) _ (filtN b f i).length _ rfl (own10.alloc _) ⟨w10.heap.size, 0, none⟩ 1 1 [.int .i64 (f + (i : Int))] rfl rfl ?c1 ?c2 (by omega) ?c3 ?c4 ?c5 _ rfl ?_)
            case c1 => exact World.news_of_block (cs := #[.int .i64 (f + (i : Int))]) (t := 3) (fr := (0, 0)) (heap_alloc_new w10 (.cells #[.int .i64 (f + (i : Int))] 3))
            case c2 =>
              intro u hu
              rw [List.mem_singleton] at hu
              subst hu
              rfl
            case c3 => unfold maxLen; omega
            case c4 => omega
            case c5 => simp; omega
            intro g cap w12 own12 hgrow hat hlt12
            have hB12 : Below w9.heap.size w9 w12 := Below.grown hB11 hgrow (by simp; omega) (fun j hj => (own10.lt j hj).1)
            have bA12 := box_grown bA3 hgrow hne
            have qA12 := bA12.cell
            have lA12 := bA12.lt
            have hs12 := hB12.size
            obtain ⟨w13, hw13⟩ : ∃ w13, w13 = w12.alloc (.cells #[.int .i64 (f + (i : Int) + 1)] 3) := ⟨_, rfl⟩
            have bA1 : Box w13 w12.heap.size #[.int .i64 (f + ((i + 1 : Nat) : Int))] := by rw [hw13]; have := Box.new w12 #[.int .i64 (f + (i : Int) + 1)] 3; rw [show f + ((i + 1 : Nat) : Int) = f + (i : Int) + 1 by omega]; exact this
            have hb13 : Below w12.heap.size w12 w13 := by rw [hw13]; exact (Below.refl _ _).alloc (Nat.le_refl _) _
            have own13 := own_low own12 hb13
            have hne13 : some w12.heap.size ≠ (Value.slice (some ⟨g, 0, none⟩) ((filtN b f i).length + 1) cap).ownBlock := own_ne own12 (Nat.le_refl _)
            have hB13 := hB12.trans (hb13.mono hs12)
            clear own10 hB11 hgrow hat bA3 bA12 hne qA2 lA2 bA2 hB12 own12
            go_wp2
            go_roundw
            case rel =>
              rw [hw13] at bA1 own13 hB13
              refine ⟨i + 1, w12.heap.size, by omega, rfl, bA1, ?_, hne13, hB13⟩
              rw [hfe, List.length_append, List.map_append]
              exact own13
            case measure =>
              rw [HM.out, ← hw13, show deref w13 (.pointer (some ⟨w12.heap.size, 0, none⟩)) = .int .i64 (f + ((i + 1 : Nat) : Int)) from by
                show (w13.cell? ⟨w12.heap.size, 0, none⟩).getD undef = _
                rw [bA1.cell]
                rfl]
              simp only [intOf]
              omega
        · obtain rfl : i = m := by omega
          have g1 : ¬ f + (i : Int) < f + (i : Int) := by omega
          have hBw : Below w.heap.size w wr := hB9.trans (hB.mono h9w)
          have ownw := own_mono own h9w
          clear cC'
          go_wp2
          go_ret
          exact ⟨u11, rfl, hBw, b, ownw, HB'.out⟩
    · intro k w4 left' cnt' hk hlk hrg1 hleft hlt hof hs4 hen
      have cVk := cV k
      dsimp only [kV5] at hen ⊢
      have HF : Hid (∀ j, left' j = true ↔ left j = true ∧ j ≠ k) := hleft
      have hown4 := own_off hown hof h23
      have hs5 : w3.heap.size ≤ w4.heap.size := by omega
      have hB4 : Below w.heap.size w w4 := hBw.trans (hof.to (Nat.le_of_lt hs2) (by omega))
      have bS4 := (hof.box bS (by omega)).alloc (.cells #[.int .i64 k.p, .int .i64 k.b, .int .i64 k.l, .int .i64 k.a, .int .i64 k.s] 23)
      have hb1 : Below w4.heap.size w4 (w4.alloc (.cells #[.int .i64 k.p, .int .i64 k.b, .int .i64 k.l, .int .i64 k.a, .int .i64 k.s] 23)) := (Below.refl _ _).alloc (Nat.le_refl _) _
      have hrg2 := hrg1.below hb1
      have hB5 := Below.step0 hB4 hb1
      have hown5 := own_low hown4 hb1
      have bK := Box.new w4 #[.int .i64 k.p, .int .i64 k.b, .int .i64 k.l, .int .i64 k.a, .int .i64 k.s] 23
      have HO : Hid (s k = true ∧ left k = true) := ⟨hrg.sub k hlk, hlk⟩
      have h5w : w.heap.size ≤ w4.heap.size := by omega
      have hstep : Hid (∀ (ks' : List K5), (∀ j, j ∈ ks' ↔ j ∈ ks ∨ (j = k ∧ srvB d k p = true)) → ∀ j, j ∈ ks' ↔ (s j = true ∧ left' j = false) ∧ srvB d j p = true) := by
        show ∀ ks', _
        intro ks' h' j
        have hj := HF.out j
        have hkj := HK.out j
        rw [h', hkj]
        by_cases e : j = k
        · subst e
          have : left' j = false := by
            cases h : left' j
            · rfl
            · exact absurd rfl (hj.1 h).2
          simp [this, HO.out.1, HO.out.2]
        · have : left' j = left j := by
            cases h : left j
            · cases h' : left' j
              · rfl
              · rw [(hj.1 h').1] at h; cases h
            · exact hj.2 ⟨h, e⟩
          simp [this, e]
      have qS4 := bS4.cell
      have qK4 := bK.cell
      have lS4 := bS4.lt
      have lK4 := bK.lt
      clear hleft hlk hrg1 hB4 hBw hown hrg hs4 hof bS cV hb1 hown4
      cases hsv : srvB d k p
      · rw [hsv] at cVk
        go_upto_region 5 with fail
        obtain ⟨w5, hw5⟩ : ∃ w5, w5 = w4.alloc (.cells #[.int .i64 k.p, .int .i64 k.b, .int .i64 k.l, .int .i64 k.a, .int .i64 k.s] 23) := ⟨_, rfl⟩
        rw [← hw5] at hrg2 hB5 hown5 bK qS4 qK4 lS4 lK4 bS4 ⊢
        have hs7 : w4.heap.size < w5.heap.size := lK4
        clear hw5
        go_wp2_with (go_at_call 48; refine (cVk _).mono ?_; rintro e w6 ⟨rfl, hbb⟩)
        have hrg6 := hrg2.below hbb
        go_roundw
        case rel => exact ⟨ks, left', cnt', own_low hown5 hbb, hrg6, by omega, hstep.out ks (fun j => by simp [hsv]), Below.step0 hB5 hbb, by have := hbb.size; omega, bS4.below hbb⟩
        case measure => rw [hrg6.left_eq]; omega
      · rw [hsv] at cVk
        have hn5 : ks.length ≤ 500 := by omega
        go_upto_region 5 with fail
        obtain ⟨w5, hw5⟩ : ∃ w5, w5 = w4.alloc (.cells #[.int .i64 k.p, .int .i64 k.b, .int .i64 k.l, .int .i64 k.a, .int .i64 k.s] 23) := ⟨_, rfl⟩
        rw [← hw5] at hrg2 hB5 hown5 bK qS4 qK4 lS4 lK4 bS4 ⊢
        have hs7 : w4.heap.size < w5.heap.size := lK4
        clear hw5
        go_upto_region 6 with (go_at_call 48; refine (cVk _).mono ?_; rintro e w6 ⟨rfl, hbb⟩)
        replace hrg2 := hrg2.below hbb
        replace hB5 := Below.step0 hB5 hbb
        replace hown5 := own_low hown5 hbb
        replace bK := bK.below hbb
        replace bS4 := bS4.below hbb
        have qK6 := bK.cell
        have lK6 := bK.lt
        have hs8 : w3.heap.size ≤ w6.heap.size := by have := hbb.size; omega
        have hb7 : Below w6.heap.size w6 (w6.alloc (.cells #[.int .i64 k.p, .int .i64 k.b, .int .i64 k.l, .int .i64 k.a, .int .i64 k.s] 23)) := (Below.refl _ _).alloc (Nat.le_refl _) _
        have hrg7 := hrg2.below hb7
        have hB7 := Below.step0 hB5 hb7
        have bS7 := bS4.below hb7
        clear qS4 qK4 lS4 lK4 hbb cVk bK hrg2 hB5 hb7 bS4
        go_wp2_with (at_builtin; refine wpList_append_lies _ rfl _ _ _ rfl w3.heap.size 23 i0 _ 5 40 Try.underlying32 hi0 hz0 hz1 hz2 rfl (by omega) _ ks.length _ rfl (hown5.alloc _) ⟨w6.heap.size, 0, none⟩ 1 1 (k5C k) rfl rfl ?c1 ?c2 (by omega) ?c3 ?c4 ?c5 _ rfl ?_)
        case c1 => exact World.news_of_block (cs := #[.int .i64 k.p, .int .i64 k.b, .int .i64 k.l, .int .i64 k.a, .int .i64 k.s]) (t := 23) (fr := (0, 0)) (heap_alloc_new w6 (.cells #[.int .i64 k.p, .int .i64 k.b, .int .i64 k.l, .int .i64 k.a, .int .i64 k.s] 23))
        case c2 =>
          intro u hu
          simp only [k5C, List.mem_cons, List.not_mem_nil, or_false] at hu
          rcases hu with rfl | rfl | rfl | rfl | rfl <;> rfl
        case c3 => unfold maxLen; omega
        case c4 => omega
        case c5 => simp; omega
        intro g cap w8 hown8 hgrow hat hlt8
        have hB8 : Below w.heap.size w w8 := Below.grown hB7 hgrow (by simp; omega) (fun j hj => by have := (hown5.lt j hj).1; omega)
        have hrg8 : KRange w8 B w2.heap.size n s left' cnt' := hrg7.grown hgrow (fun e => by have := (hown5.lt _ e.symm).1; omega) (fun e => by have := (hown5.lt _ e.symm).1; omega)
        have bS8 : Box w8 w.heap.size #[.map (some B), .slice sm len cm, .bool d] := by
          have hne : some w.heap.size ≠ _ := fun e => by have := (hown5.lt _ e.symm).1; omega
          exact box_grown bS7 hgrow hne
        have hs9 : w3.heap.size ≤ w8.heap.size := by have := hgrow.size; simp at this; omega
        clear hown5 hB7 hrg7 hgrow hat bS7
        go_wp2
        go_roundw
        case rel =>
          refine ⟨ks ++ [k], left', cnt', ?_, hrg8, by rw [List.length_append]; simp; omega, hstep.out _ (fun j => by rw [List.mem_append, List.mem_singleton]; simp [hsv]), hB8, hs9, bS8⟩
          rw [List.length_append, List.flatMap_append, List.flatMap_cons, List.flatMap_nil, List.append_nil]
          exact hown8
        case measure => rw [hrg8.left_eq]; omega
set_option maxHeartbeats 4000000 in
theorem reach_cls_no (x : MC) (q : MA) (p : Int) (d : Bool) (w : World) (hA : McAt w x q) (hO : McB x) (h : ¬ mcE x = 0) :
    Calls Try.prog 14 #[.agg (mcC x q).toArray, .int .i64 p, .bool d] w fun e w' => e = .returned (.tuple #[.slice none 0 0, .int .i64 (mcE x)]) ∧ Below w.heap.size w w' := by
  have cS := fun w hA => reach_seek_no x q d w hA hO h
  have hi : (Try.prog.info? 31).map (·.size) = some (mcC x q).length := mach_info hO.r8
  have HA : Hid (∀ w', Below w.heap.size w w' → McAt w' x q) := fun w' hb => hA.below hb
  obtain ⟨E, hE⟩ : ∃ E, mcE x = E := ⟨_, rfl⟩
  rw [hE] at cS h ⊢
  have gE : (E != 0) = true := by simpa using h
  have hB : Below w.heap.size w (w.alloc (.cells (mcC x q).toArray 31)) := (Below.refl _ _).alloc (Nat.le_refl _) _
  have bM := Box.new w (mcC x q).toArray 31
  clear hA hE h
  generalize mcC x q = L at *
  go_enter Try.func14, Try.ntmps14
  go_wp2_with (first | ((with_reducible refine at_load ?_); refine pl_load_box (by rfl) 31 (.tmp 3) rfl w.heap.size (by rfl) L bM _ Try.underlying31 rfl hi ?_) | (go_at_call 23; refine (cS _ (HA.out _ hB)).mono ?_; rintro e w1 ⟨rfl, hbb⟩; replace hB := Below.step0 hB hbb; clear hbb cS bM))
  exact bodyPost_ret (v := .tuple #[.slice none 0 0, .int .i64 E]) (by simp [results, Try.results14, go_sem]) rfl ⟨rfl, hB.alloc hB.size _⟩
set_option maxHeartbeats 4000000 in
theorem reach_cls (x : MC) (q : MA) (p : Int) (d : Bool) (w : World) (hA : McAt w x q) (hO : McB x) (zm : x.m.length ≤ q.cm) (ym : q.cm ≤ maxLen) (h : mcE x = 0) :
    Calls Try.prog 14 #[.agg (mcC x q).toArray, .int .i64 p, .bool d] w fun e w' => ∃ v b, e = .returned (.tuple #[v, .int .i64 0]) ∧ Below w.heap.size w w' ∧ w'.ownsRow w.heap.size 3 1 v (filtN b 0 x.m.length).length ((filtN b 0 x.m.length).map nmC) ∧ ∀ j, b j = true ↔ ∃ k, Has x d k ∧ srvB d k p = true ∧ covB k.b k.l j = true := by
  have cS := fun w hA => reach_seek x q d w hA hO zm ym h
  have h8 := hO.r8
  have hlm := (mem_small (mc_zero.1 h).2.2.1).1
  have hi : (Try.prog.info? 31).map (·.size) = some (mcC x q).length := mach_info hO.r8
  have HA : Hid (∀ w', Below w.heap.size w w' → McAt w' x q) := fun w' hb => hA.below hb
  have hB : Below w.heap.size w (w.alloc (.cells (mcC x q).toArray 31)) := (Below.refl _ _).alloc (Nat.le_refl _) _
  have bM := Box.new w (mcC x q).toArray 31
  have cP := fun B n s W hM hn => reach_places B n s q.m x.m.length q.cm d p 0 x.m.length W hM hn (by omega)
  rw [show (0 : Int) + (x.m.length : Int) = (x.m.length : Int) from Int.zero_add _] at cP
  clear hA h
  obtain ⟨L, hL⟩ : ∃ L, mcC x q = L := ⟨_, rfl⟩
  have HL : Hid (mcC x q = L) := hL
  rw [hL] at hi hB bM cS ⊢
  clear hL
  go_enter Try.func14, Try.ntmps14
  go_upto_region 2 with (first | ((with_reducible refine at_load ?_); refine pl_load_box (by rfl) 31 (.tmp 3) rfl w.heap.size (by rfl) L bM _ Try.underlying31 rfl hi ?_) | (go_at_call 23; refine (cS _ (HA.out _ hB)).mono ?_; rintro e w1 ⟨B, n, s, rfl, hM, hn, hbb, hBB⟩; replace hB := Below.step0 hB hbb; replace bM := bM.below hbb; have HN : Hid (∀ k, s k = true ↔ Has x d k) := hn.2; have hn5 := hn.1; clear hbb cS hn))
  obtain ⟨w2, hw2⟩ : ∃ w2, w2 = w1.alloc (.cells #[.map (some B), .slice q.m x.m.length q.cm, .bool d] 54) := ⟨_, rfl⟩
  have bS : Box w2 w1.heap.size #[.map (some B), .slice q.m x.m.length q.cm, .bool d] := by rw [hw2]; exact Box.new _ _ _
  have hB1 : Below w1.heap.size w1 w2 := by rw [hw2]; exact (Below.refl _ _).alloc (Nat.le_refl _) _
  replace hM := hM.below hB1
  replace hB := Below.step0 hB hB1
  replace bM := bM.below hB1
  obtain ⟨-, -, -, -, -, lm, -, -⟩ := mc_tail (q := q) (by rw [HL.out]; exact bM) h8
  have qS := bS.cell
  have hl1 := hB.size
  rw [← hw2]
  clear hw2 hB1 bM
  go_wp2_with (go_at_call 34; refine (cP B n s w2 hM hn5).mono ?_; rintro e w3 ⟨v, b, rfl, hbb, hown, hb⟩; have HO : Hid (w3.ownsRow w.heap.size 3 1 v (filtN b 0 x.m.length).length ((filtN b 0 x.m.length).map nmC)) := own_mono hown hl1; clear hown)
  have hres : ∀ j, b j = true ↔ ∃ k, Has x d k ∧ srvB d k p = true ∧ covB k.b k.l j = true := fun j => by
    rw [hb j]
    exact ⟨fun ⟨k, h1, h2⟩ => ⟨k, (HN.out k).1 h1, h2⟩, fun ⟨k, h1, h2⟩ => ⟨k, (HN.out k).2 h1, h2⟩⟩
  refine bodyPost_ret (v := .tuple #[v, .int .i64 0]) (by simp [results, Try.results14, go_sem]) rfl ?_
  exact ⟨v, b, rfl, Below.step0 hB hbb, HO.out, hres⟩
set_option maxHeartbeats 4000000 in
theorem reach_sls_no (x : MC) (q : MA) (p : Int) (d : Bool) (w : World) (hA : McAt w x q) (hO : McB x) (h : ¬ mcE x = 0) :
    Calls Try.prog 17 #[.agg (mcC x q).toArray, .int .i64 p, .bool d] w fun e w' => e = .returned (.tuple #[.slice none 0 0, .int .i64 (mcE x)]) ∧ Below w.heap.size w w' := by
  have cS := fun w hA => reach_seek_no x q d w hA hO h
  have hi : (Try.prog.info? 31).map (·.size) = some (mcC x q).length := mach_info hO.r8
  have HA : Hid (∀ w', Below w.heap.size w w' → McAt w' x q) := fun w' hb => hA.below hb
  obtain ⟨E, hE⟩ : ∃ E, mcE x = E := ⟨_, rfl⟩
  rw [hE] at cS h ⊢
  have gE : (E != 0) = true := by simpa using h
  have hB : Below w.heap.size w (w.alloc (.cells (mcC x q).toArray 31)) := (Below.refl _ _).alloc (Nat.le_refl _) _
  have bM := Box.new w (mcC x q).toArray 31
  clear hA hE h
  generalize mcC x q = L at *
  go_enter Try.func17, Try.ntmps17
  go_wp2_with (first | ((with_reducible refine at_load ?_); refine pl_load_box (by rfl) 31 (.tmp 3) rfl w.heap.size (by rfl) L bM _ Try.underlying31 rfl hi ?_) | (go_at_call 23; refine (cS _ (HA.out _ hB)).mono ?_; rintro e w1 ⟨rfl, hbb⟩; replace hB := Below.step0 hB hbb; clear hbb cS bM))
  exact bodyPost_ret (v := .tuple #[.slice none 0 0, .int .i64 E]) (by simp [results, Try.results17, go_sem]) rfl ⟨rfl, hB.alloc hB.size _⟩
set_option maxHeartbeats 4000000 in
theorem reach_sls (x : MC) (q : MA) (p : Int) (d : Bool) (w : World) (hA : McAt w x q) (hO : McB x) (zm : x.m.length ≤ q.cm) (ym : q.cm ≤ maxLen) (h : mcE x = 0) :
    Calls Try.prog 17 #[.agg (mcC x q).toArray, .int .i64 p, .bool d] w fun e w' => ∃ v b, e = .returned (.tuple #[v, .int .i64 0]) ∧ Below w.heap.size w w' ∧ w'.ownsRow w.heap.size 3 1 v (filtN b 1 63).length ((filtN b 1 63).map nmC) ∧ ∀ j, b j = true ↔ ∃ k, Has x d k ∧ srvB d k p = true ∧ covB k.b k.l j = true := by
  have cS := fun w hA => reach_seek x q d w hA hO zm ym h
  have h8 := hO.r8
  have hlm := (mem_small (mc_zero.1 h).2.2.1).1
  have hi : (Try.prog.info? 31).map (·.size) = some (mcC x q).length := mach_info hO.r8
  have HA : Hid (∀ w', Below w.heap.size w w' → McAt w' x q) := fun w' hb => hA.below hb
  have hB : Below w.heap.size w (w.alloc (.cells (mcC x q).toArray 31)) := (Below.refl _ _).alloc (Nat.le_refl _) _
  have bM := Box.new w (mcC x q).toArray 31
  have cP := fun B n s W hM hn => reach_places B n s q.m x.m.length q.cm d p 1 63 W hM hn (by omega)
  rw [show (1 : Int) + ((63 : Nat) : Int) = 64 from rfl] at cP
  clear hA h
  obtain ⟨L, hL⟩ : ∃ L, mcC x q = L := ⟨_, rfl⟩
  have HL : Hid (mcC x q = L) := hL
  rw [hL] at hi hB bM cS ⊢
  clear hL
  go_enter Try.func17, Try.ntmps17
  go_upto_region 2 with (first | ((with_reducible refine at_load ?_); refine pl_load_box (by rfl) 31 (.tmp 3) rfl w.heap.size (by rfl) L bM _ Try.underlying31 rfl hi ?_) | (go_at_call 23; refine (cS _ (HA.out _ hB)).mono ?_; rintro e w1 ⟨B, n, s, rfl, hM, hn, hbb, hBB⟩; replace hB := Below.step0 hB hbb; replace bM := bM.below hbb; have HN : Hid (∀ k, s k = true ↔ Has x d k) := hn.2; have hn5 := hn.1; clear hbb cS hn))
  obtain ⟨w2, hw2⟩ : ∃ w2, w2 = w1.alloc (.cells #[.map (some B), .slice q.m x.m.length q.cm, .bool d] 54) := ⟨_, rfl⟩
  have bS : Box w2 w1.heap.size #[.map (some B), .slice q.m x.m.length q.cm, .bool d] := by rw [hw2]; exact Box.new _ _ _
  have hB1 : Below w1.heap.size w1 w2 := by rw [hw2]; exact (Below.refl _ _).alloc (Nat.le_refl _) _
  replace hM := hM.below hB1
  replace hB := Below.step0 hB hB1
  replace bM := bM.below hB1
  obtain ⟨-, -, -, -, -, lm, -, -⟩ := mc_tail (q := q) (by rw [HL.out]; exact bM) h8
  have qS := bS.cell
  have hl1 := hB.size
  rw [← hw2]
  clear hw2 hB1 bM
  go_wp2_with (go_at_call 34; refine (cP B n s w2 hM hn5).mono ?_; rintro e w3 ⟨v, b, rfl, hbb, hown, hb⟩; have HO : Hid (w3.ownsRow w.heap.size 3 1 v (filtN b 1 63).length ((filtN b 1 63).map nmC)) := own_mono hown hl1; clear hown)
  have hres : ∀ j, b j = true ↔ ∃ k, Has x d k ∧ srvB d k p = true ∧ covB k.b k.l j = true := fun j => by
    rw [hb j]
    exact ⟨fun ⟨k, h1, h2⟩ => ⟨k, (HN.out k).1 h1, h2⟩, fun ⟨k, h1, h2⟩ => ⟨k, (HN.out k).2 h1, h2⟩⟩
  refine bodyPost_ret (v := .tuple #[v, .int .i64 0]) (by simp [results, Try.results17, go_sem]) rfl ?_
  exact ⟨v, b, rfl, Below.step0 hB hbb, HO.out, hres⟩
end Go.Proofs.Ytlfeglljpfihhaa
