/- What laws ask of lists: Has, Eq, cellsIn. -/
import Derived.Test.YtlfeglljpfihhaaRows
import Derived.Test.YtlfeglljpfihhaaBits
import Derived.Test.YtlfeglljpfihhaaKeyPure
import Derived.Test.YtlfeglljpfihhaaCellPure
import Derived.Test.YtlfeglljpfihhaaValsArg
import Derived.Test.YtlfeglljpfihhaaMemPure
import Derived.Test.YtlfeglljpfihhaaMachArg
import Derived.Test.YtlfeglljpfihhaaMachMid
import Derived.Test.YtlfeglljpfihhaaStepChk
import Derived.Test.YtlfeglljpfihhaaReachPure
import Derived.WalkKit
import Derived.ProofKit
import Derived.OpenShut
import Derived.MapKept
import Derived.Below
import Derived.OwnWalk
import Derived.Maps.OwnOps
import Derived.Maps.OwnSet
import Derived.Deep.MidRow
import Derived.Deep.CutBlock
import Derived.Deep.RegionHeld3
namespace Go.Proofs.Ytlfeglljpfihhaa
open Go.ChangeShapes Go.WideShapes Go.ChangeAt Go.RowKit
set_option linter.unusedSimpArgs false
set_option linter.unusedVariables false
set_option maxRecDepth 100000

set_option maxHeartbeats 1000000 in
theorem has_int (a : Option Addr) (c : Nat) (ns : List Int) (x : Int) (w : World) (hA : NumsAt w a ns) (hl : ns.length ≤ maxLen) :
    Calls Try.prog 21 #[.slice a ns.length c, .int .i64 x] w fun e w' => e = .returned (.bool (ns.contains x)) ∧ w' = w := by
  obtain ⟨R, hR⟩ : ∃ R, ns.contains x = R := ⟨_, rfl⟩
  rw [hR]
  have HR : Hid (ns.contains x = R) := hR
  clear hR
  unfold maxLen at hl
  go_enter Try.func21, Try.ntmps21
  go_wp2
  go_loop [9] (fun i => ∃ k : Nat, k ≤ ns.length ∧ i = .int .i64 (k : Int) ∧ (ns.drop k).contains x = R) (fun i => ns.length - (intOf i).toNat)
  case atStart => exact ⟨0, Nat.zero_le _, rfl, HR.out⟩
  case round =>
    obtain ⟨k, hk, rfl, hs⟩ := hrel
    by_cases hlt : k < ns.length
    · have gk : (k : Int) < (ns.length : Int) := by omega
      have hw1 : IntKind.i64.wrap ((k : Int) + 1) = (k : Int) + 1 := by rw [IntKind.wrap_i64]; omega
      obtain ⟨n, hn⟩ : ∃ n, ns[k]? = some n := ⟨_, List.getElem?_eq_getElem hlt⟩
      obtain ⟨B, off, rfl, hBl, c0⟩ := hA.at hn
      rw [drop_one hn, List.contains_cons] at hs
      by_cases h0 : x = n
      · have hs' : R = true := by rw [← hs, h0]; simp
        have g0 : (x == n) = true := by simpa using h0
        subst hs'
        clear hn HR hA hs
        go_wp2
        go_ret
        exact ⟨rfl, rfl⟩
      · have g0 : (x == n) = false := by simpa using h0
        have HS : Hid ((ns.drop (k + 1)).contains x = R) := by
          show _ = R
          rw [← hs, g0]
          simp
        clear hs hn HR hA
        go_wp2
        go_round
        case rel => exact ⟨k + 1, by omega, by go_num, HS.out⟩
        case measure => simp [intOf]; omega
    · obtain rfl : k = ns.length := by omega
      have gk : ¬ (ns.length : Int) < (ns.length : Int) := by omega
      rw [List.drop_length] at hs
      have hs' : R = false := hs.symm
      subst hs'
      clear hs HR
      go_wp2
      go_ret
      exact ⟨rfl, rfl⟩
/-- The five cells of one of them. -/
def At5 (w : World) (B o : Nat) (k : K5) : Prop :=
  w.cell? ⟨B, o, none⟩ = some (.int .i64 k.p) ∧ w.cell? ⟨B, o + 1, none⟩ = some (.int .i64 k.b) ∧ w.cell? ⟨B, o + 2, none⟩ = some (.int .i64 k.l) ∧ w.cell? ⟨B, o + 3, none⟩ = some (.int .i64 k.a) ∧ w.cell? ⟨B, o + 4, none⟩ = some (.int .i64 k.s)
theorem keys_at {w : World} {a : Option Addr} {ks : List K5} {i : Nat} {k : K5} (h : RowAt w a (ks.flatMap k5C)) (hk : ks[i]? = some k) : ∃ B off : Nat, a = some ⟨B, off, none⟩ ∧ B < w.heap.size ∧ At5 w B (off + i * 5) k := by
  rcases h with h | ⟨B, off, e, hB, hc⟩
  · cases ks with
    | nil => simp at hk
    | cons v vs => cases h
  · refine ⟨B, off, e, hB, ?_⟩
    have g : ∀ (j : Nat) (u : Value), j < 5 → (k5C k)[j]? = some u → w.cell? ⟨B, off + i * 5 + j, none⟩ = some u := fun j u hj hu => by
      rw [Nat.add_assoc]
      exact hc _ _ (by rw [flat_cell (n := 5) (fun _ => rfl) ks i k j hk hj]; exact hu)
    exact ⟨g 0 _ (by omega) rfl, g 1 _ (by omega) rfl, g 2 _ (by omega) rfl, g 3 _ (by omega) rfl, g 4 _ (by omega) rfl⟩
/-- Two keys are one. -/
def kEq (a b : K5) : Bool := a.p == b.p && (a.b == b.b && (a.l == b.l && (a.a == b.a && a.s == b.s)))
theorem kEq_iff {a b : K5} : kEq a b = true ↔ a = b := by
  obtain ⟨p, b1, l, q, s⟩ := a
  obtain ⟨p', b2, l', q', s'⟩ := b
  simp only [kEq, Bool.and_eq_true, beq_iff_eq, K5.mk.injEq]
theorem eql_key (a b : K5) (w : World) : (Op.equalIn 10000 23 (.agg #[.int .i64 a.p, .int .i64 a.b, .int .i64 a.l, .int .i64 a.a, .int .i64 a.s]) (.agg #[.int .i64 b.p, .int .i64 b.b, .int .i64 b.l, .int .i64 b.a, .int .i64 b.s])).run Try.prog w = .ok (kEq a b) w := by
  unfold kEq
  simp [go_sem]
  by_cases h1 : a.p = b.p
  · by_cases h2 : a.b = b.b
    · by_cases h3 : a.l = b.l
      · by_cases h4 : a.a = b.a
        · by_cases h5 : a.s = b.s <;> simp [h1, h2, h3, h4, h5]
        · simp [h1, h2, h3, h4]
      · simp [h1, h2, h3]
    · simp [h1, h2]
  · simp [h1]
set_option maxHeartbeats 1000000 in
theorem has_key (a : Option Addr) (c : Nat) (ks : List K5) (k : K5) (w : World) (hA : RowAt w a (ks.flatMap k5C)) (hl : ks.length ≤ maxLen) :
    Calls Try.prog 19 #[.slice a ks.length c, .agg #[.int .i64 k.p, .int .i64 k.b, .int .i64 k.l, .int .i64 k.a, .int .i64 k.s]] w fun e w' => ∃ R : Bool, e = .returned (.bool R) ∧ (R = true ↔ k ∈ ks) ∧ Below w.heap.size w w' := by
  have HA : Hid (∀ w', Below w.heap.size w w' → RowAt w' a (ks.flatMap k5C)) := fun w' hb => hA.below hb
  have bK := Box.new w #[.int .i64 k.p, .int .i64 k.b, .int .i64 k.l, .int .i64 k.a, .int .i64 k.s] 23
  have hB : Below w.heap.size w (w.alloc (.cells #[.int .i64 k.p, .int .i64 k.b, .int .i64 k.l, .int .i64 k.a, .int .i64 k.s] 23)) := (Below.refl _ _).alloc (Nat.le_refl _) _
  clear hA
  unfold maxLen at hl
  go_enter Try.func19, Try.ntmps19
  go_upto_region 2 with fail
  obtain ⟨w0, hw0⟩ : ∃ w0, w0 = w.alloc (.cells #[.int .i64 k.p, .int .i64 k.b, .int .i64 k.l, .int .i64 k.a, .int .i64 k.s] 23) := ⟨_, rfl⟩
  rw [← hw0] at bK hB ⊢
  clear hw0
  go_loopw [9] (fun i wr => ∃ j : Nat, j ≤ ks.length ∧ i = .int .i64 (j : Int) ∧ Below w.heap.size w wr ∧ Box wr w.heap.size #[.int .i64 k.p, .int .i64 k.b, .int .i64 k.l, .int .i64 k.a, .int .i64 k.s] ∧ ∀ y ∈ ks.take j, k ≠ y) (fun i _ => ks.length - (intOf i).toNat)
  case atStart => exact ⟨0, Nat.zero_le _, rfl, hB, bK, fun y hy => by rw [List.take_zero] at hy; cases hy⟩
  case round =>
    clear bK hB
    obtain ⟨j, hj, rfl, hB, bK, hno⟩ := hrel
    have HN : Hid (∀ y ∈ ks.take j, k ≠ y) := hno
    have qK := bK.cell
    have lK := bK.lt
    clear hno
    by_cases hlt : j < ks.length
    · have gk : (j : Int) < (ks.length : Int) := by omega
      have hw1 : IntKind.i64.wrap ((j : Int) + 1) = (j : Int) + 1 := by rw [IntKind.wrap_i64]; omega
      obtain ⟨y, hy⟩ : ∃ y, ks[j]? = some y := ⟨_, List.getElem?_eq_getElem hlt⟩
      obtain ⟨B, off, rfl, hBl, c0, c1, c2, c3, c4⟩ := keys_at (HA.out _ hB) hy
      have HY : Hid (ks[j]? = some y) := hy
      have hs := hB.size
      clear hy
      by_cases e : k = y
      · subst e
        have hB2 := hB.alloc hs (.cells #[.int .i64 k.p, .int .i64 k.b, .int .i64 k.l, .int .i64 k.a, .int .i64 k.s] 23)
        clear hB bK
        go_wp2
        go_ret
        first | exact ⟨true, rfl, ⟨fun _ => List.mem_of_getElem? HY.out, fun _ => rfl⟩, hB2⟩ | exact ⟨⟨true, rfl, fun _ => List.mem_of_getElem? HY.out, fun _ => rfl⟩, hB2⟩ | exact ⟨⟨true, rfl, ⟨fun _ => List.mem_of_getElem? HY.out, fun _ => rfl⟩⟩, hB2⟩
      · have hB2 := hB.alloc hs (.cells #[.int .i64 y.p, .int .i64 y.b, .int .i64 y.l, .int .i64 y.a, .int .i64 y.s] 23)
        have bK2 := bK.alloc (.cells #[.int .i64 y.p, .int .i64 y.b, .int .i64 y.l, .int .i64 y.a, .int .i64 y.s] 23)
        have HE : Hid (k ≠ y) := e
        have hq : ∀ W, (Op.equalIn 10000 23 (.agg #[.int .i64 k.p, .int .i64 k.b, .int .i64 k.l, .int .i64 k.a, .int .i64 k.s]) (.agg #[.int .i64 y.p, .int .i64 y.b, .int .i64 y.l, .int .i64 y.a, .int .i64 y.s])).run Try.prog W = .ok false W := fun W => by
          rw [eql_key]
          cases h : kEq k y
          · rfl
          · exact absurd (kEq_iff.1 h) e
        have HN2 : Hid (∀ z ∈ ks.take (j + 1), k ≠ z) := by
          show ∀ z ∈ ks.take (j + 1), k ≠ z
          intro z hz
          rw [List.take_add_one, HY.out] at hz
          rcases List.mem_append.1 hz with h | h
          · exact HN.out z h
          · have : z = y := by simpa using h
            rw [this]
            exact e
        clear hB bK e
        go_wp2
        go_roundw
        case rel => exact ⟨j + 1, by omega, rfl, hB2, bK2, HN2.out⟩
        case measure => simp [intOf]; omega
    · obtain rfl : j = ks.length := by omega
      have gk : ¬ (ks.length : Int) < (ks.length : Int) := by omega
      have hres : k ∉ ks := fun h => HN.out k (by rw [List.take_length]; exact h) rfl
      go_wp2
      go_ret
      exact ⟨rfl, hB⟩
/-- Block B is a map of at most n numbers: those that s names. -/
structure IMap (w : World) (B n : Nat) (s : Int → Bool) : Prop where
  own : ∃ D : DataW Unit, w.ownsMap Try.prog 3 (plainElem Try.prog 4) B n D ∧ Maps.IsMap D ∧ ∀ k, D.atKey (.int .i64 k) (.lit (.bool false)) = .lit (.bool (s k))
theorem int_law : Maps.Keyed Try.prog 3 := Maps.int_keyed Try.underlying3
theorem zero_bool (w : World) : (zeroValue 4).run Try.prog w = .ok (.bool false) w := by kernel_rfl
theorem int_key {k : Int} (hk : nmOk k) : keyOf Try.prog 3 (.int .i64 k) = some (.int .i64 k) := Maps.keyOf_int_mk Try.underlying3 (WalkArith.wf_i64 hk)
theorem IMap.made (w : World) : IMap (w.alloc (.map #[] 0)) w.heap.size 0 (fun _ => false) :=
  ⟨⟨.map [], World.ownsMap_made w _ _ _, Maps.isMap_empty, fun _ => rfl⟩⟩
theorem plain_bool_inv {v : Value} {z : DataW Unit × List MemPlace} (h : plainElem Try.prog 4 v = some z) : ∃ b, v = .bool b ∧ z = (.lit (.bool b), []) := by
  unfold plainElem at h
  rw [Try.underlying4] at h
  cases v <;> simp at h
  exact ⟨_, rfl, h.symm⟩
section
variable (w : World) {ops : Array Oper} {rest : List Oper} {o : Oper} {a : Act} {Q : Exit → Act → World → Prop}
theorem wpI_look (hg : o.guard = none) (m x : Operand) (t : TypeId) (hop : o.op = Op.lookup t m x false) (ht : Try.prog.underlying t = some (.map 3 4)) (B n : Nat) (s : Int → Bool) (k : Int)
    (hm : a.eval m = .map (some B)) (h : IMap w B n s) (hx : a.eval x = .int .i64 k) (hk : nmOk k)
    (hK : wpList Try.prog ops Q rest (a.put o.dst (.bool (s k))) w) : wpList Try.prog ops Q (o :: rest) a w := by
  refine wpList_plain hg fun K' hK' => ?_
  obtain ⟨D, h1, _, h2⟩ := h.own
  obtain ⟨v, ps, hr, hv⟩ := h1.lookup int_law ht (zero_bool w) (plainElem_bool Try.underlying4 false) (int_key hk)
  rw [h2 k] at hv
  obtain ⟨b, rfl, hb⟩ := plain_bool_inv hv
  simp only [Prod.mk.injEq, DataW.lit.injEq, Lit.bool.injEq] at hb
  rw [← hb.1] at hr
  unfold Oper.wp
  simp [execOp, hop, hm, hx, hr, Result.andThen]
  exact hK' _ _ hK
theorem wpI_put (hg : o.guard = none) (m x v : Operand) (t : TypeId) (hop : o.op = Op.mapUpdate t m x v) (ht : Try.prog.underlying t = some (.map 3 4)) (B n : Nat) (s : Int → Bool) (k : Int)
    (hm : a.eval m = .map (some B)) (h : IMap w B n s) (hn : n < maxLen) (hx : a.eval x = .int .i64 k) (hv : a.eval v = .bool true) (hk : nmOk k)
    (hK : ∀ w', IMap w' B (n + 1) (fun j => j == k || s j) → Off B w w' → wpList Try.prog ops Q rest (a.put o.dst undef) w') : wpList Try.prog ops Q (o :: rest) a w := by
  obtain ⟨D, h1, h2, h3⟩ := h.own
  refine wpList_mapUpdate_own w hg m x v t hop _ _ int_law ht _ B n D hm h1 hn _ _ _ hx hv (int_key hk) (.lit (.bool true)) [] (plainElem_bool Try.underlying4 true) fun w' g1 g2 => hK w' ⟨⟨_, g1, h2.put _ _, fun j => ?_⟩⟩ ⟨g2.os, g2.tape, g2.output, g2.size, fun i hi hn => g2.block i hi (fun e => hn (by cases e; rfl))⟩
  by_cases e : j = k
  · subst e
    rw [Maps.atKey_put_same h2 (int_law.key (int_key hk))]
    simp
  · rw [Maps.atKey_put_other (fun e' => e (by injection e')), h3 j]
    simp [e]
end
theorem IMap.off {w w' : World} {B S n : Nat} {s : Int → Bool} (h : IMap w B n s) (ho : Off S w w') (hne : B ≠ S) : IMap w' B n s := by
  obtain ⟨D, h1, h2⟩ := h.own
  exact ⟨⟨D, h1.kept ⟨ho.os, ho.tape, ho.output, ho.size, fun k hk hn => ho.block k hk (fun e => hn (by rw [e]))⟩ (by simpa using hne), h2⟩⟩
set_option maxHeartbeats 4000000 in
theorem cells_in (a b : Option Addr) (c d : Nat) (xs ys : List Int) (w : World) (hA : NumsAt w a xs) (hB : NumsAt w b ys) (hx : ∀ n ∈ xs, nmOk n) (hy : ∀ n ∈ ys, nmOk n) (lx : xs.length ≤ 1000) (ly : ys.length ≤ 1000) :
    Calls Try.prog 20 #[.slice a xs.length c, .slice b ys.length d] w fun e w' => e = .returned (.bool (xs.all fun n => ys.contains n)) ∧ Below w.heap.size w w' := by
  have HA : Hid (∀ w', Below w.heap.size w w' → NumsAt w' a xs) := fun w' hb => hA.below hb
  have HB : Hid (∀ w', Below w.heap.size w w' → NumsAt w' b ys) := fun w' hb => hB.below hb
  have HX : Hid (∀ n ∈ xs, nmOk n) := hx
  have HY : Hid (∀ n ∈ ys, nmOk n) := hy
  have hmm := @run_makeMap Try.prog
  have hM := IMap.made w
  have hBl : Below w.heap.size w (w.alloc (.map #[] 0)) := (Below.refl _ _).alloc (Nat.le_refl _) _
  obtain ⟨R, hR⟩ : ∃ R, (xs.all fun n => ys.contains n) = R := ⟨_, rfl⟩
  rw [hR]
  have HR : Hid ((xs.all fun n => ys.contains n) = R) := hR
  clear hA hB hx hy hR
  go_enter Try.func20, Try.ntmps20
  go_upto_region 3 with fail
  obtain ⟨w0, hw0⟩ : ∃ w0, w0 = w.alloc (.map #[] 0) := ⟨_, rfl⟩
  have hs0 : w.heap.size < w0.heap.size := by rw [hw0]; simp
  rw [← hw0] at hM hBl ⊢
  clear hw0 hmm
  go_loopw [13] (fun i wr => ∃ j : Nat, j ≤ ys.length ∧ i = .int .i64 (j : Int) ∧ Below w.heap.size w wr ∧ ∃ n s, n ≤ j ∧ IMap wr w.heap.size n s ∧ ∀ k, s k = (ys.take j).contains k) (fun i _ => ys.length - (intOf i).toNat)
  case atStart => exact ⟨0, Nat.zero_le _, rfl, hBl, 0, _, Nat.le_refl _, hM, fun k => by rw [List.take_zero]; rfl⟩
  case round =>
    clear hM hBl
    obtain ⟨j, hj, rfl, hBw, n, s, hn, hM, hs⟩ := hrel
    have HS : Hid (∀ k, s k = (ys.take j).contains k) := hs
    clear hs
    by_cases hlt : j < ys.length
    · have gk : (j : Int) < (ys.length : Int) := by omega
      have hw1 : IntKind.i64.wrap ((j : Int) + 1) = (j : Int) + 1 := by rw [IntKind.wrap_i64]; omega
      obtain ⟨y, hyj⟩ : ∃ y, ys[j]? = some y := ⟨_, List.getElem?_eq_getElem hlt⟩
      obtain ⟨BB, off, rfl, hBl2, c0⟩ := (HB.out _ hBw).at hyj
      have hok := HY.out y (List.mem_of_getElem? hyj)
      have HJ : Hid (ys[j]? = some y) := hyj
      have hnm : n < maxLen := by unfold maxLen; omega
      have hBz := hBw.size
      clear hyj
      go_wp2_with (at_mapUpdate; refine wpI_put _ rfl _ _ _ 70 rfl Try.underlying70 w.heap.size n s y rfl hM hnm rfl rfl hok ?_; intro w1 g1 g2)
      go_roundw
      case rel =>
        refine ⟨j + 1, by omega, rfl, hBw.trans (g2.to (Nat.le_refl _) hBz), n + 1, _, by omega, g1, fun k => ?_⟩
        rw [List.take_add_one, HJ.out, HS.out]
        simp only [Option.toList_some, List.contains_append, List.contains_cons, List.contains_nil, Bool.or_false]
        rw [Bool.or_comm]
      case measure => simp [intOf]; omega
    · obtain rfl : j = ys.length := by omega
      have gk : ¬ (ys.length : Int) < (ys.length : Int) := by omega
      have HS2 : Hid (∀ k, s k = ys.contains k) := by
        show ∀ k, s k = ys.contains k
        intro k
        rw [HS.out, List.take_length]
      clear HB HY HS
      go_upto_region 8 with fail
      go_loop [22] (fun i => ∃ j : Nat, j ≤ xs.length ∧ i = .int .i64 (j : Int) ∧ ((xs.drop j).all fun n => ys.contains n) = R) (fun i => xs.length - (intOf i).toNat)
      case atStart => exact ⟨0, Nat.zero_le _, rfl, HR.out⟩
      case round =>
        obtain ⟨j, hj2, rfl, hs⟩ := hrel
        by_cases hlt2 : j < xs.length
        · have gk2 : (j : Int) < (xs.length : Int) := by omega
          have hw1 : IntKind.i64.wrap ((j : Int) + 1) = (j : Int) + 1 := by rw [IntKind.wrap_i64]; omega
          obtain ⟨x, hxj⟩ : ∃ x, xs[j]? = some x := ⟨_, List.getElem?_eq_getElem hlt2⟩
          obtain ⟨BB, off, rfl, hBl2, c0⟩ := (HA.out _ hBw).at hxj
          have hok := HX.out x (List.mem_of_getElem? hxj)
          rw [drop_one hxj, List.all_cons, ← HS2.out x] at hs
          clear hxj
          cases hsx : s x
          · rw [hsx] at hs
            have hs' : R = false := by rw [← hs]; rfl
            subst hs'
            clear hs
            go_wp2_with (at_lookup; refine wpI_look _ rfl _ _ 70 rfl Try.underlying70 w.heap.size n s x rfl hM rfl hok ?_; rw [hsx])
            go_ret
            exact ⟨rfl, hBw⟩
          · rw [hsx, Bool.true_and] at hs
            have HS3 : Hid (((xs.drop (j + 1)).all fun n => ys.contains n) = R) := hs
            clear hs
            go_wp2_with (at_lookup; refine wpI_look _ rfl _ _ 70 rfl Try.underlying70 w.heap.size n s x rfl hM rfl hok ?_; rw [hsx])
            go_round
            case rel => exact ⟨j + 1, by omega, by go_num, HS3.out⟩
            case measure => simp [intOf]; omega
        · obtain rfl : j = xs.length := by omega
          have gk2 : ¬ (xs.length : Int) < (xs.length : Int) := by omega
          rw [List.drop_length] at hs
          have hs' : R = true := hs.symm
          subst hs'
          clear hs HR
          go_wp2
          go_ret
          exact ⟨rfl, hBw⟩
set_option maxHeartbeats 4000000 in
theorem eq_keys (a b : Option Addr) (c d : Nat) (xs : List K5) (w : World) (ha : RowAt w a (xs.flatMap k5C)) (hb : RowAt w b (xs.flatMap k5C)) (hm : xs.length ≤ maxLen) :
    Calls Try.prog 12 #[.slice a xs.length c, .slice b xs.length d] w fun e w' => e = .returned (.bool true) ∧ Below w.heap.size w w' := by
  have m1 : (xs.length : Int) ≤ 9223372036854775807 := by unfold maxLen at hm; omega
  have HA : Hid (RowAt w a (xs.flatMap k5C)) := ha
  have HB : Hid (RowAt w b (xs.flatMap k5C)) := hb
  clear ha hb
  go_enter Try.func12, Try.ntmps12
  go_wp2
  go_loopw [14] (fun i wr => ∃ k : Nat, k ≤ xs.length ∧ i = .int .i64 (k : Int) ∧ Below w.heap.size w wr) (fun i _ => xs.length - (intOf i).toNat)
  case atStart => exact ⟨0, Nat.zero_le _, rfl, Below.refl _ _⟩
  case round =>
    obtain ⟨k, hk, rfl, hB⟩ := hrel
    by_cases hlt : k < xs.length
    · have gk : (k : Int) < (xs.length : Int) := by omega
      obtain ⟨p, hp⟩ : ∃ p, xs[k]? = some p := ⟨_, List.getElem?_eq_getElem hlt⟩
      obtain ⟨B1, o1, e1, hB1, c0, c1, c2, c3, c4⟩ := keys_at (HA.out.below hB) hp
      obtain ⟨B2, o2, e2, hB2, d0, d1, d2, d3, d4⟩ := keys_at (HB.out.below hB) hp
      subst e1
      subst e2
      have HB1 : ∀ A : Array Value, Hid (Below w.heap.size w (wr.alloc (.cells A 23)).drew) := fun A => (hB.alloc hB.size _).drew
      clear hp hB
      go_wp2
      go_region
      all_goals go_wp2
      go_roundw
      case rel => exact ⟨k + 1, by omega, rfl, (HB1 _).out⟩
      case measure => simp [intOf]; omega
    · obtain rfl : k = xs.length := by omega
      have gk : ¬ (xs.length : Int) < (xs.length : Int) := by omega
      go_wp2
      go_ret
      exact ⟨rfl, hB⟩
end Go.Proofs.Ytlfeglljpfihhaa
