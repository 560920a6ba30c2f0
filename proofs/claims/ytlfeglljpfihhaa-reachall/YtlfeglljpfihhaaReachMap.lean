/- Keys that are held: a map of keys in a block of its own: made, asked, filled, gone through in whatever order. -/
import Derived.Test.YtlfeglljpfihhaaRows
import Derived.Test.YtlfeglljpfihhaaKeyArg
import Derived.Test.YtlfeglljpfihhaaKeyPure
import Derived.Test.YtlfeglljpfihhaaCellPure
import Derived.Test.YtlfeglljpfihhaaValsArg
import Derived.Test.YtlfeglljpfihhaaMemPure
import Derived.Test.YtlfeglljpfihhaaMachArg
import Derived.Test.YtlfeglljpfihhaaMachMid
import Derived.WalkKit
import Derived.DeepKeys4
import Derived.Maps.OwnSet
import Derived.Maps.RangeWalk
namespace Go.Proofs.Ytlfeglljpfihhaa
open Go.ChangeShapes Go.WideShapes Go.ChangeAt Go.RowKit
set_option linter.unusedVariables false
set_option linter.unusedSimpArgs false
set_option maxRecDepth 100000

def kV5 (k : K5) : Value := .agg #[.int .i64 k.p, .int .i64 k.b, .int .i64 k.l, .int .i64 k.a, .int .i64 k.s]
theorem laid_out : laidOutB Try.prog = true := by kernel_rfl
theorem key_row : (23 : TypeId) < Try.prog.types.size := of_decide_eq_true (by kernel_rfl)
theorem key_wide : (match Try.prog.underlying 23 with | some (.array _ _) | some (.struct _) => true | _ => false) = true := by kernel_rfl
theorem key_deep : Try.prog.keyType 23 = true := by kernel_rfl
theorem key_law : Maps.Keyed Try.prog 23 := Maps.Keyed.of_law (deep_law_laid laid_out (m := 3) (by omega) key_row (by kernel_rfl) key_wide)
theorem two_of {m : Nat} (h : 0 < m) : ∃ n, m + 1 = n + 2 := ⟨m - 1, by omega⟩
section
variable {P : Program} {K I : TypeId} {f0 f1 f2 f3 f4 : Field}
/-- A struct of five ints as a key. -/
structure Five (P : Program) (K I : TypeId) (f0 f1 f2 f3 f4 : Field) : Prop where
  u : P.underlying K = some (.struct #[f0, f1, f2, f3, f4])
  i : P.underlying I = some (.int .i64)
  c : P.cellsOf K = 5
  ci : P.cellsOf I = 1
  t : P.keyType K = true
  s : 0 < P.types.size
  ty : f0.type = I ∧ f1.type = I ∧ f2.type = I ∧ f3.type = I ∧ f4.type = I
  of : f0.offset = 0 ∧ f1.offset = 1 ∧ f2.offset = 2 ∧ f3.offset = 3 ∧ f4.offset = 4
  nm : (f0.name != "_") = true ∧ (f1.name != "_") = true ∧ (f2.name != "_") = true ∧ (f3.name != "_") = true ∧ (f4.name != "_") = true
theorem five_lit (F : Five P K I f0 f1 f2 f3 f4) {a b c d e : Int} (h : (Lit.int .i64 a).wf = true ∧ (Lit.int .i64 b).wf = true ∧ (Lit.int .i64 c).wf = true ∧ (Lit.int .i64 d).wf = true ∧ (Lit.int .i64 e).wf = true) :
    ∃ l, keyOf P K (.agg #[.int .i64 a, .int .i64 b, .int .i64 c, .int .i64 d, .int .i64 e]) = some l := by
  obtain ⟨n, hn⟩ := two_of F.s
  obtain ⟨t0, t1, t2, t3, t4⟩ := F.ty
  obtain ⟨o0, o1, o2, o3, o4⟩ := F.of
  obtain ⟨n0, n1, n2, n3, n4⟩ := F.nm
  obtain ⟨w1, w2, w3, w4, w5⟩ := h
  have hm : P.types.size = n + 1 := by omega
  refine ⟨.string (keyBytes [.int .i64 a, .int .i64 b, .int .i64 c, .int .i64 d, .int .i64 e]), ?_⟩
  simp [keyOf, F.u, Value.formed, F.c, F.t, hm, Value.cells, Program.keyLits, F.ci, F.i, w1, w2, w3, w4, w5, t0, t1, t2, t3, t4, o0, o1, o2, o3, o4, bne_iff_ne.1 n0, bne_iff_ne.1 n1, bne_iff_ne.1 n2, bne_iff_ne.1 n3, bne_iff_ne.1 n4]
theorem lits_inv (hi : P.underlying I = some (.int .i64)) {n : Nat} {v : Value} {ls : List Lit} (h : P.keyLits (n + 1) I [v] = some ls) : ∃ a, v = .int .i64 a ∧ (Lit.int .i64 a).wf = true := by
  cases v <;> simp [Program.keyLits, hi] at h
  obtain ⟨⟨rfl, hw⟩, _⟩ := h
  exact ⟨_, rfl, hw⟩
theorem five_inv (F : Five P K I f0 f1 f2 f3 f4) {v : Value} {l : Lit} (h : keyOf P K v = some l) : ∃ a b c d e, v = .agg #[.int .i64 a, .int .i64 b, .int .i64 c, .int .i64 d, .int .i64 e] ∧
    (Lit.int .i64 a).wf = true ∧ (Lit.int .i64 b).wf = true ∧ (Lit.int .i64 c).wf = true ∧ (Lit.int .i64 d).wf = true ∧ (Lit.int .i64 e).wf = true := by
  obtain ⟨n, hn⟩ := two_of F.s
  obtain ⟨t0, t1, t2, t3, t4⟩ := F.ty
  obtain ⟨o0, o1, o2, o3, o4⟩ := F.of
  have hf : v.formed P K = true := by
    cases hf : v.formed P K
    · simp [keyOf, F.u, hf] at h
    · rfl
  cases v with
  | agg cs =>
    have hs : cs.size = 5 := by simpa [Value.formed, F.u, F.c] using hf
    obtain ⟨cl⟩ := cs
    have hs' : cl.length = 5 := hs
    obtain ⟨c0, c1, c2, c3, c4, rfl⟩ := list5 hs'
    have key : ∃ ls, P.keyLits (n + 2) K [c0, c1, c2, c3, c4] = some ls := by
      rw [← hn]
      cases hq : P.keyLits (P.types.size + 1) K [c0, c1, c2, c3, c4] with
      | none => simp [keyOf, F.u, hf, F.t, Value.cells, hq] at h
      | some ls => exact ⟨ls, rfl⟩
    obtain ⟨ls, hl⟩ := key
    have e0 : ∃ ls, P.keyLits (n + 1) I [c0] = some ls := by
      cases hq : P.keyLits (n + 1) I [c0] with
      | none => unfold Program.keyLits at hl; simp [F.u, F.c, F.ci, t0, t1, t2, t3, t4, o0, o1, o2, o3, o4, hq] at hl
      | some ls => exact ⟨ls, rfl⟩
    have e1 : ∃ ls, P.keyLits (n + 1) I [c1] = some ls := by
      cases hq : P.keyLits (n + 1) I [c1] with
      | none => unfold Program.keyLits at hl; simp [F.u, F.c, F.ci, t0, t1, t2, t3, t4, o0, o1, o2, o3, o4, hq] at hl
      | some ls => exact ⟨ls, rfl⟩
    have e2 : ∃ ls, P.keyLits (n + 1) I [c2] = some ls := by
      cases hq : P.keyLits (n + 1) I [c2] with
      | none => unfold Program.keyLits at hl; simp [F.u, F.c, F.ci, t0, t1, t2, t3, t4, o0, o1, o2, o3, o4, hq] at hl
      | some ls => exact ⟨ls, rfl⟩
    have e3 : ∃ ls, P.keyLits (n + 1) I [c3] = some ls := by
      cases hq : P.keyLits (n + 1) I [c3] with
      | none => unfold Program.keyLits at hl; simp [F.u, F.c, F.ci, t0, t1, t2, t3, t4, o0, o1, o2, o3, o4, hq] at hl
      | some ls => exact ⟨ls, rfl⟩
    have e4 : ∃ ls, P.keyLits (n + 1) I [c4] = some ls := by
      cases hq : P.keyLits (n + 1) I [c4] with
      | none => unfold Program.keyLits at hl; simp [F.u, F.c, F.ci, t0, t1, t2, t3, t4, o0, o1, o2, o3, o4, hq] at hl
      | some ls => exact ⟨ls, rfl⟩
    obtain ⟨_, q0⟩ := e0
    obtain ⟨_, q1⟩ := e1
    obtain ⟨_, q2⟩ := e2
    obtain ⟨_, q3⟩ := e3
    obtain ⟨_, q4⟩ := e4
    obtain ⟨a, rfl, wa⟩ := lits_inv F.i q0
    obtain ⟨b, rfl, wb⟩ := lits_inv F.i q1
    obtain ⟨c, rfl, wc⟩ := lits_inv F.i q2
    obtain ⟨d, rfl, wd⟩ := lits_inv F.i q3
    obtain ⟨e, rfl, we⟩ := lits_inv F.i q4
    exact ⟨a, b, c, d, e, rfl, wa, wb, wc, wd, we⟩
  | _ => simp [Value.formed, F.u] at hf
end
theorem key_five : ∃ f0 f1 f2 f3 f4, Five Try.prog 23 3 f0 f1 f2 f3 f4 :=
  ⟨_, _, _, _, _, ⟨Try.underlying23, Try.underlying3, cells_key, cells_int, key_deep, Nat.lt_of_le_of_lt (Nat.zero_le _) key_row, ⟨rfl, rfl, rfl, rfl, rfl⟩, ⟨rfl, rfl, rfl, rfl, rfl⟩, ⟨by decide, by decide, by decide, by decide, by decide⟩⟩⟩
theorem key_lit {k : K5} (hb : k5b k) : ∃ l, keyOf Try.prog 23 (kV5 k) = some l := by
  obtain ⟨_, _, _, _, _, F⟩ := key_five
  obtain ⟨b1, b2, b3, b4, b5⟩ := hb
  exact five_lit F ⟨WalkArith.wf_i64 b1, WalkArith.wf_i64 b2, WalkArith.wf_i64 b3, WalkArith.wf_i64 b4, WalkArith.wf_i64 b5⟩
theorem key_inv {v : Value} {l : Lit} (h : keyOf Try.prog 23 v = some l) : ∃ k, v = kV5 k ∧ k5b k := by
  obtain ⟨_, _, _, _, _, F⟩ := key_five
  obtain ⟨a, b, c, d, e, rfl, h1, h2, h3, h4, h5⟩ := five_inv F h
  exact ⟨⟨a, b, c, d, e⟩, rfl, bounds_i64 h1, bounds_i64 h2, bounds_i64 h3, bounds_i64 h4, bounds_i64 h5⟩
theorem kv5_inj {j k : K5} (h : kV5 j = kV5 k) : j = k := by
  obtain ⟨p, b, c, a, q⟩ := j
  obtain ⟨p', b', c', a', q'⟩ := k
  simp only [kV5, Value.agg.injEq, Array.mk.injEq, List.cons.injEq, Value.int.injEq, true_and, and_true] at h
  obtain ⟨rfl, rfl, rfl, rfl, rfl⟩ := h
  rfl
/-- Block B is a map of at most n keys: those that s names. -/
structure KMap (w : World) (B n : Nat) (s : K5 → Bool) : Prop where
  own : ∃ D : DataW Unit, w.ownsMap Try.prog 23 unitElem B n D ∧ ∀ k l, keyOf Try.prog 23 (kV5 k) = some l → Maps.has D l = s k
  ok : ∀ k, s k = true → k5b k
theorem KMap.lt {w : World} {B n : Nat} {s : K5 → Bool} (h : KMap w B n s) : B < w.heap.size := by
  obtain ⟨D, h1, _⟩ := h.own
  exact h1.lt
theorem KMap.made (w : World) : KMap (w.alloc (.map #[] 0)) w.heap.size 0 (fun _ => false) :=
  ⟨⟨.map [], World.ownsMap_made w _ _ _, fun _ _ _ => rfl⟩, fun _ h => by cases h⟩
theorem KMap.off {w w' : World} {B S n : Nat} {s : K5 → Bool} (h : KMap w B n s) (ho : Off S w w') (hne : B ≠ S) : KMap w' B n s := by
  obtain ⟨D, h1, h2⟩ := h.own
  exact ⟨⟨D, h1.kept ⟨ho.os, ho.tape, ho.output, ho.size, fun k hk hn => ho.block k hk (fun e => hn (by rw [e]))⟩ (by simpa using hne), h2⟩, h.ok⟩
theorem KMap.below {w w' : World} {B n : Nat} {s : K5 → Bool} (h : KMap w B n s) (hb : Below w.heap.size w w') : KMap w' B n s :=
  h.off (S := w.heap.size) ⟨hb.os, hb.tape, hb.output, hb.size, fun k hk _ => hb.block k hk⟩ (by have := h.lt; omega)
theorem off_grown {S : Nat} {w w' : World} (h : w.grownBy w' (some S)) : Off S w w' := ⟨h.os, h.tape, h.output, h.size, fun k hk hn => h.block k hk (fun e => hn (by cases e; rfl))⟩
theorem below_grown {w w' : World} (h : w.grownBy w' none) : Below w.heap.size w w' := ⟨h.os, h.tape, h.output, h.size, fun k hk => h.block k hk (by simp)⟩
theorem KMap.put {w : World} {B n : Nat} {s : K5 → Bool} {k : K5} {t e : TypeId} (h : KMap w B n s) (ht : Try.prog.underlying t = some (.map 23 e)) (hk : k5b k) (hn : n < maxLen) :
    ∃ w' s', (Instr.mapUpdate t (.map (some B)) (kV5 k) (.agg #[])).run Try.prog w = .ok () w' ∧ KMap w' B (n + 1) s' ∧ (∀ j, s' j = true ↔ s j = true ∨ j = k) ∧ Off B w w' := by
  obtain ⟨D, h1, h2⟩ := h.own
  obtain ⟨l, hl⟩ := key_lit hk
  obtain ⟨w', hr, g1, g2⟩ := h1.update key_law ht hn hl (unitElem_mk (H := Unit))
  have hD := h1.isMap
  have hs : ∀ j lj, keyOf Try.prog 23 (kV5 j) = some lj → (Maps.has (D.put l (.agg [])) lj = true ↔ s j = true ∨ j = k) := fun j lj hj => by
    by_cases e : lj = l
    · subst e
      have e2 : j = k := kv5_inj (key_law.inj hj hl)
      rw [Maps.has_put_same hD (key_law.key hl)]
      exact ⟨fun _ => .inr e2, fun _ => rfl⟩
    · have e2 : j ≠ k := fun e' => e (by subst e'; rw [hj] at hl; injection hl)
      rw [Maps.has_put_other e, h2 j lj hj]
      exact ⟨.inl, fun h => h.resolve_right e2⟩
  obtain ⟨s', hs'⟩ : ∃ s' : K5 → Bool, ∀ j, s' j = match keyOf Try.prog 23 (kV5 j) with | some lj => Maps.has (D.put l (.agg [])) lj | none => false := ⟨fun j => _, fun j => rfl⟩
  have hiff : ∀ j, s' j = true ↔ s j = true ∨ j = k := fun j => by
    cases hq : keyOf Try.prog 23 (kV5 j) with
    | none =>
      have e := hs' j
      rw [hq] at e
      rw [e]
      constructor
      · intro h; cases h
      · rintro (h3 | rfl)
        · obtain ⟨lj, hj⟩ := key_lit (h.ok j h3)
          rw [hj] at hq; cases hq
        · rw [hl] at hq; cases hq
    | some lj =>
      have e := hs' j
      rw [hq] at e
      rw [e]
      exact hs j lj hq
  refine ⟨w', s', hr, ⟨⟨_, g1, fun j lj hj => by rw [hs' j, hj]⟩, fun j hj => ?_⟩, hiff, off_grown g2⟩
  rcases (hiff j).1 hj with h3 | rfl
  · exact h.ok j h3
  · exact hk
/-- Which are still to come of a map that is gone through. -/
structure KRange (w : World) (B r n : Nat) (s left : K5 → Bool) (cnt : Nat) : Prop where
  own : ∃ (D : DataW Unit) (L : Lit → Bool), w.ranges Try.prog 23 unitElem B r n D L cnt ∧ (∀ k l, keyOf Try.prog 23 (kV5 k) = some l → Maps.has D l = s k) ∧ ∀ k l, keyOf Try.prog 23 (kV5 k) = some l → L l = left k
  ok : ∀ k, s k = true → k5b k
  sub : ∀ k, left k = true → s k = true
section
variable (w : World) {ops : Array Oper} {rest : List Oper} {o : Oper} {a : Act} {Q : Exit → Act → World → Prop}
theorem wpK_look (hg : o.guard = none) (m x : Operand) (t : TypeId) (hop : o.op = Op.lookup t m x true) (e : TypeId) (ht : Try.prog.underlying t = some (.map 23 e)) (hz : (zeroValue e).run Try.prog w = .ok (.agg #[]) w) (B n : Nat) (s : K5 → Bool) (k : K5)
    (hm : a.eval m = .map (some B)) (h : KMap w B n s) (hx : a.eval x = kV5 k) (hk : k5b k)
    (hK : wpList Try.prog ops Q rest (a.put o.dst (.tuple #[.agg #[], .bool (s k)])) w) : wpList Try.prog ops Q (o :: rest) a w := by
  obtain ⟨D, h1, h2⟩ := h.own
  obtain ⟨l, hl⟩ := key_lit hk
  refine wpList_lookup_own_unit w hg m x t hop _ e key_law ht hz B n D hm h1 (kV5 k) l hx hl ?_
  rw [h2 k l hl]
  exact hK
theorem wpK_put (hg : o.guard = none) (m x v : Operand) (t : TypeId) (hop : o.op = Op.mapUpdate t m x v) (e : TypeId) (ht : Try.prog.underlying t = some (.map 23 e)) (B n : Nat) (s : K5 → Bool) (k : K5)
    (hm : a.eval m = .map (some B)) (h : KMap w B n s) (hn : n < maxLen) (hx : a.eval x = kV5 k) (hv : a.eval v = .agg #[]) (hk : k5b k)
    (hK : ∀ w' s', KMap w' B (n + 1) s' → (∀ j, s' j = true ↔ s j = true ∨ j = k) → Off B w w' → wpList Try.prog ops Q rest (a.put o.dst undef) w') : wpList Try.prog ops Q (o :: rest) a w := by
  refine wpList_plain hg fun K' hK' => ?_
  obtain ⟨w', s', hrun, r1, r2, r3⟩ := h.put ht hk hn
  unfold Oper.wp
  simp [execOp, hop, hm, hx, hv, hrun, Result.andThen]
  exact hK' _ _ (hK w' s' r1 r2 r3)
theorem wpK_range (hg : o.guard = none) (m : Operand) (t : TypeId) (hop : o.op = Op.range t m) (e : TypeId) (ht : Try.prog.underlying t = some (.map 23 e)) (B n : Nat) (s : K5 → Bool)
    (hm : a.eval m = .map (some B)) (h : KMap w B n s)
    (hK : ∀ w' cnt, KRange w' B w.heap.size n s s cnt → cnt ≤ n → Below w.heap.size w w' → w'.heap.size = w.heap.size + 1 → wpList Try.prog ops Q rest (a.put o.dst (.pointer (some ⟨w.heap.size, 0, none⟩))) w') : wpList Try.prog ops Q (o :: rest) a w := by
  obtain ⟨D, h1, h2⟩ := h.own
  exact wpList_range_own w hg m t hop _ e key_law ht unitElem B n D hm h1 fun w' g1 g2 g3 => hK w' _ ⟨⟨D, _, g1, h2, h2⟩, h.ok, fun _ h => h⟩ h1.size_le (below_grown g2) g3
theorem wpK_next (hg : o.guard = none) (it : Operand) (hop : o.op = Op.next it false) (B r n : Nat) (s left : K5 → Bool) (cnt : Nat)
    (hit : a.eval it = .pointer (some ⟨r, 0, none⟩)) (h : KRange w B r n s left cnt)
    (hDone : (∀ k, left k = false) → wpList Try.prog ops Q rest (a.put o.dst (.tuple #[.bool false])) w)
    (hMore : ∀ (k : K5) (w' : World) (left' : K5 → Bool) (cnt' : Nat), k5b k → left k = true → KRange w' B r n s left' cnt' → (∀ j, left' j = true ↔ left j = true ∧ j ≠ k) → cnt' < cnt → Off r w w' → w'.heap.size = w.heap.size →
      (Instr.entry (.pointer (some ⟨r, 0, none⟩))).run Try.prog w' = .ok (.tuple #[kV5 k, .agg #[]]) w' → wpList Try.prog ops Q rest (a.put o.dst (.tuple #[.bool true, kV5 k, .agg #[]])) w') :
    wpList Try.prog ops Q (o :: rest) a w := by
  obtain ⟨D, L, h1, h2, h3⟩ := h.own
  refine wpList_next_ranges w hg it hop _ key_law unitElem (fun k : {k : K5 // k5b k} => kV5 k.1) (fun _ : Unit => .agg #[]) (fun key kl hk => by obtain ⟨k, e, hb⟩ := key_inv hk; exact ⟨⟨k, hb⟩, e⟩) (fun v y hv => ⟨(), (unitElem_inv hv).1⟩) B r n D L cnt hit h1 (fun h0 hl => hDone fun k => ?_) ?_
  · cases hk : left k
    · rfl
    · obtain ⟨l, hl'⟩ := key_lit (h.ok k (h.sub k hk))
      rw [← h3 k l hl', hl] at hk
      cases hk
  · rintro ⟨k, hb⟩ _ kl y w' cnt' hkey hlk hv hat hrg hlt hgr hsz hen
    obtain ⟨left', hl'⟩ : ∃ left' : K5 → Bool, ∀ j, left' j = match keyOf Try.prog 23 (kV5 j) with | some lj => (L lj && !lj.sameKey kl) | none => false := ⟨fun j => _, fun j => rfl⟩
    have hiff : ∀ j, left' j = true ↔ left j = true ∧ j ≠ k := fun j => by
      cases hq : keyOf Try.prog 23 (kV5 j) with
      | none =>
        have e : left' j = false := by rw [hl' j, hq]
        rw [e]
        constructor
        · intro h; cases h
        · rintro ⟨h4, _⟩
          obtain ⟨lj, hj⟩ := key_lit (h.ok j (h.sub j h4))
          rw [hj] at hq; cases hq
      | some lj =>
        have e : left' j = (L lj && !lj.sameKey kl) := by rw [hl' j, hq]
        rw [e, ← h3 j lj hq]
        by_cases e2 : j = k
        · subst e2
          have e3 : lj = kl := by rw [hq] at hkey; injection hkey
          subst e3
          rw [WideAt.sameKey_self (key_law.key hq)]
          simp
        · have e3 : lj ≠ kl := fun e3 => e2 (by subst e3; exact kv5_inj (key_law.inj hq hkey))
          rw [Maps.sameKey_ne e3]
          simp [e2]
    refine hMore k w' left' cnt' hb (by rw [← h3 k kl hkey]; exact hlk) ⟨⟨D, _, hrg, h2, fun j lj hj => by rw [hl' j, hj]⟩, h.ok, fun j hj => h.sub j ((hiff j).1 hj).1⟩ hiff hlt (off_grown hgr) hsz hen
end
theorem KRange.map {w : World} {B r n : Nat} {s left : K5 → Bool} {cnt : Nat} (h : KRange w B r n s left cnt) : KMap w B n s := by
  obtain ⟨D, L, h1, h2, _⟩ := h.own
  exact ⟨⟨D, h1.owns, h2⟩, h.ok⟩
theorem KRange.below {w w' : World} {B r n : Nat} {s left : K5 → Bool} {cnt : Nat} (h : KRange w B r n s left cnt) (hb : Below w.heap.size w w') : KRange w' B r n s left cnt := by
  obtain ⟨D, L, h1, h2, h3⟩ := h.own
  exact ⟨⟨D, L, h1.kept (row := none) ⟨hb.os, hb.tape, hb.output, hb.size, fun i hi _ => hb.block i hi⟩ (by simp) (by simp), h2, h3⟩, h.ok, h.sub⟩
end Go.Proofs.Ytlfeglljpfihhaa
