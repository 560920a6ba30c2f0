/- Plain: a range over a function whose rounds are told in which world they stand: of what there was the iterator turns one block of its own alone, a round only what is its caller's own. Plain: a whole struct loaded, stored and made within a round. custodiankeep.stepped: true; custodiankeep.opOf: the instruction that is next; custodiankeep.named: which registers it names. -/
import Derived.Test.YtlfeglljpfihhaaDoorRows
import Derived.Test.YtlfeglljpfihhaaDoorStepOffX
import Derived.Test.YtlfeglljpfihhaaDoorStepStepX
import Derived.RangeFuncRecord
import Derived.RangeFuncSeq
import Derived.RangeFuncBound
import Derived.WalkKit
import Derived.Test.YtlfeglljpfihhaaDoorStepOwnX
import Derived.Test.YtlfeglljpfihhaaDoorStepRowX
import Derived.Deep.MidRow
import Derived.OwnWalkIn
import Derived.TacticsInMore
import Derived.LoopNIn
import Derived.LoopIn
import Derived.RangeFuncCalls
import Derived.Test.YtlfeglljpfihhaaDoorCardBaseX
import Derived.Test.YtlfeglljpfihhaaDoorInstShapeX
import Derived.Test.YtlfeglljpfihhaaDoorMemPureX
import Derived.Test.YtlfeglljpfihhaaDoorStepChkX
import Derived.Test.YtlfeglljpfihhaaDoorStepFetchX
import Derived.ProofKit
namespace Go.Proofs.YtlfeglljpfihhaaDoor
section
open Go.RowKit

/-- Of what there was only the blocks that p names may be others. -/
structure OffP (p : Nat → Prop) (w w' : World) : Prop where
  os : w'.os = w.os
  tape : w'.tape = w.tape
  output : w'.output = w.output
  size : w.heap.size ≤ w'.heap.size
  block : ∀ k, k < w.heap.size → ¬ p k → w'.heap[k]? = w.heap[k]?
theorem OffP.refl (p : Nat → Prop) (w : World) : OffP p w w := ⟨rfl, rfl, rfl, Nat.le_refl _, fun _ _ _ => rfl⟩
theorem OffP.trans {p : Nat → Prop} {a b c : World} (h : OffP p a b) (k : OffP p b c) : OffP p a c :=
  ⟨k.os.trans h.os, k.tape.trans h.tape, k.output.trans h.output, Nat.le_trans h.size k.size, fun i hi hn => (k.block i (Nat.lt_of_lt_of_le hi h.size) hn).trans (h.block i hi hn)⟩
theorem OffP.mono {p q : Nat → Prop} {a b : World} (h : OffP p a b) (hq : ∀ k, k < a.heap.size → p k → q k) : OffP q a b := ⟨h.os, h.tape, h.output, h.size, fun k hk hn => h.block k hk fun hp => hn (hq k hk hp)⟩
theorem Off.toP {S : Nat} {a b : World} (h : Off S a b) {p : Nat → Prop} (hp : p S) : OffP p a b := ⟨h.os, h.tape, h.output, h.size, fun k hk hn => h.block k hk fun e => hn (e ▸ hp)⟩
theorem OffP.below {p : Nat → Prop} {a b c : World} (h : OffP p a b) (k : Below b.heap.size b c) : OffP p a c :=
  h.trans ⟨k.os, k.tape, k.output, k.size, fun i hi _ => k.block i hi⟩
theorem OffP.alloc {p : Nat → Prop} {a b : World} (h : OffP p a b) (o : Obj) : OffP p a (b.alloc o) := h.below ((Below.refl _ _).alloc (Nat.le_refl _) o)
theorem OffP.drew {p : Nat → Prop} {a b : World} (h : OffP p a b) : OffP p a b.drew := ⟨h.os, h.tape, h.output, h.size, h.block⟩
/-- A store into one of these blocks, or into one that was not there. -/
theorem OffP.set {p : Nat → Prop} {a b : World} (h : OffP p a b) {x : Addr} (hx : p x.block ∨ a.heap.size ≤ x.block) (u : Value) : OffP p a (b.setCell x u) :=
  ⟨h.os, h.tape, h.output, by simpa [World.setCell] using h.size, fun k hk hn => by
    rw [Below.heap_setCell _ _ _ _ (fun e => by subst e; rcases hx with hx | hx; exact hn hx; omega)]
    exact h.block k hk hn⟩
theorem OffP.to {p : Nat → Prop} {n : Nat} {a b : World} (h : OffP p a b) (hp : ∀ k, k < a.heap.size → p k → n ≤ k) (hn : n ≤ a.heap.size) : Below n a b :=
  ⟨h.os, h.tape, h.output, h.size, fun k hk => h.block k (by omega) fun e => by have := hp k (by omega) e; omega⟩
theorem OffP.box {p : Nat → Prop} {k : Nat} {a b : World} {c : Array Value} (h : OffP p a b) (hb : Box a k c) (hk : ¬ p k) : Box b k c := by
  have e := h.block k hb.lt hk
  refine ⟨Nat.lt_of_lt_of_le hb.1 h.size, fun o => ?_, fun o => ?_⟩
  · rw [World.cell?_of_block (w := a) (a := ⟨k, o, none⟩) e]; exact hb.2.1 o
  · rw [World.frozen?_of_block (w := a) (a := ⟨k, o, none⟩) e]; exact hb.2.2 o
def FarP (p : Nat → Prop) (a : Option Addr) : Prop := ∀ x ∈ a, ¬ p x.block
theorem OffP.row {p : Nat → Prop} {a b : World} {x : Option Addr} {cs : List Value} (h : OffP p a b) (hr : RowAt a x cs) (hf : FarP p x) : RowAt b x cs := by
  rcases hr with h0 | ⟨B, off, rfl, hB, hc⟩
  · exact .inl h0
  · have hne : ¬ p B := hf ⟨B, off, none⟩ rfl
    refine .inr ⟨B, off, rfl, Nat.lt_of_lt_of_le hB h.size, fun j u hj => ?_⟩
    rw [World.cell?_of_block (w := a) (a := ⟨B, off + j, none⟩) (h.block B hB hne)]
    exact hc j u hj
/-- A list that holds something lies in none of these blocks. -/
def FarR (p : Nat → Prop) (a : Option Addr) (cs : List Value) : Prop := cs = [] ∨ FarP p a
theorem OffP.rowR {p : Nat → Prop} {a b : World} {x : Option Addr} {cs : List Value} (h : OffP p a b) (hr : RowAt a x cs) (hf : FarR p x cs) : RowAt b x cs := by
  rcases hf with h0 | hf
  · exact .inl h0
  · exact h.row hr hf
theorem RowAt.lt {w : World} {x : Option Addr} {cs : List Value} (h : RowAt w x cs) : FarR (fun k => w.heap.size ≤ k) x cs := by
  rcases h with h0 | ⟨B, off, rfl, hB, hc⟩
  · exact .inl h0
  · exact .inr fun y hy => (by cases hy; show ¬ w.heap.size ≤ B; omega)
theorem FarR.mono {p p' : Nat → Prop} {x : Option Addr} {cs : List Value} (h : FarR p x cs) (hp : ∀ k, p' k → p k) : FarR p' x cs := by
  rcases h with h | h
  · exact .inl h
  · exact .inr fun y hy e => h y hy (hp _ e)
theorem FarR.or {p p' : Nat → Prop} {x : Option Addr} {cs : List Value} (h : FarR p x cs) (h' : FarR p' x cs) : FarR (fun k => p k ∨ p' k) x cs := by
  rcases h with h | h
  · exact .inl h
  · rcases h' with h' | h'
    · exact .inl h'
    · exact .inr fun y hy e => e.elim (h y hy) (h' y hy)
structure FarX (p : Nat → Prop) (x : MC) (q : MA) : Prop where
  m : FarR p q.m (x.m.flatMap mvC)
  s : FarR p q.s (x.s.flatMap frC)
  o : FarR p q.o (x.o.map nmC)
theorem FarX.mono {p p' : Nat → Prop} {x : MC} {q : MA} (h : FarX p x q) (hp : ∀ k, p' k → p k) : FarX p' x q := ⟨h.m.mono hp, h.s.mono hp, h.o.mono hp⟩
theorem FarX.or {p p' : Nat → Prop} {x : MC} {q : MA} (h : FarX p x q) (h' : FarX p' x q) : FarX (fun k => p k ∨ p' k) x q := ⟨h.m.or h'.m, h.s.or h'.s, h.o.or h'.o⟩
theorem McAt.lt {w : World} {x : MC} {q : MA} (h : McAt w x q) : FarX (fun k => w.heap.size ≤ k) x q := ⟨h.m.row.lt, RowAt.lt h.s, RowAt.lt h.o⟩
theorem FreshQ.far {b : Nat} {x : MC} {q : MA} (h : FreshQ b q) : FarX (fun k => k < b) x q :=
  ⟨.inr fun y hy e => (by have := h.m y hy; omega), .inr fun y hy e => (by have := h.s y hy; omega), .inr fun y hy e => (by have := h.o y hy; omega)⟩
theorem OffP.mcX {p : Nat → Prop} {a b : World} {x : MC} {q : MA} (h : OffP p a b) (hr : McAt a x q) (hf : FarX p x q) : McAt b x q :=
  ⟨RowAt.vals (h.rowR hr.m.row hf.m), h.rowR hr.s hf.s, h.rowR hr.o hf.o, hr.c⟩
structure FarQ (p : Nat → Prop) (q : MA) : Prop where
  m : FarP p q.m
  s : FarP p q.s
  o : FarP p q.o
theorem OffP.mc {p : Nat → Prop} {a b : World} {x : MC} {q : MA} (h : OffP p a b) (hr : McAt a x q) (hf : FarQ p q) : McAt b x q :=
  ⟨RowAt.vals (h.row hr.m.row hf.m), h.row hr.s hf.s, h.row hr.o hf.o, hr.c⟩
theorem Off.put {S : Nat} {a b : World} (h : Off S a b) (o : Obj) : Off S a (b.putObj S o) :=
  ⟨h.os, h.tape, h.output, by simpa using h.size, fun k hk hn => (World.putObj_heap_other hn).trans (h.block k hk hn)⟩
theorem Off.obj {S k : Nat} {a b : World} {o : Obj} (h : Off S a b) (hk : k ≠ S) (ho : a.heap[k]? = some o) : b.heap[k]? = some o :=
  (h.block k (Array.getElem?_eq_some_iff.1 ho).1 hk).trans ho
theorem OffP.obj {p : Nat → Prop} {k : Nat} {a b : World} {o : Obj} (h : OffP p a b) (hk : ¬ p k) (ho : a.heap[k]? = some o) : b.heap[k]? = some o :=
  (h.block k (Array.getElem?_eq_some_iff.1 ho).1 hk).trans ho

/-- What a function does that is ranged over: it hands one after another to a round; each as Ad says, in that world; at the end as Fin says. -/
def Deals {α : Type} (P : Program) (gf : FuncId) (lb : Array Value) (enc : α → Array Value) (Ad : Nat → List α → α → (Nat → Prop) → World → Prop) (Fin : List α → World → Prop) (Cl : Nat → (Nat → Prop) → Prop) (W : World) : Prop :=
  ∀ (l : Nat) (own0 : Nat → Prop) (J : List α → (Nat → Prop) → World → Prop),
    Cl l own0 → (∀ k, own0 k → k < W.heap.size) →
    (∀ pre own A B, J pre own A → Off W.heap.size A B → J pre own B) →
    (∀ pre x own A, J pre own A → Ad l pre x own A → YieldAt Fence.wide 0 P l (enc x) A fun e B => e = .returned (.bool true) ∧ OffP own A B ∧ ∃ own', J (pre ++ [x]) own' B ∧ ∀ k, own' k → own k ∨ (A.heap.size ≤ k ∧ k < B.heap.size)) →
    J [] own0 W →
    Calls P gf (#[.func (.yield l) #[] #[]] ++ lb) W fun e B => (∃ v, e = .returned v) ∧ ∃ xs own, Fin xs B ∧ J xs own B

/-- How a round that goes on is left. -/
def roundQ {α : Type} (I : List α → (Nat → Prop) → World → Prop) (xs : List α) (own : Nat → Prop) (n : Nat) (A : World) : Exit → Act → World → Prop
  | .normal, _, B => OffP own A B ∧ ∃ own', I xs own' B ∧ ∀ k, own' k → own k ∨ (n ≤ k ∧ k < B.heap.size)
  | _, _, _ => False

theorem wp_range {α : Type} {P : Program} {g : Operand} {ps : Array Tmp} {assign body : Code} {Q : Exit → Act → World → Prop} {a : Act} {w : World} {gf : Nat} {lb : Array Value}
    (hg : a.eval g = .func (.func gf) #[] lb) (eg : ∀ args w, (callFunc gf args).run P w = .ok (.enter gf args) w)
    {enc : α → Array Value} (hps : ∀ x, (enc x).size = ps.size) {Ad : Nat → List α → α → (Nat → Prop) → World → Prop} {Fin : List α → World → Prop} {Cl : Nat → (Nat → Prop) → Prop}
    (hiter : ∀ o, Deals P gf lb enc Ad Fin Cl ((w.alloc (.deferred (some []))).alloc o))
    (own0 : Nat → Prop) (I : List α → (Nat → Prop) → World → Prop)
    (hcl : Cl (w.heap.size + 1) own0) (hfresh : ∀ k, own0 k → k < w.heap.size)
    (hoff : ∀ pre own A B k, k = w.heap.size + 1 ∨ k = w.heap.size + 2 → I pre own A → Off k A B → I pre own B)
    (hown : ∀ pre own A k, I pre own A → own k → k ≠ w.heap.size ∧ k ≠ w.heap.size + 1)
    (h0 : ∀ o, I [] own0 ((w.alloc (.deferred (some []))).alloc o))
    (hround : ∀ pre x own A, I pre own A → Ad (w.heap.size + 1) pre x own A → w.heap.size + 2 ≤ A.heap.size → assign.wpIn (Fence.wide.inRound (w.heap.size + 1)) 0 P
      (Exit.then (fun a₁ A₁ => OffP own A A₁ ∧ ∀ A₂, Off (w.heap.size + 1) A₁ A₂ → body.wpIn (Fence.wide.inRound (w.heap.size + 1)) 0 P (roundQ I (pre ++ [x]) own A.heap.size A₂) a₁ A₂) (fun _ _ _ => False))
      { tmps := (ps.zip (enc x)).foldl (fun t (p, v) => t.setIfInBounds p v) a.tmps, defers := [] } A)
    (hdone : ∀ xs own A B, Fin xs A → I xs own A → Off (w.heap.size + 1) A B → B.heap[w.heap.size]? = some (.deferred (some [])) → Q .normal { a with defers := { target := .collected w.heap.size, args := #[] } :: a.defers } B) :
    (Code.rangeFunc g ps assign body).wp P Q a w := by
  refine (wpIn_wide (n := 0)).1 (wpIn_rangeFunc ?_)
  intro fn _
  obtain ⟨rec, hrec⟩ : ∃ rec : LoopState → Loop, rec = fun st => { state := st, pending := none, fn, tmps := a.tmps, params := ps, assign, body, defers := w.heap.size } := ⟨_, rfl⟩
  obtain ⟨W1, hW1⟩ : ∃ W1, (w.alloc (.deferred (some []))).alloc (.loop (rec .ready)) = W1 := ⟨_, rfl⟩
  have hz : W1.heap.size = w.heap.size + 2 := by rw [← hW1]; simp
  have hL1 : W1.heap[w.heap.size + 1]? = some (.loop (rec .ready)) := by
    rw [← hW1]; have := World.alloc_heap_new (w.alloc (.deferred (some []))) (.loop (rec .ready)); rwa [World.size_alloc] at this
  have hK1 : W1.heap[w.heap.size]? = some (.deferred (some [])) := by
    rw [← hW1]; exact (Below.heap_alloc _ _ _ (by simp)).trans (World.alloc_heap_new w _)
  refine ⟨w.heap.size + 1, [{ target := .collected w.heap.size, args := #[] }], W1, { target := .fn (.func gf) lb, args := #[.func (.yield (w.heap.size + 1)) #[] #[]] }, W1, gf,
    #[.func (.yield (w.heap.size + 1)) #[] #[]] ++ lb, W1, ?_, ?_, fun _ _ => trivial, ?_, (fun h => by cases h), ?_⟩
  · rw [← hW1, hrec]; exact run_enterLoop_outer _ _ _ _ _
  · simp only [resolve, hg]
    simp [go_sem]
  · simp [invoke, go_sem, eg]
  · have hit := hiter (.loop (rec .ready))
    rw [hW1] at hit
    refine callsIn_wide.2 ((hit (w.heap.size + 1) own0 (fun pre own B => I pre own B ∧ B.heap[w.heap.size + 1]? = some (.loop (rec .ready)) ∧ B.heap[w.heap.size]? = some (.deferred (some [])))
      hcl (fun k hk => by have := hfresh k hk; omega)
      (fun pre own A B hJ hO => ⟨hoff _ _ _ _ _ (.inr hz) hJ.1 hO, hO.obj (by omega) hJ.2.1, hO.obj (by omega) hJ.2.2⟩) ?_ ⟨by rw [← hW1]; exact h0 _, hL1, hK1⟩).mono ?_)
    · rintro pre x own A ⟨hi, hl, hk⟩ hAd1
      have hy := run_yield (P := P) (args := enc x) hl (by rw [hrec]; exact hps x)
      rw [hrec] at hy
      have hlt := (Array.getElem?_eq_some_iff.1 hl).1
      refine ⟨fn, _, assign, body, hy, roundIn_of_wpIn trivial (wpIn_mono (hround pre x own A hi hAd1 (by omega)) ?_)⟩
      intro e a₁ A₁ hE
      cases e with
      | normal =>
        obtain ⟨hO1, hB⟩ := hE
        have hn1 : ¬ own (w.heap.size + 1) := fun h => (hown _ _ _ _ hi h).2 rfl
        have hn0 : ¬ own w.heap.size := fun h => (hown _ _ _ _ hi h).1 rfl
        have hl1 := hO1.obj hn1 hl
        have hk1 := hO1.obj hn0 hk
        have hlt1 := (Array.getElem?_eq_some_iff.1 hl1).1
        refine ⟨_, run_beginRound hl1 (by rw [hrec]), ?_⟩
        have hl2 : (A₁.putObj (w.heap.size + 1) (.loop { rec .ready with state := .busy })).heap[w.heap.size + 1]? = some (.loop { rec .ready with state := .busy }) := World.putObj_heap_same hlt1
        have hk2 : (A₁.putObj (w.heap.size + 1) (.loop { rec .ready with state := .busy })).heap[w.heap.size]? = some (.deferred (some [])) := (World.putObj_heap_other (by omega)).trans hk1
        refine wpIn_mono (hB _ ((Off.refl _ _).put _)) ?_
        intro e a₃ A₃ hp
        cases e with
        | normal =>
          obtain ⟨hO3, own', hi3, hown3⟩ := hp
          have hl3 := hO3.obj hn1 hl2
          have hk3 := hO3.obj hn0 hk2
          have hlt3 := (Array.getElem?_eq_some_iff.1 hl3).1
          have hr := run_endRound (P := P) none hl3
          have er : ({ ({ rec .ready with state := .busy } : Loop) with state := if (none : Option Code).isNone then .ready else .done, pending := none } : Loop) = rec .ready := by rw [hrec]; rfl
          rw [er] at hr
          refine ⟨_, _, hr, rfl, ?_, own', ⟨hoff _ _ _ _ _ (.inl rfl) hi3 ((Off.refl _ _).put _), World.putObj_heap_same hlt3, (World.putObj_heap_other (by omega)).trans hk3⟩, fun k hk => by simpa using hown3 k hk⟩
          refine ⟨hO3.os.trans hO1.os, hO3.tape.trans hO1.tape, hO3.output.trans hO1.output, ?_, ?_⟩
          · have h1 := hO1.size; have h3 := hO3.size; simp at h3 ⊢; omega
          · intro k hk hn
            by_cases e : k = w.heap.size + 1
            · subst e
              rw [World.putObj_heap_same hlt3, hl]
            · have h1 := hO1.size
              rw [World.putObj_heap_other e, hO3.block k (by simp; omega) hn, World.putObj_heap_other e, hO1.block k hk hn]
        | _ => exact hp.elim
      | _ => exact hE.elim
    · rintro e W2 ⟨⟨v, rfl⟩, xs, own, hF, hi, hl, hk⟩
      refine ⟨none, _, ?_, hdone xs own W2 _ hF hi ((Off.refl _ _).put (.loop { rec .ready with state := .exhausted })) ((World.putObj_heap_other (by omega)).trans hk)⟩
      have := run_endLoop (P := P) hl (by rw [hrec]; simp)
      rw [hrec] at this ⊢
      exact this
end
section
open Go.RowKit
set_option linter.unusedVariables false
set_option maxRecDepth 100000

section
variable {F : Fence} {n : Nat} {P : Program} {ops : Array Oper} {rest : List Oper} {o : Oper} {a : Act} {w : World} {Q : Exit → Act → World → Prop}
theorem in_load_box (hg : o.guard = none) (ty : TypeId) (x : Operand) (ho : o.op = .load ty x) (k : Nat) (hx : a.eval x = .pointer (some ⟨k, 0, none⟩)) (L : List Value) (hb : Box w k L.toArray) (d : TypeDesc)
    (hu : P.underlying ty = some d) (hd : d.isRow = true) (hi : (P.info? ty).map (·.size) = some L.length)
    (h : wpListIn F n P ops Q rest (a.put o.dst (.agg L.toArray)) w) : wpListIn F n P ops Q (o :: rest) a w := by
  refine wpListIn_plain hg fun K hK => ?_
  unfold Oper.wpIn
  refine ⟨?_, ?_⟩
  · simp [Oper.about, ho]
  · rw [Oper.semAt_plain F _ _ (by rw [ho]; intro c hc'; cases hc')]
    unfold execOp
    simp only [ho, hx, Instr.loadAt, Instr.sureAddr, Sem.run_bind, Sem.run_pure, Result.andThen_ok, run_loadVar_mid w k 0 ty L d (box_range hb) hu hd hi]
    exact hK _ _ h
theorem in_store_box (hg : o.guard = none) (ty : TypeId) (x y : Operand) (ho : o.op = .store ty x y) (k : Nat) (L : List Value) (hx : a.eval x = .pointer (some ⟨k, 0, none⟩)) (hy : a.eval y = .agg L.toArray) (Z : Array Value) (hb : Box w k Z) (hz : Z.size = L.length)
    (hi : (P.info? ty).map (·.size) = some L.length) (h1 : ∀ u ∈ L, u.oneCell' = true)
    (h : Box (w.setCells k 0 L) k L.toArray → wpListIn F n P ops Q rest (a.put o.dst undef) (w.setCells k 0 L)) : wpListIn F n P ops Q (o :: rest) a w := by
  refine wpListIn_plain hg fun K hK => ?_
  unfold Oper.wpIn
  refine ⟨?_, ?_⟩
  · simp [Oper.about, ho]
  · rw [Oper.semAt_plain F _ _ (by rw [ho]; intro c hc'; cases hc')]
    unfold execOp
    have h' := run_storeVar_mid (P := P) w k 0 ty L.toArray (box_there hb (by rw [hz, List.size_toArray])) (by rw [List.size_toArray]; exact hi) (all_oneCell_toArray h1)
    simp only [ho, hx, hy, Instr.storeAt, Instr.sureAddr, Sem.run_bind, Sem.run_pure, Result.andThen_ok, h']
    exact hK _ _ (h (box_cells hb hz))
theorem in_alloc_row (hg : o.guard = none) (ty : TypeId) (ho : o.op = .alloc ty) (v : Value) (w' : World) (hr : (Instr.alloc ty true (.tuple #[])).run P w = .ok v w')
    (h : wpListIn F n P ops Q rest (a.put o.dst v) w') : wpListIn F n P ops Q (o :: rest) a w := by
  refine wpListIn_plain hg fun K hK => ?_
  unfold Oper.wpIn
  refine ⟨?_, ?_⟩
  · simp [Oper.about, ho]
  · rw [Oper.semAt_plain F _ _ (by rw [ho]; intro c hc'; cases hc')]
    simp [execOp, ho, hr, Result.andThen]
    exact hK _ _ h
end
theorem Box.offP {p : Nat → Prop} {a b : World} {k : Nat} {c : Array Value} (hb : Box a k c) (h : OffP p a b) (hk : ¬ p k) : Box b k c := h.box hb hk
/-- Cells set in a block that was not there, or in one that may be turned. -/
theorem OffP.cells {p : Nat → Prop} {a : World} (k : Nat) : ∀ (vs : List Value) (o : Nat) (w : World), OffP p a w → (p k ∨ a.heap.size ≤ k) → OffP p a (w.setCells k o vs)
  | [], _, _, h, _ => h
  | v :: r, o, w, h, hk => OffP.cells k r (o + 1) _ (h.set (x := ⟨k, o, none⟩) hk v) hk
theorem Shp.offP {p : Nat → Prop} {a b : World} (hs : Shp a) (h : OffP p a b) (hp : ¬ p 0) : Shp b := by
  refine ⟨Nat.lt_of_lt_of_le hs.1 h.size, fun o => ?_⟩
  rw [World.cell?_of_block (w := a) (a := ⟨0, o, none⟩) (h.block _ hs.1 hp)]
  exact hs.2 o
end
section
open Go.ChangeShapes Go.WideShapes Go.ChangeAt Go.RowKit
set_option linter.unusedSimpArgs false
set_option linter.unusedVariables false
set_option maxRecDepth 100000

/-- The machine that is tried: 'set 3 9'. -/
def x39 : MC := ⟨[nil0, nil0, nil0, nil0, nil0, nil0, nil0, nil0], ⟨4, 0, 1, 0, 0⟩, [⟨false, 4212833, 0, 0, 0, 0, 0⟩], [], []⟩
theorem pack39 : packD 1 3 0 9 = 4212833 ∧ chkD 1 3 0 9 = 0 := by decide +kernel
theorem stp39 : stpE x39 = 0 := by decide +kernel
theorem b39 : McB x39 := by
  have h0 : mvOk nil0 := by
    show vb 0 0 0 0 0 0
    unfold vb kb
    decide
  refine ⟨rfl, fun v hv => ?_, ?_, fun v hv => ?_, fun v hv => (by cases hv), fun v hv => (by cases hv)⟩
  · simp only [x39, List.mem_cons, List.not_mem_nil, or_false, or_self] at hv
    rw [hv]
    exact h0
  · show kb 4 0 1 0 0
    unfold kb
    decide
  · obtain rfl := List.mem_singleton.1 hv
    show vb 4212833 0 0 0 0 0
    unfold vb kb
    decide
theorem out39 (q : MA) : (mcC (stpM x39) q).toArray[21]? = some (.bool false) ∧ (mcC (stpM x39) q).toArray[22]? = some (.int .i64 9) ∧ (mcC (stpM x39) q).toArray[23]? = some (.int .i64 0) ∧ (mcC (stpM x39) q).toArray[24]? = some (.int .i64 0) ∧ (mcC (stpM x39) q).toArray[25]? = some (.int .i64 0) ∧ (mcC (stpM x39) q).toArray[26]? = some (.int .i64 0) ∧ (mcC (stpM x39) q).toArray[27]? = some (.int .i64 0) ∧ (mcC (stpM x39) q).toArray[59]? = some (.int .i64 1) := by
  refine ⟨?_, ?_, ?_, ?_, ?_, ?_, ?_, ?_⟩ <;> kernel_rfl
theorem step39 (k : Nat) (w : World) (hk : w.cell? ⟨k, 0, none⟩ = some (.bool false)) (h1 : ∀ j, 1 ≤ j → j < 7 → w.cell? ⟨k, j, none⟩ = some (.int .i64 (if j = 1 then 4212833 else 0))) (hS : Shp w) :
    Calls Tryd.prog 10 #[.agg #[.bool false, .int .i64 0, .int .i64 0, .int .i64 0, .int .i64 0, .int .i64 0, .int .i64 0, .bool false, .int .i64 0, .int .i64 0, .int .i64 0, .int .i64 0, .int .i64 0, .int .i64 0, .bool false, .int .i64 0, .int .i64 0, .int .i64 0, .int .i64 0, .int .i64 0, .int .i64 0, .bool false, .int .i64 0, .int .i64 0, .int .i64 0, .int .i64 0, .int .i64 0, .int .i64 0, .bool false, .int .i64 0, .int .i64 0, .int .i64 0, .int .i64 0, .int .i64 0, .int .i64 0, .bool false, .int .i64 0, .int .i64 0, .int .i64 0, .int .i64 0, .int .i64 0, .int .i64 0, .bool false, .int .i64 0, .int .i64 0, .int .i64 0, .int .i64 0, .int .i64 0, .int .i64 0, .bool false, .int .i64 0, .int .i64 0, .int .i64 0, .int .i64 0, .int .i64 0, .int .i64 0, .int .i64 4, .int .i64 0, .int .i64 1, .int .i64 0, .int .i64 0, .slice (some ⟨k, 0, none⟩) 1 1, .slice none 0 0, .slice none 0 0]] w fun r w' => ∃ q', r = .returned (.tuple #[.agg (mcC (stpM x39) q').toArray, .int .i64 0]) ∧ Below w.heap.size w w' := by
  have hrow : McAt w x39 ⟨some ⟨k, 0, none⟩, 1, none, 0, none, 0⟩ := by
    refine ⟨.inr ⟨k, 0, rfl, cell_lt hk, fun j u hj => ?_⟩, .inl rfl, .inl rfl, Nat.le_refl _, Nat.le_refl _, show (1 : Nat) ≤ maxLen by unfold maxLen; decide⟩
    have hj7 : j < 7 := (List.getElem?_eq_some_iff.1 hj).1
    rw [Nat.zero_add]
    have h2 := fun h => h1 j h hj7
    have hc : j = 0 ∨ j = 1 ∨ j = 2 ∨ j = 3 ∨ j = 4 ∨ j = 5 ∨ j = 6 := by omega
    rcases hc with rfl | rfl | rfl | rfl | rfl | rfl | rfl
    · cases hj; exact hk
    all_goals
      cases hj
      exact h2 (by omega)
  have h := step_top x39 ⟨some ⟨k, 0, none⟩, 1, none, 0, none, 0⟩ w hrow b39 hS
  rw [stp39] at h
  refine Calls.mono (R := fun r w' => ∃ q', r = .returned (.tuple #[.agg (mcC (stpM x39) q').toArray, .int .i64 0]) ∧ Below w.heap.size w w' ∧ McAt w' (stpM x39) q' ∧ FreshQ w.heap.size q') h ?_
  rintro r w' ⟨q', rfl, hb, _⟩
  exact ⟨q', rfl, hb⟩
set_option maxHeartbeats 4000000 in
theorem keep_stepped (w : World) (hS : Shp w) : Calls Tryd.prog 9 #[] w fun e w' => e = .returned (.bool true) ∧ Below w.heap.size w w' := by
  have cP := fun w hS => inst_pack 1 3 0 9 w hS
  rw [pack39.1, pack39.2] at cP
  have r8 : (stpM x39).r.length = 8 := stp_r8 rfl
  have hz8 : ∀ q', z64.toArray.size = (mcC (stpM x39) q').length := fun q' => by rw [mc_length r8]; rfl
  have HS : Hid (∀ w', Below w.heap.size w w' → Shp w') := fun w' hb => hS.below hb
  clear hS
  go_enter Tryd.func9, Tryd.ntmps9
  go_wp2_with (first | (go_at_call 28; refine (cP _ (HS.out _ (Below.refl _ _))).mono ?_; rintro e w1 ⟨rfl, hB⟩) | (go_at_call 10; refine (step39 w1.heap.size _ (by simp) (fun j h1 h7 => by have hc : j = 1 ∨ j = 2 ∨ j = 3 ∨ j = 4 ∨ j = 5 ∨ j = 6 := (by omega); rcases hc with rfl | rfl | rfl | rfl | rfl | rfl <;> simp) (HS.out _ (hB.alloc hB.size _))).mono ?_; rintro e w2 ⟨q', rfl, hbb⟩; replace hB := Below.step0 (hB.alloc hB.size _) hbb; clear hbb) | (refine wpList_alloc1 rfl 31 rfl _ (alloc_mach _) ?_) | (refine pl_store_box rfl 31 (.tmp 3) (.tmp 17) rfl w2.heap.size (mcC (stpM x39) q') (by rfl) (by rfl) z64.toArray (Box.new _ _ _) (hz8 q') (mach_info r8) (mc_one _ _) ?_; intro bM; have hB3 := below_cells w2.heap.size (mcC (stpM x39) q') 0 _ (hB.alloc hB.size (.cells z64.toArray 31)) hB.size; obtain ⟨m0, m1, m2, m3, m4, m5, m6, m7⟩ := out39 q'; generalize (w2.alloc (.cells z64.toArray 31)).setCells w2.heap.size 0 (mcC (stpM x39) q') = w3 at *; generalize (mcC (stpM x39) q').toArray = M at *; have q3 := bM.cell))
  go_ret
  exact ⟨rfl, hB3⟩
end
end Go.Proofs.YtlfeglljpfihhaaDoor
