/- Plain: a range over a function whose rounds are told in which world they stand: of what there was the iterator turns one block of its own alone, a round only what is its caller's own. Plain: a whole struct loaded, stored and made within a round. custodiankeep.stepped: true; custodiankeep.opOf: the instruction that is next; custodiankeep.named: which registers it names. Plain: chapter 10: many steps of a machine. run.check: for what no step is tried; run.steps: a function over its machine and its fuel. Plain: what is told of a step is never that the fuel is used up; runs that are cut in two. -/
import Derived.Test.YtlfeglljpfihhaaGreatDoorRows
import Derived.Test.YtlfeglljpfihhaaGreatDoorStepOffX
import Derived.Test.YtlfeglljpfihhaaGreatDoorStepStepX
import Derived.RangeFuncRecord
import Derived.RangeFuncSeq
import Derived.RangeFuncBound
import Derived.WalkKit
import Derived.Test.YtlfeglljpfihhaaGreatDoorStepOwnedX
import Derived.Test.YtlfeglljpfihhaaGreatDoorStepRowX
import Derived.Deep.MidRow
import Derived.OwnWalkIn
import Derived.TacticsInMore
import Derived.LoopNIn
import Derived.LoopIn
import Derived.RangeFuncCalls
import Derived.Test.YtlfeglljpfihhaaGreatDoorCardBaseX
import Derived.Test.YtlfeglljpfihhaaGreatDoorInstShapeX
import Derived.Test.YtlfeglljpfihhaaGreatDoorMemPureX
import Derived.Test.YtlfeglljpfihhaaGreatDoorStepChkX
import Derived.Test.YtlfeglljpfihhaaGreatDoorStepFetchX
import Derived.ProofKit
import Derived.Test.YtlfeglljpfihhaaGreatDoorValArgX
import Derived.Test.YtlfeglljpfihhaaGreatDoorStepMidX
import Derived.Test.YtlfeglljpfihhaaGreatDoorStepCallX
import Derived.Test.YtlfeglljpfihhaaGreatDoorStepActX
import Derived.Test.YtlfeglljpfihhaaGreatDoorStepActsX
namespace Go.Proofs.YtlfeglljpfihhaaGreatDoor
section
open Go.RowKit

/-- Of what there was only the blocks that p names may be others. -/
structure OffP (p : Nat → Prop) (w w' : World) : Prop where
  os : w'.os = w.os
  tape : w'.tape = w.tape
  output : w'.output = w.output
  size : w.heap.size ≤ w'.heap.size
  block : ∀ k, k < w.heap.size → ¬ p k → w'.heap[k]? = w.heap[k]?
theorem OffP.refl (p : Nat → Prop) (w : World) : OffP p w w := ⟨rfl, rfl, rfl, Nat.le_refl _, fun _ _ _ => rfl⟩
theorem OffP.trans {p : Nat → Prop} {a b c : World} (h : OffP p a b) (k : OffP p b c) : OffP p a c :=
  ⟨k.os.trans h.os, k.tape.trans h.tape, k.output.trans h.output, Nat.le_trans h.size k.size, fun i hi hn => (k.block i (Nat.lt_of_lt_of_le hi h.size) hn).trans (h.block i hi hn)⟩
theorem OffP.mono {p q : Nat → Prop} {a b : World} (h : OffP p a b) (hq : ∀ k, k < a.heap.size → p k → q k) : OffP q a b := ⟨h.os, h.tape, h.output, h.size, fun k hk hn => h.block k hk fun hp => hn (hq k hk hp)⟩
theorem Off.toP {S : Nat} {a b : World} (h : Off S a b) {p : Nat → Prop} (hp : p S) : OffP p a b := ⟨h.os, h.tape, h.output, h.size, fun k hk hn => h.block k hk fun e => hn (e ▸ hp)⟩
theorem OffP.below {p : Nat → Prop} {a b c : World} (h : OffP p a b) (k : Below b.heap.size b c) : OffP p a c :=
  h.trans ⟨k.os, k.tape, k.output, k.size, fun i hi _ => k.block i hi⟩
theorem OffP.alloc {p : Nat → Prop} {a b : World} (h : OffP p a b) (o : Obj) : OffP p a (b.alloc o) := h.below ((Below.refl _ _).alloc (Nat.le_refl _) o)
theorem OffP.drew {p : Nat → Prop} {a b : World} (h : OffP p a b) : OffP p a b.drew := ⟨h.os, h.tape, h.output, h.size, h.block⟩
/-- A store into one of these blocks, or into one that was not there. -/
theorem OffP.set {p : Nat → Prop} {a b : World} (h : OffP p a b) {x : Addr} (hx : p x.block ∨ a.heap.size ≤ x.block) (u : Value) : OffP p a (b.setCell x u) :=
  ⟨h.os, h.tape, h.output, by simpa [World.setCell] using h.size, fun k hk hn => by
    rw [Below.heap_setCell _ _ _ _ (fun e => by subst e; rcases hx with hx | hx; exact hn hx; omega)]
    exact h.block k hk hn⟩
theorem OffP.to {p : Nat → Prop} {n : Nat} {a b : World} (h : OffP p a b) (hp : ∀ k, k < a.heap.size → p k → n ≤ k) (hn : n ≤ a.heap.size) : Below n a b :=
  ⟨h.os, h.tape, h.output, h.size, fun k hk => h.block k (by omega) fun e => by have := hp k (by omega) e; omega⟩
theorem OffP.box {p : Nat → Prop} {k : Nat} {a b : World} {c : Array Value} (h : OffP p a b) (hb : Box a k c) (hk : ¬ p k) : Box b k c := by
  have e := h.block k hb.lt hk
  refine ⟨Nat.lt_of_lt_of_le hb.1 h.size, fun o => ?_, fun o => ?_⟩
  · rw [World.cell?_of_block (w := a) (a := ⟨k, o, none⟩) e]; exact hb.2.1 o
  · rw [World.frozen?_of_block (w := a) (a := ⟨k, o, none⟩) e]; exact hb.2.2 o
def FarP (p : Nat → Prop) (a : Option Addr) : Prop := ∀ x ∈ a, ¬ p x.block
theorem OffP.row {p : Nat → Prop} {a b : World} {x : Option Addr} {cs : List Value} (h : OffP p a b) (hr : RowAt a x cs) (hf : FarP p x) : RowAt b x cs := by
  rcases hr with h0 | ⟨B, off, rfl, hB, hc⟩
  · exact .inl h0
  · have hne : ¬ p B := hf ⟨B, off, none⟩ rfl
    refine .inr ⟨B, off, rfl, Nat.lt_of_lt_of_le hB h.size, fun j u hj => ?_⟩
    rw [World.cell?_of_block (w := a) (a := ⟨B, off + j, none⟩) (h.block B hB hne)]
    exact hc j u hj
/-- A list that holds something lies in none of these blocks. -/
def FarR (p : Nat → Prop) (a : Option Addr) (cs : List Value) : Prop := cs = [] ∨ FarP p a
theorem OffP.rowR {p : Nat → Prop} {a b : World} {x : Option Addr} {cs : List Value} (h : OffP p a b) (hr : RowAt a x cs) (hf : FarR p x cs) : RowAt b x cs := by
  rcases hf with h0 | hf
  · exact .inl h0
  · exact h.row hr hf
theorem RowAt.lt {w : World} {x : Option Addr} {cs : List Value} (h : RowAt w x cs) : FarR (fun k => w.heap.size ≤ k) x cs := by
  rcases h with h0 | ⟨B, off, rfl, hB, hc⟩
  · exact .inl h0
  · exact .inr fun y hy => (by cases hy; show ¬ w.heap.size ≤ B; omega)
theorem FarR.mono {p p' : Nat → Prop} {x : Option Addr} {cs : List Value} (h : FarR p x cs) (hp : ∀ k, p' k → p k) : FarR p' x cs := by
  rcases h with h | h
  · exact .inl h
  · exact .inr fun y hy e => h y hy (hp _ e)
theorem FarR.or {p p' : Nat → Prop} {x : Option Addr} {cs : List Value} (h : FarR p x cs) (h' : FarR p' x cs) : FarR (fun k => p k ∨ p' k) x cs := by
  rcases h with h | h
  · exact .inl h
  · rcases h' with h' | h'
    · exact .inl h'
    · exact .inr fun y hy e => e.elim (h y hy) (h' y hy)
structure FarX (p : Nat → Prop) (x : MC) (q : MA) : Prop where
  m : FarR p q.m (x.m.flatMap mvC)
  s : FarR p q.s (x.s.flatMap frC)
  o : FarR p q.o (x.o.map nmC)
theorem FarX.mono {p p' : Nat → Prop} {x : MC} {q : MA} (h : FarX p x q) (hp : ∀ k, p' k → p k) : FarX p' x q := ⟨h.m.mono hp, h.s.mono hp, h.o.mono hp⟩
theorem FarX.or {p p' : Nat → Prop} {x : MC} {q : MA} (h : FarX p x q) (h' : FarX p' x q) : FarX (fun k => p k ∨ p' k) x q := ⟨h.m.or h'.m, h.s.or h'.s, h.o.or h'.o⟩
theorem McAt.lt {w : World} {x : MC} {q : MA} (h : McAt w x q) : FarX (fun k => w.heap.size ≤ k) x q := ⟨h.m.row.lt, RowAt.lt h.s, RowAt.lt h.o⟩
theorem FreshQ.far {b : Nat} {x : MC} {q : MA} (h : FreshQ b q) : FarX (fun k => k < b) x q :=
  ⟨.inr fun y hy e => (by have := h.m y hy; omega), .inr fun y hy e => (by have := h.s y hy; omega), .inr fun y hy e => (by have := h.o y hy; omega)⟩
theorem OffP.mcX {p : Nat → Prop} {a b : World} {x : MC} {q : MA} (h : OffP p a b) (hr : McAt a x q) (hf : FarX p x q) : McAt b x q :=
  ⟨RowAt.vals (h.rowR hr.m.row hf.m), h.rowR hr.s hf.s, h.rowR hr.o hf.o, hr.c⟩
structure FarQ (p : Nat → Prop) (q : MA) : Prop where
  m : FarP p q.m
  s : FarP p q.s
  o : FarP p q.o
theorem OffP.mc {p : Nat → Prop} {a b : World} {x : MC} {q : MA} (h : OffP p a b) (hr : McAt a x q) (hf : FarQ p q) : McAt b x q :=
  ⟨RowAt.vals (h.row hr.m.row hf.m), h.row hr.s hf.s, h.row hr.o hf.o, hr.c⟩
theorem Off.put {S : Nat} {a b : World} (h : Off S a b) (o : Obj) : Off S a (b.putObj S o) :=
  ⟨h.os, h.tape, h.output, by simpa using h.size, fun k hk hn => (World.putObj_heap_other hn).trans (h.block k hk hn)⟩
theorem Off.obj {S k : Nat} {a b : World} {o : Obj} (h : Off S a b) (hk : k ≠ S) (ho : a.heap[k]? = some o) : b.heap[k]? = some o :=
  (h.block k (Array.getElem?_eq_some_iff.1 ho).1 hk).trans ho
theorem OffP.obj {p : Nat → Prop} {k : Nat} {a b : World} {o : Obj} (h : OffP p a b) (hk : ¬ p k) (ho : a.heap[k]? = some o) : b.heap[k]? = some o :=
  (h.block k (Array.getElem?_eq_some_iff.1 ho).1 hk).trans ho

/-- What a function does that is ranged over: it hands one after another to a round; each as Ad says, in that world; at the end as Fin says. -/
def Deals {α : Type} (P : Program) (gf : FuncId) (lb : Array Value) (enc : α → Array Value) (Ad : Nat → List α → α → (Nat → Prop) → World → Prop) (Fin : List α → World → Prop) (Cl : Nat → (Nat → Prop) → Prop) (W : World) : Prop :=
  ∀ (l : Nat) (own0 : Nat → Prop) (J : List α → (Nat → Prop) → World → Prop),
    Cl l own0 → (∀ k, own0 k → k < W.heap.size) →
    (∀ pre own A B, J pre own A → Off W.heap.size A B → J pre own B) →
    (∀ pre x own A, J pre own A → Ad l pre x own A → YieldAt Fence.wide 0 P l (enc x) A fun e B => e = .returned (.bool true) ∧ OffP own A B ∧ ∃ own', J (pre ++ [x]) own' B ∧ ∀ k, own' k → own k ∨ (A.heap.size ≤ k ∧ k < B.heap.size)) →
    J [] own0 W →
    Calls P gf (#[.func (.yield l) #[] #[]] ++ lb) W fun e B => (∃ v, e = .returned v) ∧ ∃ xs own, Fin xs B ∧ J xs own B

/-- How a round that goes on is left. -/
def roundQ {α : Type} (I : List α → (Nat → Prop) → World → Prop) (xs : List α) (own : Nat → Prop) (n : Nat) (A : World) : Exit → Act → World → Prop
  | .normal, _, B => OffP own A B ∧ ∃ own', I xs own' B ∧ ∀ k, own' k → own k ∨ (n ≤ k ∧ k < B.heap.size)
  | _, _, _ => False

theorem wp_range {α : Type} {P : Program} {g : Operand} {ps : Array Tmp} {assign body : Code} {Q : Exit → Act → World → Prop} {a : Act} {w : World} {gf : Nat} {lb : Array Value}
    (hg : a.eval g = .func (.func gf) #[] lb) (eg : ∀ args w, (callFunc gf args).run P w = .ok (.enter gf args) w)
    {enc : α → Array Value} (hps : ∀ x, (enc x).size = ps.size) {Ad : Nat → List α → α → (Nat → Prop) → World → Prop} {Fin : List α → World → Prop} {Cl : Nat → (Nat → Prop) → Prop}
    (hiter : ∀ o, Deals P gf lb enc Ad Fin Cl ((w.alloc (.deferred (some []))).alloc o))
    (own0 : Nat → Prop) (I : List α → (Nat → Prop) → World → Prop)
    (hcl : Cl (w.heap.size + 1) own0) (hfresh : ∀ k, own0 k → k < w.heap.size)
    (hoff : ∀ pre own A B k, k = w.heap.size + 1 ∨ k = w.heap.size + 2 → I pre own A → Off k A B → I pre own B)
    (hown : ∀ pre own A k, I pre own A → own k → k ≠ w.heap.size ∧ k ≠ w.heap.size + 1)
    (h0 : ∀ o, I [] own0 ((w.alloc (.deferred (some []))).alloc o))
    (hround : ∀ pre x own A, I pre own A → Ad (w.heap.size + 1) pre x own A → w.heap.size + 2 ≤ A.heap.size → assign.wpIn (Fence.wide.inRound (w.heap.size + 1)) 0 P
      (Exit.then (fun a₁ A₁ => OffP own A A₁ ∧ ∀ A₂, Off (w.heap.size + 1) A₁ A₂ → body.wpIn (Fence.wide.inRound (w.heap.size + 1)) 0 P (roundQ I (pre ++ [x]) own A.heap.size A₂) a₁ A₂) (fun _ _ _ => False))
      { tmps := (ps.zip (enc x)).foldl (fun t (p, v) => t.setIfInBounds p v) a.tmps, defers := [] } A)
    (hdone : ∀ xs own A B, Fin xs A → I xs own A → Off (w.heap.size + 1) A B → B.heap[w.heap.size]? = some (.deferred (some [])) → Q .normal { a with defers := { target := .collected w.heap.size, args := #[] } :: a.defers } B) :
    (Code.rangeFunc g ps assign body).wp P Q a w := by
  refine (wpIn_wide (n := 0)).1 (wpIn_rangeFunc ?_)
  intro fn _
  obtain ⟨rec, hrec⟩ : ∃ rec : LoopState → Loop, rec = fun st => { state := st, pending := none, fn, tmps := a.tmps, params := ps, assign, body, defers := w.heap.size } := ⟨_, rfl⟩
  obtain ⟨W1, hW1⟩ : ∃ W1, (w.alloc (.deferred (some []))).alloc (.loop (rec .ready)) = W1 := ⟨_, rfl⟩
  have hz : W1.heap.size = w.heap.size + 2 := by rw [← hW1]; simp
  have hL1 : W1.heap[w.heap.size + 1]? = some (.loop (rec .ready)) := by
    rw [← hW1]; have := World.alloc_heap_new (w.alloc (.deferred (some []))) (.loop (rec .ready)); rwa [World.size_alloc] at this
  have hK1 : W1.heap[w.heap.size]? = some (.deferred (some [])) := by
    rw [← hW1]; exact (Below.heap_alloc _ _ _ (by simp)).trans (World.alloc_heap_new w _)
  refine ⟨w.heap.size + 1, [{ target := .collected w.heap.size, args := #[] }], W1, { target := .fn (.func gf) lb, args := #[.func (.yield (w.heap.size + 1)) #[] #[]] }, W1, gf,
    #[.func (.yield (w.heap.size + 1)) #[] #[]] ++ lb, W1, ?_, ?_, fun _ _ => trivial, ?_, (fun h => by cases h), ?_⟩
  · rw [← hW1, hrec]; exact run_enterLoop_outer _ _ _ _ _
  · simp only [resolve, hg]
    simp [go_sem]
  · simp [invoke, go_sem, eg]
  · have hit := hiter (.loop (rec .ready))
    rw [hW1] at hit
    refine callsIn_wide.2 ((hit (w.heap.size + 1) own0 (fun pre own B => I pre own B ∧ B.heap[w.heap.size + 1]? = some (.loop (rec .ready)) ∧ B.heap[w.heap.size]? = some (.deferred (some [])))
      hcl (fun k hk => by have := hfresh k hk; omega)
      (fun pre own A B hJ hO => ⟨hoff _ _ _ _ _ (.inr hz) hJ.1 hO, hO.obj (by omega) hJ.2.1, hO.obj (by omega) hJ.2.2⟩) ?_ ⟨by rw [← hW1]; exact h0 _, hL1, hK1⟩).mono ?_)
    · rintro pre x own A ⟨hi, hl, hk⟩ hAd1
      have hy := run_yield (P := P) (args := enc x) hl (by rw [hrec]; exact hps x)
      rw [hrec] at hy
      have hlt := (Array.getElem?_eq_some_iff.1 hl).1
      refine ⟨fn, _, assign, body, hy, roundIn_of_wpIn trivial (wpIn_mono (hround pre x own A hi hAd1 (by omega)) ?_)⟩
      intro e a₁ A₁ hE
      cases e with
      | normal =>
        obtain ⟨hO1, hB⟩ := hE
        have hn1 : ¬ own (w.heap.size + 1) := fun h => (hown _ _ _ _ hi h).2 rfl
        have hn0 : ¬ own w.heap.size := fun h => (hown _ _ _ _ hi h).1 rfl
        have hl1 := hO1.obj hn1 hl
        have hk1 := hO1.obj hn0 hk
        have hlt1 := (Array.getElem?_eq_some_iff.1 hl1).1
        refine ⟨_, run_beginRound hl1 (by rw [hrec]), ?_⟩
        have hl2 : (A₁.putObj (w.heap.size + 1) (.loop { rec .ready with state := .busy })).heap[w.heap.size + 1]? = some (.loop { rec .ready with state := .busy }) := World.putObj_heap_same hlt1
        have hk2 : (A₁.putObj (w.heap.size + 1) (.loop { rec .ready with state := .busy })).heap[w.heap.size]? = some (.deferred (some [])) := (World.putObj_heap_other (by omega)).trans hk1
        refine wpIn_mono (hB _ ((Off.refl _ _).put _)) ?_
        intro e a₃ A₃ hp
        cases e with
        | normal =>
          obtain ⟨hO3, own', hi3, hown3⟩ := hp
          have hl3 := hO3.obj hn1 hl2
          have hk3 := hO3.obj hn0 hk2
          have hlt3 := (Array.getElem?_eq_some_iff.1 hl3).1
          have hr := run_endRound (P := P) none hl3
          have er : ({ ({ rec .ready with state := .busy } : Loop) with state := if (none : Option Code).isNone then .ready else .done, pending := none } : Loop) = rec .ready := by rw [hrec]; rfl
          rw [er] at hr
          refine ⟨_, _, hr, rfl, ?_, own', ⟨hoff _ _ _ _ _ (.inl rfl) hi3 ((Off.refl _ _).put _), World.putObj_heap_same hlt3, (World.putObj_heap_other (by omega)).trans hk3⟩, fun k hk => by simpa using hown3 k hk⟩
          refine ⟨hO3.os.trans hO1.os, hO3.tape.trans hO1.tape, hO3.output.trans hO1.output, ?_, ?_⟩
          · have h1 := hO1.size; have h3 := hO3.size; simp at h3 ⊢; omega
          · intro k hk hn
            by_cases e : k = w.heap.size + 1
            · subst e
              rw [World.putObj_heap_same hlt3, hl]
            · have h1 := hO1.size
              rw [World.putObj_heap_other e, hO3.block k (by simp; omega) hn, World.putObj_heap_other e, hO1.block k hk hn]
        | _ => exact hp.elim
      | _ => exact hE.elim
    · rintro e W2 ⟨⟨v, rfl⟩, xs, own, hF, hi, hl, hk⟩
      refine ⟨none, _, ?_, hdone xs own W2 _ hF hi ((Off.refl _ _).put (.loop { rec .ready with state := .exhausted })) ((World.putObj_heap_other (by omega)).trans hk)⟩
      have := run_endLoop (P := P) hl (by rw [hrec]; simp)
      rw [hrec] at this ⊢
      exact this
end
section
open Go.RowKit
set_option linter.unusedVariables false
set_option maxRecDepth 100000

section
variable {F : Fence} {n : Nat} {P : Program} {ops : Array Oper} {rest : List Oper} {o : Oper} {a : Act} {w : World} {Q : Exit → Act → World → Prop}
theorem in_load_box (hg : o.guard = none) (ty : TypeId) (x : Operand) (ho : o.op = .load ty x) (k : Nat) (hx : a.eval x = .pointer (some ⟨k, 0, none⟩)) (L : List Value) (hb : Box w k L.toArray) (d : TypeDesc)
    (hu : P.underlying ty = some d) (hd : d.isRow = true) (hi : (P.info? ty).map (·.size) = some L.length)
    (h : wpListIn F n P ops Q rest (a.put o.dst (.agg L.toArray)) w) : wpListIn F n P ops Q (o :: rest) a w := by
  refine wpListIn_plain hg fun K hK => ?_
  unfold Oper.wpIn
  refine ⟨?_, ?_⟩
  · simp [Oper.about, ho]
  · rw [Oper.semAt_plain F _ _ (by rw [ho]; intro c hc'; cases hc')]
    unfold execOp
    simp only [ho, hx, Instr.loadAt, Instr.sureAddr, Sem.run_bind, Sem.run_pure, Result.andThen_ok, run_loadVar_mid w k 0 ty L d (box_range hb) hu hd hi]
    exact hK _ _ h
theorem in_store_box (hg : o.guard = none) (ty : TypeId) (x y : Operand) (ho : o.op = .store ty x y) (k : Nat) (L : List Value) (hx : a.eval x = .pointer (some ⟨k, 0, none⟩)) (hy : a.eval y = .agg L.toArray) (Z : Array Value) (hb : Box w k Z) (hz : Z.size = L.length)
    (hi : (P.info? ty).map (·.size) = some L.length) (h1 : ∀ u ∈ L, u.oneCell' = true)
    (h : Box (w.setCells k 0 L) k L.toArray → wpListIn F n P ops Q rest (a.put o.dst undef) (w.setCells k 0 L)) : wpListIn F n P ops Q (o :: rest) a w := by
  refine wpListIn_plain hg fun K hK => ?_
  unfold Oper.wpIn
  refine ⟨?_, ?_⟩
  · simp [Oper.about, ho]
  · rw [Oper.semAt_plain F _ _ (by rw [ho]; intro c hc'; cases hc')]
    unfold execOp
    have h' := run_storeVar_mid (P := P) w k 0 ty L.toArray (box_there hb (by rw [hz, List.size_toArray])) (by rw [List.size_toArray]; exact hi) (all_oneCell_toArray h1)
    simp only [ho, hx, hy, Instr.storeAt, Instr.sureAddr, Sem.run_bind, Sem.run_pure, Result.andThen_ok, h']
    exact hK _ _ (h (box_cells hb hz))
theorem in_alloc_row (hg : o.guard = none) (ty : TypeId) (ho : o.op = .alloc ty) (v : Value) (w' : World) (hr : (Instr.alloc ty true (.tuple #[])).run P w = .ok v w')
    (h : wpListIn F n P ops Q rest (a.put o.dst v) w') : wpListIn F n P ops Q (o :: rest) a w := by
  refine wpListIn_plain hg fun K hK => ?_
  unfold Oper.wpIn
  refine ⟨?_, ?_⟩
  · simp [Oper.about, ho]
  · rw [Oper.semAt_plain F _ _ (by rw [ho]; intro c hc'; cases hc')]
    simp [execOp, ho, hr, Result.andThen]
    exact hK _ _ h
end
theorem Box.offP {p : Nat → Prop} {a b : World} {k : Nat} {c : Array Value} (hb : Box a k c) (h : OffP p a b) (hk : ¬ p k) : Box b k c := h.box hb hk
/-- Cells set in a block that was not there, or in one that may be turned. -/
theorem OffP.cells {p : Nat → Prop} {a : World} (k : Nat) : ∀ (vs : List Value) (o : Nat) (w : World), OffP p a w → (p k ∨ a.heap.size ≤ k) → OffP p a (w.setCells k o vs)
  | [], _, _, h, _ => h
  | v :: r, o, w, h, hk => OffP.cells k r (o + 1) _ (h.set (x := ⟨k, o, none⟩) hk v) hk
theorem Shp.offP {p : Nat → Prop} {a b : World} (hs : Shp a) (h : OffP p a b) (hp : ¬ p 0) : Shp b := by
  refine ⟨Nat.lt_of_lt_of_le hs.1 h.size, fun o => ?_⟩
  rw [World.cell?_of_block (w := a) (a := ⟨0, o, none⟩) (h.block _ hs.1 hp)]
  exact hs.2 o
end
section
open Go.ChangeShapes Go.WideShapes Go.ChangeAt Go.RowKit
set_option linter.unusedSimpArgs false
set_option linter.unusedVariables false
set_option maxRecDepth 100000

/-- The machine that is tried: 'set 3 9'. -/
def x39 : MC := ⟨[nil0, nil0, nil0, nil0, nil0, nil0, nil0, nil0], ⟨4, 0, 1, 0, 0⟩, [⟨false, 4212833, 0, 0, 0, 0, 0⟩], [], []⟩
theorem pack39 : packD 1 3 0 9 = 4212833 ∧ chkD 1 3 0 9 = 0 := by decide +kernel
theorem stp39 : stpE x39 = 0 := by decide +kernel
theorem b39 : McB x39 := by
  have h0 : mvOk nil0 := by
    show vb 0 0 0 0 0 0
    unfold vb kb
    decide
  refine ⟨rfl, fun v hv => ?_, ?_, fun v hv => ?_, fun v hv => (by cases hv), fun v hv => (by cases hv)⟩
  · simp only [x39, List.mem_cons, List.not_mem_nil, or_false, or_self] at hv
    rw [hv]
    exact h0
  · show kb 4 0 1 0 0
    unfold kb
    decide
  · obtain rfl := List.mem_singleton.1 hv
    show vb 4212833 0 0 0 0 0
    unfold vb kb
    decide
theorem out39 (q : MA) : (mcC (stpM x39) q).toArray[21]? = some (.bool false) ∧ (mcC (stpM x39) q).toArray[22]? = some (.int .i64 9) ∧ (mcC (stpM x39) q).toArray[23]? = some (.int .i64 0) ∧ (mcC (stpM x39) q).toArray[24]? = some (.int .i64 0) ∧ (mcC (stpM x39) q).toArray[25]? = some (.int .i64 0) ∧ (mcC (stpM x39) q).toArray[26]? = some (.int .i64 0) ∧ (mcC (stpM x39) q).toArray[27]? = some (.int .i64 0) ∧ (mcC (stpM x39) q).toArray[59]? = some (.int .i64 1) := by
  refine ⟨?_, ?_, ?_, ?_, ?_, ?_, ?_, ?_⟩ <;> kernel_rfl
theorem step39 (k : Nat) (w : World) (hk : w.cell? ⟨k, 0, none⟩ = some (.bool false)) (h1 : ∀ j, 1 ≤ j → j < 7 → w.cell? ⟨k, j, none⟩ = some (.int .i64 (if j = 1 then 4212833 else 0))) (hS : Shp w) :
    Calls Tryz.prog 13 #[.agg #[.bool false, .int .i64 0, .int .i64 0, .int .i64 0, .int .i64 0, .int .i64 0, .int .i64 0, .bool false, .int .i64 0, .int .i64 0, .int .i64 0, .int .i64 0, .int .i64 0, .int .i64 0, .bool false, .int .i64 0, .int .i64 0, .int .i64 0, .int .i64 0, .int .i64 0, .int .i64 0, .bool false, .int .i64 0, .int .i64 0, .int .i64 0, .int .i64 0, .int .i64 0, .int .i64 0, .bool false, .int .i64 0, .int .i64 0, .int .i64 0, .int .i64 0, .int .i64 0, .int .i64 0, .bool false, .int .i64 0, .int .i64 0, .int .i64 0, .int .i64 0, .int .i64 0, .int .i64 0, .bool false, .int .i64 0, .int .i64 0, .int .i64 0, .int .i64 0, .int .i64 0, .int .i64 0, .bool false, .int .i64 0, .int .i64 0, .int .i64 0, .int .i64 0, .int .i64 0, .int .i64 0, .int .i64 4, .int .i64 0, .int .i64 1, .int .i64 0, .int .i64 0, .slice (some ⟨k, 0, none⟩) 1 1, .slice none 0 0, .slice none 0 0]] w fun r w' => ∃ q', r = .returned (.tuple #[.agg (mcC (stpM x39) q').toArray, .int .i64 0]) ∧ Below w.heap.size w w' := by
  have hrow : McAt w x39 ⟨some ⟨k, 0, none⟩, 1, none, 0, none, 0⟩ := by
    refine ⟨.inr ⟨k, 0, rfl, cell_lt hk, fun j u hj => ?_⟩, .inl rfl, .inl rfl, Nat.le_refl _, Nat.le_refl _, show (1 : Nat) ≤ maxLen by unfold maxLen; decide⟩
    have hj7 : j < 7 := (List.getElem?_eq_some_iff.1 hj).1
    rw [Nat.zero_add]
    have h2 := fun h => h1 j h hj7
    have hc : j = 0 ∨ j = 1 ∨ j = 2 ∨ j = 3 ∨ j = 4 ∨ j = 5 ∨ j = 6 := by omega
    rcases hc with rfl | rfl | rfl | rfl | rfl | rfl | rfl
    · cases hj; exact hk
    all_goals
      cases hj
      exact h2 (by omega)
  have h := step_top x39 ⟨some ⟨k, 0, none⟩, 1, none, 0, none, 0⟩ w hrow b39 hS
  rw [stp39] at h
  refine Calls.mono (R := fun r w' => ∃ q', r = .returned (.tuple #[.agg (mcC (stpM x39) q').toArray, .int .i64 0]) ∧ Below w.heap.size w w' ∧ McAt w' (stpM x39) q' ∧ FreshQ w.heap.size q') h ?_
  rintro r w' ⟨q', rfl, hb, _⟩
  exact ⟨q', rfl, hb⟩
set_option maxHeartbeats 4000000 in
theorem keep_stepped (w : World) (hS : Shp w) : Calls Tryz.prog 5 #[] w fun e w' => e = .returned (.bool true) ∧ Below w.heap.size w w' := by
  have cP := fun w hS => inst_pack 1 3 0 9 w hS
  rw [pack39.1, pack39.2] at cP
  have r8 : (stpM x39).r.length = 8 := stp_r8 rfl
  have hz8 : ∀ q', z64.toArray.size = (mcC (stpM x39) q').length := fun q' => by rw [mc_length r8]; rfl
  have HS : Hid (∀ w', Below w.heap.size w w' → Shp w') := fun w' hb => hS.below hb
  clear hS
  go_enter Tryz.func5, Tryz.ntmps5
  go_wp2_with (first | (go_at_call 12; refine (cP _ (HS.out _ (Below.refl _ _))).mono ?_; rintro e w1 ⟨rfl, hB⟩) | (go_at_call 13; refine (step39 w1.heap.size _ (by simp) (fun j h1 h7 => by have hc : j = 1 ∨ j = 2 ∨ j = 3 ∨ j = 4 ∨ j = 5 ∨ j = 6 := (by omega); rcases hc with rfl | rfl | rfl | rfl | rfl | rfl <;> simp) (HS.out _ (hB.alloc hB.size _))).mono ?_; rintro e w2 ⟨q', rfl, hbb⟩; replace hB := Below.step0 (hB.alloc hB.size _) hbb; clear hbb) | (refine wpList_alloc1 rfl 31 rfl _ (alloc_mach _) ?_) | (refine pl_store_box rfl 31 (.tmp 3) (.tmp 17) rfl w2.heap.size (mcC (stpM x39) q') (by rfl) (by rfl) z64.toArray (Box.new _ _ _) (hz8 q') (mach_info r8) (mc_one _ _) ?_; intro bM; have hB3 := below_cells w2.heap.size (mcC (stpM x39) q') 0 _ (hB.alloc hB.size (.cells z64.toArray 31)) hB.size; obtain ⟨m0, m1, m2, m3, m4, m5, m6, m7⟩ := out39 q'; generalize (w2.alloc (.cells z64.toArray 31)).setCells w2.heap.size 0 (mcC (stpM x39) q') = w3 at *; generalize (mcC (stpM x39) q').toArray = M at *; have q3 := bM.cell))
  go_ret
  exact ⟨rfl, hB3⟩
end
section
section
set_option linter.unusedVariables false

/-- The machine ahead of each step, with what comes of it. -/
def dealt : Nat → MC → List (MC × Int)
  | 0, x => [(x, 15)]
  | f + 1, x => if stpE x = 0 then (x, 0) :: dealt f (stpM x) else [(x, stpE x)]
/-- P23. -/
def runM : Nat → MC → MC
  | 0, x => x
  | f + 1, x => if stpE x = 0 then runM f (stpM x) else x
def runN : Nat → MC → Nat
  | 0, _ => 0
  | f + 1, x => if stpE x = 0 then runN f (stpM x) + 1 else 0
def runE : Nat → MC → Int
  | 0, _ => 15
  | f + 1, x => if stpE x = 0 then runE f (stpM x) else stpE x
/-- The places. -/
def runP : Nat → MC → List Int
  | 0, _ => []
  | f + 1, x => if stpE x = 0 then x.k.a :: runP f (stpM x) else []
theorem runN_le : ∀ (f : Nat) (x : MC), runN f x ≤ f
  | 0, x => Nat.le_refl _
  | f + 1, x => by
    unfold runN
    split
    · have := runN_le f (stpM x); omega
    · omega
theorem runP_len : ∀ (f : Nat) (x : MC), (runP f x).length = runN f x
  | 0, x => rfl
  | f + 1, x => by
    unfold runP runN
    split
    · rw [List.length_cons, runP_len f]
    · rfl
theorem dealt_ne (f : Nat) (x : MC) : dealt f x ≠ [] := by
  cases f with
  | zero => simp [dealt]
  | succ f => unfold dealt; split <;> simp
theorem dealt_last : ∀ (f : Nat) (x : MC), (dealt f x).getLast? = some (runM f x, runE f x)
  | 0, x => rfl
  | f + 1, x => by
    unfold dealt runM runE
    split
    · rw [List.getLast?_cons, dealt_last f]
      rfl
    · rfl
/-- How many of them were done. -/
def zeros (l : List (MC × Int)) : Nat := (l.filter (fun y => y.2 == 0)).length
def spots (l : List (MC × Int)) : List Int := (l.filter (fun y => y.2 == 0)).map (fun y => y.1.k.a)
theorem zeros_snoc (l : List (MC × Int)) (y : MC × Int) : zeros (l ++ [y]) = zeros l + (if y.2 = 0 then 1 else 0) := by
  unfold zeros
  rw [List.filter_append, List.length_append]
  by_cases h : y.2 = 0 <;> simp [h]
theorem spots_snoc (l : List (MC × Int)) (y : MC × Int) : spots (l ++ [y]) = spots l ++ (if y.2 = 0 then [y.1.k.a] else []) := by
  unfold spots
  rw [List.filter_append, List.map_append]
  by_cases h : y.2 = 0 <;> simp [h]
theorem zeros_len (l : List (MC × Int)) : zeros l ≤ l.length := List.length_filter_le _ _
theorem spots_zeros (l : List (MC × Int)) : (spots l).length = zeros l := by unfold spots zeros; rw [List.length_map]
theorem dealt_zeros : ∀ (f : Nat) (x : MC), zeros (dealt f x) = runN f x
  | 0, x => rfl
  | f + 1, x => by
    unfold dealt runN
    split
    · have := dealt_zeros f (stpM x)
      unfold zeros at this ⊢
      simp [this]
    · rename_i h
      unfold zeros
      simp [h]
theorem dealt_spots : ∀ (f : Nat) (x : MC), spots (dealt f x) = runP f x
  | 0, x => rfl
  | f + 1, x => by
    unfold dealt runP
    split
    · have := dealt_spots f (stpM x)
      unfold spots at this ⊢
      simp [this]
    · rename_i h
      unfold spots
      simp [h]
theorem dealt_len : ∀ (f : Nat) (x : MC), (dealt f x).length ≤ f + 1
  | 0, x => Nat.le_refl _
  | f + 1, x => by
    unfold dealt
    split
    · have := dealt_len f (stpM x)
      simp only [List.length_cons]; omega
    · simp
/-- How it goes on behind some steps. -/
theorem dealt_step {f : Nat} {x : MC} (h : stpE x = 0) : dealt (f + 1) x = (x, 0) :: dealt f (stpM x) := by
  show (if stpE x = 0 then (x, 0) :: dealt f (stpM x) else [(x, stpE x)]) = _
  rw [if_pos h]
theorem dealt_stop {f : Nat} {x : MC} (h : ¬ stpE x = 0) : dealt (f + 1) x = [(x, stpE x)] := by
  show (if stpE x = 0 then (x, 0) :: dealt f (stpM x) else [(x, stpE x)]) = _
  rw [if_neg h]
theorem runM_good : ∀ (f : Nat) (x : MC), Good x → Good (runM f x)
  | 0, x, h => h
  | f + 1, x, h => by
    unfold runM
    split
    · rename_i he
      exact runM_good f _ (step_good h.r8 he)
    · exact h
end
section
open Go.ChangeShapes Go.WideShapes Go.ChangeAt Go.RowKit
set_option linter.unusedSimpArgs false
set_option linter.unusedVariables false
set_option maxRecDepth 100000

/-- P23: what is told where no step is tried. -/
def chkR (f : Int) (x : MC) : Int := if f < 0 ∨ 5000 < f then 1 else mcE x
set_option maxHeartbeats 2000000 in
theorem run_check (x : MC) (q : MA) (f : Int) (w : World) (hA : McAt w x q) (hO : McB x) :
    Calls Tryz.prog 17 #[.agg (mcC x q).toArray, .int .i64 f] w fun e w' => e = .returned (.int .i64 (chkR f x)) ∧ Below w.heap.size w w' := by
  have cC := fun w hA => step_check x q w hA hO
  have hi : (Tryz.prog.info? 31).map (·.size) = some (mcC x q).length := by rw [mc_length hO.r8]; exact info_mach
  have hB : ∀ T, Below w.heap.size w (w.alloc T) := fun T => (Below.refl _ _).alloc (Nat.le_refl _) _
  by_cases h1 : f < 0
  · have e : chkR f x = 1 := by unfold chkR; exact if_pos (.inl h1)
    rw [e]
    clear e
    go_enter Tryz.func17, Tryz.ntmps17
    go_wp2
    go_ret
    exact ⟨rfl, hB _⟩
  · by_cases h2 : 5000 < f
    · have e : chkR f x = 1 := by unfold chkR; exact if_pos (.inr h2)
      rw [e]
      clear e
      go_enter Tryz.func17, Tryz.ntmps17
      go_wp2
      go_ret
      exact ⟨rfl, hB _⟩
    · have e : chkR f x = mcE x := by unfold chkR; exact if_neg (by omega)
      rw [e]
      have HA : Hid (∀ w', Below w.heap.size w w' → McAt w' x q) := fun w' hb => hA.below hb
      generalize mcC x q = L at *
      generalize mcE x = E at *
      clear hA e
      go_enter Tryz.func17, Tryz.ntmps17
      go_wp2_with (first | (refine wpList_load_mid rfl 31 (.tmp 2) rfl w.heap.size 0 (by rfl) L _ (box_range (Box.new _ _ _)) Tryz.underlying31 rfl hi ?_) | (go_at_call 24; refine (cC _ (HA.out _ (hB _))).mono ?_; rintro e w1 ⟨rfl, hbb⟩; have hb1 := Below.step0 (hB _) hbb; clear hbb))
      go_ret
      exact ⟨rfl, hb1⟩
theorem run_steps (M : Array Value) (f : Int) (w : World) :
    Calls Tryz.prog 18 #[.agg M, .int .i64 f] w fun e w' => e = .returned (.func (.func 33) #[] #[.pointer (some ⟨w.heap.size, 0, none⟩), .pointer (some ⟨w.heap.size + 1, 0, none⟩)]) ∧ w' = (w.alloc (.cells M 31)).alloc (.cells #[.int .i64 f] 3) := by
  go_enter Tryz.func18, Tryz.ntmps18
  go_wp2
  go_ret
  exact ⟨rfl, rfl⟩
end
section
set_option linter.unusedVariables false

def low (e : Int) : Prop := 0 ≤ e ∧ ¬ e = 15 ∧ e ≤ 16
theorem low_lit {e : Int} (h : 0 ≤ e ∧ ¬ e = 15 ∧ e ≤ 16) : low e := h
theorem low0 : low 0 := low_lit (by decide)
theorem low_chk (p b l a s : Int) : low (chkE p b l a s) := by unfold chkE; split <;> (unfold low; omega)
theorem low_uns (p b l a s : Int) : low (unsE p b l a s) := by
  unfold unsE
  split
  · split <;> (unfold low; omega)
  · unfold low; omega
theorem low_may (p b l a s q : Int) : low (mayE p b l a s q) := by
  unfold mayE
  split
  · split
    · split <;> (unfold low; omega)
    · unfold low; omega
  · unfold low; omega
theorem low_v (v : MV) : low (chk1 v) := by
  unfold chk1
  cases v.i
  · show low (numE _ _ _ _ _ _)
    unfold numE
    split
    · split <;> (unfold low; omega)
    · unfold low; omega
  · show low (keyE _ _ _ _ _ _)
    unfold keyE
    split
    · split <;> (unfold low; omega)
    · unfold low; omega
theorem low_l (vs : List MV) : low (chkL vs) := by
  induction vs with
  | nil => unfold chkL low; omega
  | cons v vs ih =>
    unfold chkL
    split
    · exact ih
    · exact low_v v
theorem low_m (vs : List MV) : low (memE vs) := by
  unfold memE
  split
  · unfold low; omega
  · exact low_l vs
theorem low_f (fs : List FR) : low (frsE fs) := by
  induction fs with
  | nil => unfold frsE low; omega
  | cons f fs ih =>
    unfold frsE
    split
    · exact ih
    · unfold frE
      split
      · exact low_v _
      · exact low_chk _ _ _ _ _
theorem low_s (fs : List FR) : low (stkE fs) := by
  unfold stkE
  split
  · unfold low; omega
  · exact low_f fs
theorem low_t (ns : List Int) : low (toldE ns) := by
  induction ns with
  | nil => unfold toldE low; omega
  | cons n ns ih =>
    unfold toldE
    split
    · exact ih
    · unfold low; omega
theorem low_o (ns : List Int) : low (outE ns) := by
  unfold outE
  split
  · unfold low; omega
  · exact low_t ns
theorem low_mc (x : MC) : low (mcE x) := by
  unfold mcE
  split
  · split
    · split
      · split
        · exact low_o _
        · exact low_s _
      · exact low_m _
    · exact low_chk _ _ _ _ _
  · exact low_l _
theorem low_pl (n : Nat) (k : K5) (off q : Int) : low (plE n k off q) := by
  unfold plE
  split
  · split
    · split
      · split <;> (unfold low; omega)
      · unfold low; omega
    · unfold low; omega
  · exact low_chk _ _ _ _ _
theorem low_load (vs : List MV) (k : K5) (off : Int) : low (loadE vs k off) := by
  unfold loadE
  split
  · exact low_pl _ _ _ _
  · exact low_m _
theorem low_store (vs : List MV) (k : K5) (off : Int) (v : MV) : low (storeE vs k off v) := by
  unfold storeE
  split
  · split
    · split
      · split <;> (unfold low; omega)
      · exact low_pl _ _ _ _
    · exact low_v _
  · exact low_m _
theorem low_move (p b l a s n : Int) : low (moveK p b l a s n).e := by
  unfold moveK
  split
  · split
    · exact low0
    · exact low_lit (by decide)
  · exact low_uns p b l a s
theorem low_narrow (p b l a s n : Int) : low (narrowK p b l a s n).e := by
  unfold narrowK
  split
  · split
    · exact low0
    · exact low_lit (by decide)
  · exact low_uns p b l a s
theorem low_drop (p b l a s n : Int) : low (dropK p b l a s n).e := by
  unfold dropK
  split
  · exact low0
  · exact low_uns p b l a s
theorem low_seal (p b l a s p' b' l' a' s' : Int) : low (sealK p b l a s p' b' l' a' s').e := by
  unfold sealK
  split
  · split
    · split
      · split
        · exact low0
        · exact low_lit (by decide)
      · exact low_may p' b' l' a' s' 32
    · exact low_lit (by decide)
  · exact low_lit (by decide)
theorem low_open (p b l a s p' b' l' a' s' : Int) : low (openK p b l a s p' b' l' a' s').e := by
  unfold openK
  split
  · split
    · exact low_lit (by decide)
    · split
      · split
        · exact low0
        · exact low_lit (by decide)
      · exact low_may p' b' l' a' s' 64
  · exact low_lit (by decide)
theorem low_call (a b : K5) (n : Nat) : low (callE a b n) := by
  unfold callE
  split
  · exact low_lit (by decide)
  · split
    · exact low_lit (by decide)
    · split <;> exact low_lit (by decide)
theorem low_div (n : Int) : low (divE n) := by unfold divE; split <;> exact low_lit (by decide)
theorem low_u : low (thE .u) := low_lit (by decide)
theorem low_h : low (thE .h) := low_lit (by decide)
theorem low_key {x : MC} {a : Int} {K : KK} {n : K5} {t : Th} (h : keyR x a K n = .no t) (hK : low K.e) : low (thE t) := by
  unfold keyR at h
  split at h
  · cases h
  · cases h
    exact hK
theorem low_jump {x : MC} {i : ID} {n : K5} {t : Th} (h : jumpR x i n = .no t) : low (thE t) := by
  unfold jumpR at h
  split at h
  · cases h
  · cases h
    exact low_lit (by decide)
theorem low_calc {x : MC} {i : ID} {n : K5} {b c : MV} {t : Th} (h : calcR x i n b c = .no t) : low (thE t) := by
  unfold calcR at h
  split at h
  · cases h; exact low_u
  · split at h
    · cases h; exact low_u
    · split at h
      · cases h; exact low_div _
      · cases h
theorem low_shift (o : Int) (k : K5) (n : Int) : low (shiftK o k n).e := by
  unfold shiftK
  split
  · exact low_move _ _ _ _ _ _
  · exact low_narrow _ _ _ _ _ _
theorem low_act {x : MC} {i : ID} {n : K5} {t : Th} (h : actR x i n = .no t) : low (thE t) := by
  unfold actR at h
  split at h
  all_goals first
    | exact low_calc h
    | exact low_jump h
    | (cases h; done)
    | (cases h; exact low_h)
    | (repeat' split at h
       all_goals first
         | exact low_key h (low_shift _ _ _)
         | exact low_key h (low_drop _ _ _ _ _ _)
         | exact low_key h (low_seal _ _ _ _ _ _ _ _ _ _)
         | exact low_key h (low_open _ _ _ _ _ _ _ _ _ _)
         | exact low_jump h
         | (cases h; done)
         | (cases h; exact low_u)
         | (cases h; exact low_h)
         | (cases h; exact low_load _ _ _)
         | (cases h; exact low_store _ _ _ _)
         | (cases h; exact low_call _ _ _)
         | (cases h; exact low_lit (by decide)))
theorem low_fet (x : MC) : low (fetI x) := by
  unfold fetI
  split
  · split
    · split
      · split
        · exact low_lit (by decide)
        · unfold insAt readD
          split
          · exact low0
          · exact low_lit (e := 5) (by decide)
      · exact low_lit (by decide)
    · exact low_lit (by decide)
  · exact low_lit (by decide)
theorem stp_low (x : MC) : low (stpE x) := by
  unfold stpE
  split
  · cases hA : stepA x with
    | no t =>
      show low (thE t)
      unfold stepA at hA
      split at hA
      · exact low_act hA
      · cases hA
        exact low_fet x
    | ok x' n' => exact low0
  · exact low_mc x
/-- A run ends with the fuel used up just if all steps were done. -/
theorem run_ends : ∀ (f : Nat) (x : MC), (runE f x = 15 ∧ runN f x = f) ∨ (¬ runE f x = 15 ∧ ¬ runE f x = 0 ∧ stpE (runM f x) = runE f x)
  | 0, x => .inl ⟨rfl, rfl⟩
  | f + 1, x => by
    unfold runE runN runM
    split
    · rcases run_ends f (stpM x) with ⟨h1, h2⟩ | h
      · exact .inl ⟨h1, by rw [h2]⟩
      · exact .inr h
    · rename_i h
      have h3 := stp_low x
      unfold low at h3
      exact .inr ⟨by omega, h, rfl⟩
theorem run_more : ∀ (f g : Nat) (x : MC), ¬ runE f x = 15 → runM (f + g) x = runM f x ∧ runN (f + g) x = runN f x ∧ runE (f + g) x = runE f x
  | 0, g, x, h => absurd rfl h
  | f + 1, g, x, h => by
    rw [show f + 1 + g = (f + g) + 1 by omega]
    unfold runE at h
    unfold runM runN runE
    split
    · rename_i he
      rw [if_pos he] at h
      obtain ⟨h1, h2, h3⟩ := run_more f g (stpM x) h
      exact ⟨h1, by rw [h2], h3⟩
    · exact ⟨rfl, rfl, rfl⟩
theorem run_all : ∀ (f g : Nat) (x : MC), runE f x = 15 → runM (f + g) x = runM g (runM f x) ∧ runN (f + g) x = f + runN g (runM f x) ∧ runE (f + g) x = runE g (runM f x)
  | 0, g, x, h => by
    rw [Nat.zero_add, Nat.zero_add]
    exact ⟨rfl, rfl, rfl⟩
  | f + 1, g, x, h => by
    rw [show f + 1 + g = (f + g) + 1 by omega]
    unfold runE at h
    split at h
    · rename_i he
      obtain ⟨h1, h2, h3⟩ := run_all f g (stpM x) h
      have e1 : runM (f + g + 1) x = runM (f + g) (stpM x) := by show (if stpE x = 0 then runM (f + g) (stpM x) else x) = _; rw [if_pos he]
      have e2 : runN (f + g + 1) x = runN (f + g) (stpM x) + 1 := by show (if stpE x = 0 then runN (f + g) (stpM x) + 1 else 0) = _; rw [if_pos he]
      have e3 : runE (f + g + 1) x = runE (f + g) (stpM x) := by show (if stpE x = 0 then runE (f + g) (stpM x) else stpE x) = _; rw [if_pos he]
      have e4 : runM (f + 1) x = runM f (stpM x) := by show (if stpE x = 0 then runM f (stpM x) else x) = _; rw [if_pos he]
      rw [e1, e2, e3, e4, h1, h2, h3]
      exact ⟨rfl, by omega, rfl⟩
    · have h3 := stp_low x
      unfold low at h3
      omega
theorem run_ne0 (f : Nat) (x : MC) : ¬ runE f x = 0 := by
  rcases run_ends f x with ⟨h, _⟩ | ⟨_, h, _⟩
  · rw [h]; decide
  · exact h
/-- What has halted stays so. -/
theorem run_stays {f : Nat} {x : MC} (h : ¬ runE f x = 15) (g : Nat) : runM (g + 1) (runM f x) = runM f x ∧ runN (g + 1) (runM f x) = 0 ∧ runE (g + 1) (runM f x) = runE f x := by
  rcases run_ends f x with ⟨h1, _⟩ | ⟨_, h2, h3⟩
  · exact absurd h1 h
  · have hne : ¬ stpE (runM f x) = 0 := by rw [h3]; exact h2
    refine ⟨?_, ?_, ?_⟩
    · show (if stpE (runM f x) = 0 then _ else _) = _
      rw [if_neg hne]
    · show (if stpE (runM f x) = 0 then _ else _) = _
      rw [if_neg hne]
    · show (if stpE (runM f x) = 0 then _ else _) = _
      rw [if_neg hne, h3]
/-- What Run answers: the machine, how many steps, what is told. -/
def runX (f : Int) (x : MC) : MC := if chkR f x = 0 then runM f.toNat x else zeroM
def runK (f : Int) (x : MC) : Int := if chkR f x = 0 then (runN f.toNat x : Nat) else 0
def runF (f : Int) (x : MC) : Int := if chkR f x = 0 then runE f.toNat x else chkR f x
theorem chkR_in {f : Nat} {x : MC} (hf : f ≤ 5000) : chkR (f : Int) x = mcE x := by unfold chkR; exact if_neg (by omega)
theorem runX_good {f : Nat} {x : MC} (hf : f ≤ 5000) (h : mcE x = 0) : runX (f : Int) x = runM f x ∧ runK (f : Int) x = (runN f x : Nat) ∧ runF (f : Int) x = runE f x := by
  unfold runX runK runF
  rw [chkR_in hf, if_pos h, if_pos h, if_pos h, Int.toNat_natCast]
  exact ⟨rfl, rfl, rfl⟩
theorem runX_bad {f : Nat} {x : MC} (hf : f ≤ 5000) (h : ¬ mcE x = 0) : runX (f : Int) x = zeroM ∧ runK (f : Int) x = 0 ∧ runF (f : Int) x = mcE x := by
  unfold runX runK runF
  rw [chkR_in hf, if_neg h, if_neg h, if_neg h]
  exact ⟨rfl, rfl, rfl⟩
theorem mc_ne15 (x : MC) : ¬ mcE x = 15 := (low_mc x).2.1
/-- A list that is no longer than a machine's may be. -/
structure Sml (x : MC) : Prop where
  r8 : x.r.length = 8
  m : x.m.length ≤ maxLen
  s : x.s.length ≤ maxLen
  o : x.o.length ≤ maxLen
theorem Good.sml {x : MC} (h : Good x) : Sml x := by
  have h1 := (mem_small h.m).1
  have h2 := (stk_iff.1 h.s).1
  have h3 := (out_iff.1 h.o).1
  exact ⟨h.r8, by unfold maxLen; omega, by unfold maxLen; omega, by unfold maxLen; omega⟩
theorem sml_zero : Sml zeroM := ⟨rfl, Nat.zero_le _, Nat.zero_le _, Nat.zero_le _⟩
theorem runX_sml {f : Nat} {x : MC} (hf : f ≤ 5000) (h8 : x.r.length = 8) : Sml (runX (f : Int) x) := by
  by_cases h : mcE x = 0
  · rw [(runX_good hf h).1]
    exact (runM_good f x (good_of h8 h)).sml
  · rw [(runX_bad hf h).1]
    exact sml_zero
theorem runX_b {f : Nat} {x : MC} (hf : f ≤ 5000) : (0 ≤ runK (f : Int) x ∧ runK (f : Int) x ≤ f) ∧ ¬ runF (f : Int) x = 0 := by
  by_cases h : mcE x = 0
  · obtain ⟨_, h2, h3⟩ := runX_good hf h
    rw [h2, h3]
    have := runN_le f x
    exact ⟨by omega, run_ne0 f x⟩
  · obtain ⟨_, h2, h3⟩ := runX_bad hf h
    rw [h2, h3]
    exact ⟨by omega, h⟩
theorem runX_more {f g : Nat} {x : MC} (hf : f ≤ 5000) (hg : f + g ≤ 5000) (h : ¬ runF (f : Int) x = 15) : runX ((f : Int) + g) x = runX f x ∧ runK ((f : Int) + g) x = runK f x ∧ runF ((f : Int) + g) x = runF f x := by
  rw [show ((f : Int) + g) = ((f + g : Nat) : Int) by omega]
  by_cases hE : mcE x = 0
  · obtain ⟨h1, h2, h3⟩ := runX_good hf hE
    obtain ⟨k1, k2, k3⟩ := runX_good hg hE
    rw [h3] at h
    obtain ⟨e1, e2, e3⟩ := run_more f g x h
    rw [h1, h2, h3, k1, k2, k3, e1, e2, e3]
    exact ⟨rfl, rfl, rfl⟩
  · obtain ⟨h1, h2, h3⟩ := runX_bad hf hE
    obtain ⟨k1, k2, k3⟩ := runX_bad hg hE
    rw [h1, h2, h3, k1, k2, k3]
    exact ⟨rfl, rfl, rfl⟩
theorem runX_all {f g : Nat} {x : MC} (hf : f ≤ 5000) (hg : f + g ≤ 5000) (h8 : x.r.length = 8) (h : runF (f : Int) x = 15) : Good (runX f x) ∧ runK f x = f ∧ runX ((f : Int) + g) x = runX g (runX f x) ∧ runK ((f : Int) + g) x = f + runK g (runX f x) ∧ runF ((f : Int) + g) x = runF g (runX f x) := by
  rw [show ((f : Int) + g) = ((f + g : Nat) : Int) by omega]
  by_cases hE : mcE x = 0
  · obtain ⟨h1, h2, h3⟩ := runX_good hf hE
    obtain ⟨k1, k2, k3⟩ := runX_good hg hE
    rw [h3] at h
    have hG := runM_good f x (good_of h8 hE)
    obtain ⟨j1, j2, j3⟩ := runX_good (f := g) (x := runM f x) (by omega) hG.e
    obtain ⟨e1, e2, e3⟩ := run_all f g x h
    rw [h1, h2, k1, k2, k3, j1, j2, j3, e1, e2, e3]
    refine ⟨hG, ?_, rfl, by omega, rfl⟩
    rcases run_ends f x with ⟨_, hn⟩ | ⟨hn, _⟩
    · rw [hn]
    · exact absurd h hn
  · obtain ⟨h1, h2, h3⟩ := runX_bad hf hE
    rw [h3] at h
    exact absurd h (mc_ne15 x)
/-- What has halted stays so. -/
theorem runX_stays {f g : Nat} {x : MC} (hf : f ≤ 5000) (hg : g + 1 ≤ 5000) (h8 : x.r.length = 8) (hE : mcE x = 0) (h : ¬ runF (f : Int) x = 15) : Good (runX f x) ∧ runX ((g + 1 : Nat) : Int) (runX f x) = runX f x ∧ runK ((g + 1 : Nat) : Int) (runX f x) = 0 ∧ runF ((g + 1 : Nat) : Int) (runX f x) = runF f x := by
  obtain ⟨h1, h2, h3⟩ := runX_good hf hE
  rw [h3] at h
  have hG := runM_good f x (good_of h8 hE)
  obtain ⟨j1, j2, j3⟩ := runX_good (f := g + 1) (x := runM f x) hg hG.e
  obtain ⟨e1, e2, e3⟩ := run_stays h g
  rw [h1, h3, j1, j2, j3, e1, e2, e3]
  exact ⟨hG, rfl, rfl, rfl⟩
theorem runX_none {x : MC} (hE : mcE x = 0) : runX 0 x = x ∧ runK 0 x = 0 ∧ runF 0 x = 15 := runX_good (f := 0) (by omega) hE
theorem eff_out {x x' : MC} {i : ID} {n n' : K5} (h : Eff x i n x' n') : ∃ l, x'.o = x.o ++ l ∧ l.length ≤ 1 := by
  cases h with
  | tell ho hi hl => exact ⟨_, rfl, Nat.le_refl _⟩
  | _ => exact ⟨[], by simp [putR, callM, backM], by simp⟩
theorem step_out {x : MC} (h8 : x.r.length = 8) (h : stpE x = 0) : ∃ l, (stpM x).o = x.o ++ l ∧ l.length ≤ 1 := by
  obtain ⟨hG, hf, hi, x', n', hE, e, _⟩ := step_eff h8 h
  rw [e]
  obtain ⟨l, h1, h2⟩ := eff_out hE
  exact ⟨l, h1, h2⟩
/-- What was told stays told; no more is told than steps were done. -/
theorem run_out : ∀ (f : Nat) (x : MC), x.r.length = 8 → ∃ l, (runM f x).o = x.o ++ l ∧ l.length ≤ runN f x
  | 0, x, _ => ⟨[], by simp [runM], Nat.zero_le _⟩
  | f + 1, x, h8 => by
    unfold runM runN
    split
    · rename_i he
      obtain ⟨l1, e1, k1⟩ := step_out h8 he
      obtain ⟨l2, e2, k2⟩ := run_out f (stpM x) (step_good h8 he).r8
      refine ⟨l1 ++ l2, by rw [e2, e1, List.append_assoc], ?_⟩
      rw [List.length_append]
      omega
    · exact ⟨[], by simp, Nat.zero_le _⟩
end
end
end Go.Proofs.YtlfeglljpfihhaaGreatDoor
