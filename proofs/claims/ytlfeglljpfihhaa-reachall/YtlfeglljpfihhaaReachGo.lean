/- Plain: how what is held grows while one looks for more: what is asked for is held, nothing else comes than what leads there, and what is new leads nowhere else. -/
import Derived.Test.YtlfeglljpfihhaaRows
import Derived.Test.YtlfeglljpfihhaaBits
import Derived.Test.YtlfeglljpfihhaaKeyPure
import Derived.Test.YtlfeglljpfihhaaCellPure
import Derived.Test.YtlfeglljpfihhaaValsArg
import Derived.Test.YtlfeglljpfihhaaMemPure
import Derived.Test.YtlfeglljpfihhaaMachArg
import Derived.Test.YtlfeglljpfihhaaMachMid
import Derived.Test.YtlfeglljpfihhaaStepChk
import Derived.Test.YtlfeglljpfihhaaReachPure
namespace Go.Proofs.Ytlfeglljpfihhaa
open Go.RowKit
set_option linter.unusedVariables false

/-- A key in a cell that one may look at by that key. -/
def Chd (M : List MV) (d : Bool) (r c : K5) : Prop := Cnt d r ∧ inB 9 r.p = true ∧ ∃ (j : Nat) (v : MV), cov5 r j = true ∧ M[j]? = some v ∧ v.i = true ∧ c = vK v
/-- What some keys lead to. -/
inductive RF (M : List MV) (d : Bool) (T : K5 → Prop) : K5 → Prop
  | at_ {k : K5} (h : T k) : RF M d T k
  | go {r c : K5} (h : RF M d T r) (hc : Chd M d r c) : RF M d T c
theorem rf_mono {M : List MV} {d : Bool} {T T' : K5 → Prop} (h : ∀ k, T k → RF M d T' k) : ∀ {k}, RF M d T k → RF M d T' k := fun hk => by
  induction hk with
  | at_ hT => exact h _ hT
  | go _ hc ih => exact .go ih hc
/-- Of S comes S', T being looked for. -/
structure Gr (M : List MV) (d : Bool) (S S' T : K5 → Prop) : Prop where
  sub : ∀ k, S k → S' k
  inn : ∀ k, T k → S' k
  frm : ∀ k, S' k → S k ∨ RF M d T k
  clo : ∀ r, S' r → S r ∨ ∀ c, Chd M d r c → S' c
section
variable {M : List MV} {d : Bool} {S S1 S2 T T1 T2 : K5 → Prop}
theorem Gr.refl (hT : ∀ k, T k → S k) : Gr M d S S T := ⟨fun _ h => h, hT, fun _ h => .inl h, fun _ h => .inl h⟩
theorem Gr.trans (h : Gr M d S S1 T1) (g : Gr M d S1 S2 T2) (hT : ∀ k, T k ↔ T1 k ∨ T2 k) : Gr M d S S2 T := by
  refine ⟨fun k hk => g.sub k (h.sub k hk), fun k hk => ?_, fun k hk => ?_, fun r hr => ?_⟩
  · rcases (hT k).1 hk with h1 | h1
    · exact g.sub k (h.inn k h1)
    · exact g.inn k h1
  · rcases g.frm k hk with h1 | h1
    · rcases h.frm k h1 with h2 | h2
      · exact .inl h2
      · exact .inr (rf_mono (fun k hk => .at_ ((hT k).2 (.inl hk))) h2)
    · exact .inr (rf_mono (fun k hk => .at_ ((hT k).2 (.inr hk))) h1)
  · rcases g.clo r hr with h1 | h1
    · rcases h.clo r h1 with h2 | h2
      · exact .inl h2
      · exact .inr fun c hc => g.sub c (h2 c hc)
    · exact .inr h1
theorem Gr.leaf {k0 : K5} (hS : ∀ k, S1 k ↔ S k ∨ k = k0) (hn : ∀ c, ¬ Chd M d k0 c) : Gr M d S S1 (fun k => k = k0) := by
  refine ⟨fun k hk => (hS k).2 (.inl hk), fun k hk => (hS k).2 (.inr hk), fun k hk => ?_, fun r hr => ?_⟩
  · exact ((hS k).1 hk).imp id .at_
  · rcases (hS r).1 hr with h | rfl
    · exact .inl h
    · exact .inr fun c hc => absurd hc (hn c)
theorem Gr.node {k0 : K5} (hS : ∀ k, S1 k ↔ S k ∨ k = k0) (h : Gr M d S1 S2 (Chd M d k0)) : Gr M d S S2 (fun k => k = k0) := by
  refine ⟨fun k hk => h.sub k ((hS k).2 (.inl hk)), fun k hk => h.sub k ((hS k).2 (.inr hk)), fun k hk => ?_, fun r hr => ?_⟩
  · rcases h.frm k hk with h1 | h1
    · exact ((hS k).1 h1).imp id .at_
    · exact .inr (rf_mono (T' := fun k => k = k0) (fun c hc => .go (.at_ rfl) hc) h1)
  · rcases h.clo r hr with h1 | h1
    · rcases (hS r).1 h1 with h2 | rfl
      · exact .inl h2
      · exact .inr h.inn
    · exact .inr h1
theorem Gr.cast (h : Gr M d S S1 T1) (hT : ∀ k, T k ↔ T1 k) : Gr M d S S1 T := ⟨h.sub, fun k hk => h.inn k ((hT k).1 hk), fun k hk => (h.frm k hk).imp id (rf_mono (fun k hk => .at_ ((hT k).2 hk))), h.clo⟩
end
/-- All that is held at the end. -/
theorem gr_has {x : MC} {d : Bool} {S S' : K5 → Prop} (h : Gr x.m d S S' (Rt x d)) (h0 : ∀ k, ¬ S k) (k : K5) : S' k ↔ Has x d k := by
  constructor
  · intro hk
    rcases h.frm k hk with h1 | h1
    · exact absurd h1 (h0 k)
    · clear hk
      induction h1 with
      | at_ hT => exact .rt hT
      | @go r c hr hc ih =>
        obtain ⟨h1, h2, j, v, h3, h4, h5, rfl⟩ := hc
        exact .cell r j v ih h1 h2 h3 h4 h5
  · intro hk
    induction hk with
    | rt hr => exact h.inn _ hr
    | cell r j v _ hc hp hv hm hi ih => exact ((h.clo r ih).resolve_left (h0 r)) _ ⟨hc, hp, j, v, hv, hm, hi, rfl⟩
/-- How many of U are not held yet. -/
def cntN (s : K5 → Bool) : List K5 → Nat
  | [] => 0
  | k :: U => (if s k = true then 0 else 1) + cntN s U
theorem cnt_le {s s' : K5 → Bool} (h : ∀ k, s k = true → s' k = true) : ∀ U, cntN s' U ≤ cntN s U
  | [] => Nat.le_refl _
  | k :: U => by
    have ih := cnt_le h U
    unfold cntN
    by_cases h1 : s k = true
    · rw [if_pos h1, if_pos (h k h1)]; omega
    · rw [if_neg h1]
      split <;> omega
theorem cnt_lt {s s' : K5 → Bool} (h : ∀ k, s k = true → s' k = true) {k0 : K5} (h0 : s k0 = false) (h1 : s' k0 = true) : ∀ U, k0 ∈ U → cntN s' U < cntN s U
  | [], hm => by simp at hm
  | k :: U, hm => by
    have hle := cnt_le h U
    unfold cntN
    rcases List.mem_cons.1 hm with rfl | hm
    · rw [if_pos h1, if_neg (by rw [h0]; decide)]; omega
    · have ih := cnt_lt h h0 h1 U hm
      by_cases h2 : s k = true
      · rw [if_pos h2, if_pos (h k h2)]; omega
      · rw [if_neg h2]
        split <;> omega
theorem cnt_all (U : List K5) : cntN (fun _ => false) U = U.length := by
  induction U with
  | nil => rfl
  | cons k U ih => unfold cntN; rw [ih, if_neg (by decide), List.length_cons]; omega
/-- All keys of a list of values. -/
def kysL : List MV → List K5
  | [] => []
  | v :: vs => if v.i = true then vK v :: kysL vs else kysL vs
theorem mem_kys {k : K5} : ∀ {vs : List MV}, k ∈ kysL vs ↔ ∃ v ∈ vs, v.i = true ∧ k = vK v
  | [] => by simp [kysL]
  | v :: vs => by
    unfold kysL
    by_cases hi : v.i = true
    · rw [if_pos hi, List.mem_cons, mem_kys (vs := vs)]
      constructor
      · rintro (rfl | ⟨u, hu, h⟩)
        · exact ⟨v, by simp, hi, rfl⟩
        · exact ⟨u, by simp [hu], h⟩
      · rintro ⟨u, hu, h1, h2⟩
        rcases List.mem_cons.1 hu with rfl | hu
        · exact .inl h2
        · exact .inr ⟨u, hu, h1, h2⟩
    · rw [if_neg hi, mem_kys (vs := vs)]
      constructor
      · rintro ⟨u, hu, h⟩; exact ⟨u, by simp [hu], h⟩
      · rintro ⟨u, hu, h1, h2⟩
        rcases List.mem_cons.1 hu with rfl | hu
        · exact absurd h1 hi
        · exact ⟨u, hu, h1, h2⟩
theorem kys_len (vs : List MV) : (kysL vs).length ≤ vs.length := by
  induction vs with
  | nil => exact Nat.le_refl _
  | cons v vs ih => unfold kysL; split <;> simp only [List.length_cons] <;> omega
/-- The cells of a key in a memory. -/
def cutL (M : List MV) (k : K5) : List MV := (M.drop (min k.b.toNat M.length)).take (min (k.b + k.l).toNat M.length - min k.b.toNat M.length)
theorem mem_cut {M : List MV} {k : K5} (hb : 0 ≤ k.b) (hl : 0 ≤ k.l) {v : MV} : v ∈ cutL M k ↔ ∃ j : Nat, cov5 k j = true ∧ M[j]? = some v := by
  unfold cutL
  rw [List.mem_iff_getElem?]
  constructor
  · rintro ⟨i, hi⟩
    rw [List.getElem?_take] at hi
    split at hi
    · rename_i hlt
      rw [List.getElem?_drop] at hi
      have hj := (List.getElem?_eq_some_iff.1 hi).1
      exact ⟨_, cov5_lit.2 (by omega), hi⟩
    · cases hi
  · rintro ⟨j, hc, hj⟩
    have h1 := cov5_lit.1 hc
    have h2 := (List.getElem?_eq_some_iff.1 hj).1
    refine ⟨j - k.b.toNat, ?_⟩
    rw [List.getElem?_take, if_pos (by omega), List.getElem?_drop, show min k.b.toNat M.length + (j - k.b.toNat) = j by omega]
    exact hj
theorem chd_cut {M : List MV} {d : Bool} {r : K5} (hb : 0 ≤ r.b) (hl : 0 ≤ r.l) (hc : Cnt d r) (hp : inB 9 r.p = true) (c : K5) : Chd M d r c ↔ c ∈ kysL (cutL M r) := by
  rw [mem_kys]
  constructor
  · rintro ⟨_, _, j, v, h3, h4, h5, h6⟩
    exact ⟨v, (mem_cut hb hl).2 ⟨j, h3, h4⟩, h5, h6⟩
  · rintro ⟨v, h1, h2, h3⟩
    obtain ⟨j, h4, h5⟩ := (mem_cut hb hl).1 h1
    exact ⟨hc, hp, j, v, h4, h5, h2, h3⟩
end Go.Proofs.Ytlfeglljpfihhaa
