/- Plain: what chapter 12 says of a machine whose keys for some cells are taken away. Plain: how what is held grows while one looks for more: what is asked for is held, nothing else comes than what leads there, and what is new leads nowhere else. Keys that are held: a map of keys in a block of its own: made, asked, filled, gone through in whatever order. -/
import Derived.Test.YtlfeglljpfihhaaGreatDoorRows
import Derived.Test.YtlfeglljpfihhaaGreatDoorCardBaseX
import Derived.Test.YtlfeglljpfihhaaGreatDoorValArgX
import Derived.Test.YtlfeglljpfihhaaGreatDoorMemPureX
import Derived.Test.YtlfeglljpfihhaaGreatDoorStepChkX
import Derived.Test.YtlfeglljpfihhaaGreatDoorStepRowX
import Derived.WalkKit
import Derived.Test.YtlfeglljpfihhaaGreatDoorRunTopX
import Derived.Test.YtlfeglljpfihhaaGreatDoorInstShapeX
import Derived.DeepKeys4
import Derived.Maps.OwnSet
import Derived.Maps.RangeWalk
namespace Go.Proofs.YtlfeglljpfihhaaGreatDoor
section
open Go.RowKit

/-- Is it for one of the n cells from b on? -/
def strk (b n : Int) (k : K5) : Bool := decide (max k.b b < min (k.b + k.l) (b + n))
def hitV (b n : Int) (v : MV) : Bool := v.i && strk b n (vK v)
def swV (b n : Int) (v : MV) : MV := if hitV b n v = true then nil0 else v
def swK (b n : Int) (k : K5) : K5 := if strk b n k = true then key0 else k
def swF (b n : Int) (f : FR) : FR := ⟨swK b n f.c, swV b n f.d⟩
def b1 (x : Bool) : Nat := if x = true then 1 else 0
def cV (b n : Int) (v : MV) : Nat := b1 (hitV b n v)
def cK (b n : Int) (k : K5) : Nat := b1 (strk b n k)
def cF (b n : Int) (f : FR) : Nat := cK b n f.c + cV b n f.d
def cVs (b n : Int) : List MV → Nat
  | [] => 0
  | v :: vs => cV b n v + cVs b n vs
def cFs (b n : Int) : List FR → Nat
  | [] => 0
  | f :: fs => cF b n f + cFs b n fs
def swM (b n : Int) (x : MC) : MC := ⟨x.r.map (swV b n), swK b n x.k, x.m.map (swV b n), x.s.map (swF b n), x.o⟩
def cM (b n : Int) (x : MC) : Nat := cVs b n x.r + cK b n x.k + cVs b n x.m + cFs b n x.s
def argE (b n : Int) : Int := if b < 0 then 1 else if n < 0 then 1 else if 400 - n < b then 1 else 0
/-- P25. -/
def swE (b n : Int) (x : MC) : Int := if mcE x = 0 then argE b n else mcE x
def swA (b n : Int) (x : MC) : MC := if swE b n x = 0 then swM b n x else zeroM
def swN (b n : Int) (x : MC) : Int := if swE b n x = 0 then (cM b n x : Int) else 0
theorem sw_cases (b n : Int) (x : MC) : (swE b n x = 0 ∧ swA b n x = swM b n x ∧ swN b n x = (cM b n x : Int)) ∨ (¬ swE b n x = 0 ∧ swA b n x = zeroM ∧ swN b n x = 0) := by
  unfold swA swN
  rcases Decidable.em (swE b n x = 0) with h | h
  · exact .inl ⟨h, if_pos h, if_pos h⟩
  · exact .inr ⟨h, if_neg h, if_neg h⟩
theorem arg_ok {b n : Int} (h : argE b n = 0) : 0 ≤ b ∧ 0 ≤ n ∧ b + n ≤ 400 := by
  unfold argE at h
  split at h
  · cases h
  · split at h
    · cases h
    · split at h
      · cases h
      · omega
theorem sw_ok {b n : Int} {x : MC} (h : swE b n x = 0) : mcE x = 0 ∧ argE b n = 0 := by
  unfold swE at h
  split at h
  · rename_i h1
    exact ⟨h1, h⟩
  · rename_i h1
    exact absurd h h1
theorem strk_key0 {b n : Int} : strk b n key0 = false := by
  unfold strk key0
  simp only [decide_eq_false_iff_not]
  omega
theorem hit_nil (b n : Int) : hitV b n nil0 = false := rfl
theorem swV_hit (a n b k : Int) (v : MV) : hitV a n (swV b k v) = (hitV a n v && !hitV b k v) := by
  unfold swV
  cases h : hitV b k v
  · simp
  · simp [hit_nil]
theorem swK_hit (a n b k : Int) (v : K5) : strk a n (swK b k v) = (strk a n v && !strk b k v) := by
  unfold swK
  cases h : strk b k v
  · simp
  · simp [strk_key0]
theorem swV_two (a n b k : Int) (v : MV) : swV a n (swV b k v) = if (hitV a n v || hitV b k v) = true then nil0 else v := by
  rw [show swV a n (swV b k v) = if hitV a n (swV b k v) = true then nil0 else swV b k v from rfl, swV_hit]
  unfold swV
  cases hitV a n v <;> cases hitV b k v <;> rfl
theorem swK_two (a n b k : Int) (v : K5) : swK a n (swK b k v) = if (strk a n v || strk b k v) = true then key0 else v := by
  rw [show swK a n (swK b k v) = if strk a n (swK b k v) = true then key0 else swK b k v from rfl, swK_hit]
  unfold swK
  cases strk a n v <;> cases strk b k v <;> rfl
theorem swV_comm (a n b k : Int) (v : MV) : swV a n (swV b k v) = swV b k (swV a n v) := by rw [swV_two, swV_two, Bool.or_comm]
theorem swK_comm (a n b k : Int) (v : K5) : swK a n (swK b k v) = swK b k (swK a n v) := by rw [swK_two, swK_two, Bool.or_comm]
theorem swF_comm (a n b k : Int) (v : FR) : swF a n (swF b k v) = swF b k (swF a n v) := by unfold swF; rw [swV_comm, swK_comm]
theorem swM_comm (a n b k : Int) (x : MC) : swM a n (swM b k x) = swM b k (swM a n x) := by
  unfold swM
  simp only [List.map_map, MC.mk.injEq, and_true]
  exact ⟨List.map_congr_left fun v _ => swV_comm a n b k v, swK_comm a n b k x.k, List.map_congr_left fun v _ => swV_comm a n b k v, List.map_congr_left fun v _ => swF_comm a n b k v⟩
theorem swM_again (b n : Int) (x : MC) : swM b n (swM b n x) = swM b n x := by
  have hv : ∀ v, swV b n (swV b n v) = swV b n v := fun v => by rw [swV_two, Bool.or_self]; rfl
  have hk : ∀ v, swK b n (swK b n v) = swK b n v := fun v => by rw [swK_two, Bool.or_self]; rfl
  unfold swM
  simp only [List.map_map, MC.mk.injEq, and_true]
  exact ⟨List.map_congr_left fun v _ => hv v, hk x.k, List.map_congr_left fun v _ => hv v, List.map_congr_left fun v _ => by show swF b n (swF b n v) = swF b n v; unfold swF; rw [hv, hk]⟩
theorem cV_two (a n b k : Int) (v : MV) : cV a n v + cV b k (swV a n v) = cV b k v + cV a n (swV b k v) := by
  unfold cV
  rw [swV_hit, swV_hit]
  cases hitV a n v <;> cases hitV b k v <;> rfl
theorem cK_two (a n b k : Int) (v : K5) : cK a n v + cK b k (swK a n v) = cK b k v + cK a n (swK b k v) := by
  unfold cK
  rw [swK_hit, swK_hit]
  cases strk a n v <;> cases strk b k v <;> rfl
theorem cVs_two (a n b k : Int) (vs : List MV) : cVs a n vs + cVs b k (vs.map (swV a n)) = cVs b k vs + cVs a n (vs.map (swV b k)) := by
  induction vs with
  | nil => rfl
  | cons v vs ih =>
    have := cV_two a n b k v
    simp only [List.map_cons, cVs]
    omega
theorem cFs_two (a n b k : Int) (fs : List FR) : cFs a n fs + cFs b k (fs.map (swF a n)) = cFs b k fs + cFs a n (fs.map (swF b k)) := by
  induction fs with
  | nil => rfl
  | cons f fs ih =>
    have h1 := cV_two a n b k f.d
    have h2 := cK_two a n b k f.c
    simp only [List.map_cons, cFs, cF, swF]
    omega
theorem cM_two (a n b k : Int) (x : MC) : cM a n x + cM b k (swM a n x) = cM b k x + cM a n (swM b k x) := by
  have h1 := cVs_two a n b k x.r
  have h2 := cK_two a n b k x.k
  have h3 := cVs_two a n b k x.m
  have h4 := cFs_two a n b k x.s
  unfold cM swM
  simp only
  omega
theorem cM_again (b n : Int) (x : MC) : cM b n (swM b n x) = 0 := by
  have hv : ∀ v, cV b n (swV b n v) = 0 := fun v => by unfold cV; rw [swV_hit]; cases hitV b n v <;> rfl
  have hk : ∀ v, cK b n (swK b n v) = 0 := fun v => by unfold cK; rw [swK_hit]; cases strk b n v <;> rfl
  have hvs : ∀ vs : List MV, cVs b n (vs.map (swV b n)) = 0 := fun vs => by
    induction vs with
    | nil => rfl
    | cons v vs ih => simp only [List.map_cons, cVs]; rw [hv, ih]
  have hfs : ∀ vs : List FR, cFs b n (vs.map (swF b n)) = 0 := fun vs => by
    induction vs with
    | nil => rfl
    | cons v vs ih => simp only [List.map_cons, cFs, cF, swF]; rw [hv, hk, ih]
  unfold cM swM
  simp only
  rw [hvs, hk, hvs, hfs]
theorem cVs_le (b n : Int) (vs : List MV) : cVs b n vs ≤ vs.length := by
  induction vs with
  | nil => exact Nat.le_refl _
  | cons v vs ih =>
    have : cV b n v ≤ 1 := by unfold cV b1; split <;> omega
    simp only [cVs, List.length_cons]
    omega
theorem cFs_le (b n : Int) (vs : List FR) : cFs b n vs ≤ 2 * vs.length := by
  induction vs with
  | nil => exact Nat.le_refl _
  | cons v vs ih =>
    have h1 : cV b n v.d ≤ 1 := by unfold cV b1; split <;> omega
    have h2 : cK b n v.c ≤ 1 := by unfold cK b1; split <;> omega
    simp only [cFs, cF, List.length_cons]
    omega
/-- What is in order stays so. -/
theorem chk_swV {b n : Int} {v : MV} (h : chk1 v = 0) : chk1 (swV b n v) = 0 := by
  unfold swV
  split
  · decide
  · exact h
theorem chk_swK {b n : Int} {k : K5} (h : chk5 k = 0) : chk5 (swK b n k) = 0 := by
  unfold swK
  split
  · exact (by decide +kernel : chk5 key0 = 0)
  · exact h
theorem chk_swVs {b n : Int} {vs : List MV} (h : chkL vs = 0) : chkL (vs.map (swV b n)) = 0 := by
  rw [chkL_all] at h ⊢
  intro v hv
  obtain ⟨u, hu, rfl⟩ := List.mem_map.1 hv
  exact chk_swV (h u hu)
theorem fr_zero {f : FR} : frE f = 0 ↔ chk5 f.c = 0 ∧ chk1 f.d = 0 := by
  unfold frE
  split
  · rename_i h; exact ⟨fun h2 => ⟨h, h2⟩, fun h2 => h2.2⟩
  · rename_i h; exact ⟨fun h2 => absurd h2 h, fun h2 => absurd h2.1 h⟩
theorem frs_all {fs : List FR} : frsE fs = 0 ↔ ∀ f ∈ fs, frE f = 0 := by
  induction fs with
  | nil => exact ⟨fun _ v h => by simp at h, fun _ => rfl⟩
  | cons v vs ih =>
    unfold frsE
    split
    · rename_i h
      rw [ih]
      exact ⟨fun hh u hu => by rcases List.mem_cons.1 hu with rfl | hu; exact h; exact hh u hu, fun hh u hu => hh u (List.mem_cons_of_mem _ hu)⟩
    · rename_i h
      exact ⟨fun hh => absurd hh h, fun hh => absurd (hh v List.mem_cons_self) h⟩
theorem stk_zero {fs : List FR} : stkE fs = 0 ↔ fs.length ≤ 16 ∧ frsE fs = 0 := by
  unfold stkE
  split
  · refine ⟨fun h => ?_, fun h => ?_⟩
    · cases h
    · exfalso; omega
  · rename_i h; exact ⟨fun h2 => ⟨by omega, h2⟩, fun h2 => h2.2⟩
/-- A machine that may be, taken apart. -/
theorem mc_zero {x : MC} : mcE x = 0 ↔ chkL x.r = 0 ∧ chk5 x.k = 0 ∧ memE x.m = 0 ∧ stkE x.s = 0 ∧ outE x.o = 0 := by
  unfold mcE
  split
  · rename_i h1
    split
    · rename_i h2
      split
      · rename_i h3
        split
        · rename_i h4; exact ⟨fun h => ⟨h1, h2, h3, h4, h⟩, fun h => h.2.2.2.2⟩
        · rename_i h4; exact ⟨fun h => absurd h h4, fun h => absurd h.2.2.2.1 h4⟩
      · rename_i h3; exact ⟨fun h => absurd h h3, fun h => absurd h.2.2.1 h3⟩
    · rename_i h2; exact ⟨fun h => absurd h h2, fun h => absurd h.2.1 h2⟩
  · rename_i h1; exact ⟨fun h => absurd h h1, fun h => absurd h.1 h1⟩
theorem sw_mc {b n : Int} {x : MC} (h : mcE x = 0) : mcE (swM b n x) = 0 := by
  obtain ⟨h1, h2, h3, h4, h5⟩ := mc_zero.1 h
  refine mc_zero.2 ⟨chk_swVs h1, chk_swK h2, ?_, ?_, h5⟩
  · obtain ⟨hl, hc⟩ := mem_small h3
    show memE (x.m.map (swV b n)) = 0
    rw [mem_not (by rw [List.length_map]; omega)]
    exact chk_swVs hc
  · obtain ⟨hl, hf⟩ := stk_zero.1 h4
    refine stk_zero.2 ⟨by show (x.s.map (swF b n)).length ≤ 16; rw [List.length_map]; exact hl, frs_all.2 fun f hf' => ?_⟩
    obtain ⟨g, hg, rfl⟩ := List.mem_map.1 hf'
    obtain ⟨g1, g2⟩ := fr_zero.1 (frs_all.1 hf g hg)
    exact fr_zero.2 ⟨chk_swK g1, chk_swV g2⟩
theorem sw_again {b n a k : Int} {x : MC} (h : swE b n x = 0) (h' : argE a k = 0) : swE a k (swM b n x) = 0 := by
  unfold swE
  rw [if_pos (sw_mc (sw_ok h).1)]
  exact h'
theorem cVs_app (b n : Int) (xs ys : List MV) : cVs b n (xs ++ ys) = cVs b n xs + cVs b n ys := by
  induction xs with
  | nil => simp [cVs]
  | cons x xs ih => simp only [List.cons_append, cVs]; omega
theorem cFs_app (b n : Int) (xs ys : List FR) : cFs b n (xs ++ ys) = cFs b n xs + cFs b n ys := by
  induction xs with
  | nil => simp [cFs]
  | cons x xs ih => simp only [List.cons_append, cFs]; omega
theorem cVs_take {b n : Int} {vs : List MV} {k : Nat} {v : MV} (h : vs[k]? = some v) : cVs b n (vs.take (k + 1)) = cVs b n (vs.take k) + cV b n v ∧ cVs b n (vs.take (k + 1)) ≤ cVs b n vs := by
  refine ⟨?_, ?_⟩
  · rw [List.take_add_one, h, cVs_app]; simp [cVs]
  · have := cVs_app b n (vs.take (k + 1)) (vs.drop (k + 1))
    rw [List.take_append_drop] at this
    omega
theorem cFs_take {b n : Int} {vs : List FR} {k : Nat} {v : FR} (h : vs[k]? = some v) : cFs b n (vs.take (k + 1)) = cFs b n (vs.take k) + cF b n v ∧ cFs b n (vs.take (k + 1)) ≤ cFs b n vs := by
  refine ⟨?_, ?_⟩
  · rw [List.take_add_one, h, cFs_app]; simp [cFs]
  · have := cFs_app b n (vs.take (k + 1)) (vs.drop (k + 1))
    rw [List.take_append_drop] at this
    omega
end
section
open Go.RowKit
set_option linter.unusedVariables false

/-- A key in a cell that one may look at by that key. -/
def Chd (M : List MV) (d : Bool) (r c : K5) : Prop := Cnt d r ∧ inB 9 r.p = true ∧ ∃ (j : Nat) (v : MV), cov5 r j = true ∧ M[j]? = some v ∧ v.i = true ∧ c = vK v
/-- What some keys lead to. -/
inductive RF (M : List MV) (d : Bool) (T : K5 → Prop) : K5 → Prop
  | at_ {k : K5} (h : T k) : RF M d T k
  | go {r c : K5} (h : RF M d T r) (hc : Chd M d r c) : RF M d T c
theorem rf_mono {M : List MV} {d : Bool} {T T' : K5 → Prop} (h : ∀ k, T k → RF M d T' k) : ∀ {k}, RF M d T k → RF M d T' k := fun hk => by
  induction hk with
  | at_ hT => exact h _ hT
  | go _ hc ih => exact .go ih hc
/-- Of S comes S', T being looked for. -/
structure Gr (M : List MV) (d : Bool) (S S' T : K5 → Prop) : Prop where
  sub : ∀ k, S k → S' k
  inn : ∀ k, T k → S' k
  frm : ∀ k, S' k → S k ∨ RF M d T k
  clo : ∀ r, S' r → S r ∨ ∀ c, Chd M d r c → S' c
section
variable {M : List MV} {d : Bool} {S S1 S2 T T1 T2 : K5 → Prop}
theorem Gr.refl (hT : ∀ k, T k → S k) : Gr M d S S T := ⟨fun _ h => h, hT, fun _ h => .inl h, fun _ h => .inl h⟩
theorem Gr.trans (h : Gr M d S S1 T1) (g : Gr M d S1 S2 T2) (hT : ∀ k, T k ↔ T1 k ∨ T2 k) : Gr M d S S2 T := by
  refine ⟨fun k hk => g.sub k (h.sub k hk), fun k hk => ?_, fun k hk => ?_, fun r hr => ?_⟩
  · rcases (hT k).1 hk with h1 | h1
    · exact g.sub k (h.inn k h1)
    · exact g.inn k h1
  · rcases g.frm k hk with h1 | h1
    · rcases h.frm k h1 with h2 | h2
      · exact .inl h2
      · exact .inr (rf_mono (fun k hk => .at_ ((hT k).2 (.inl hk))) h2)
    · exact .inr (rf_mono (fun k hk => .at_ ((hT k).2 (.inr hk))) h1)
  · rcases g.clo r hr with h1 | h1
    · rcases h.clo r h1 with h2 | h2
      · exact .inl h2
      · exact .inr fun c hc => g.sub c (h2 c hc)
    · exact .inr h1
theorem Gr.leaf {k0 : K5} (hS : ∀ k, S1 k ↔ S k ∨ k = k0) (hn : ∀ c, ¬ Chd M d k0 c) : Gr M d S S1 (fun k => k = k0) := by
  refine ⟨fun k hk => (hS k).2 (.inl hk), fun k hk => (hS k).2 (.inr hk), fun k hk => ?_, fun r hr => ?_⟩
  · exact ((hS k).1 hk).imp id .at_
  · rcases (hS r).1 hr with h | rfl
    · exact .inl h
    · exact .inr fun c hc => absurd hc (hn c)
theorem Gr.node {k0 : K5} (hS : ∀ k, S1 k ↔ S k ∨ k = k0) (h : Gr M d S1 S2 (Chd M d k0)) : Gr M d S S2 (fun k => k = k0) := by
  refine ⟨fun k hk => h.sub k ((hS k).2 (.inl hk)), fun k hk => h.sub k ((hS k).2 (.inr hk)), fun k hk => ?_, fun r hr => ?_⟩
  · rcases h.frm k hk with h1 | h1
    · exact ((hS k).1 h1).imp id .at_
    · exact .inr (rf_mono (T' := fun k => k = k0) (fun c hc => .go (.at_ rfl) hc) h1)
  · rcases h.clo r hr with h1 | h1
    · rcases (hS r).1 h1 with h2 | rfl
      · exact .inl h2
      · exact .inr h.inn
    · exact .inr h1
theorem Gr.cast (h : Gr M d S S1 T1) (hT : ∀ k, T k ↔ T1 k) : Gr M d S S1 T := ⟨h.sub, fun k hk => h.inn k ((hT k).1 hk), fun k hk => (h.frm k hk).imp id (rf_mono (fun k hk => .at_ ((hT k).2 hk))), h.clo⟩
end
/-- All that is held at the end. -/
theorem gr_has {x : MC} {d : Bool} {S S' : K5 → Prop} (h : Gr x.m d S S' (Rt x d)) (h0 : ∀ k, ¬ S k) (k : K5) : S' k ↔ Has x d k := by
  constructor
  · intro hk
    rcases h.frm k hk with h1 | h1
    · exact absurd h1 (h0 k)
    · clear hk
      induction h1 with
      | at_ hT => exact .rt hT
      | @go r c hr hc ih =>
        obtain ⟨h1, h2, j, v, h3, h4, h5, rfl⟩ := hc
        exact .cell r j v ih h1 h2 h3 h4 h5
  · intro hk
    induction hk with
    | rt hr => exact h.inn _ hr
    | cell r j v _ hc hp hv hm hi ih => exact ((h.clo r ih).resolve_left (h0 r)) _ ⟨hc, hp, j, v, hv, hm, hi, rfl⟩
/-- How many of U are not held yet. -/
def cntN (s : K5 → Bool) : List K5 → Nat
  | [] => 0
  | k :: U => (if s k = true then 0 else 1) + cntN s U
theorem cnt_le {s s' : K5 → Bool} (h : ∀ k, s k = true → s' k = true) : ∀ U, cntN s' U ≤ cntN s U
  | [] => Nat.le_refl _
  | k :: U => by
    have ih := cnt_le h U
    unfold cntN
    by_cases h1 : s k = true
    · rw [if_pos h1, if_pos (h k h1)]; omega
    · rw [if_neg h1]
      split <;> omega
theorem cnt_lt {s s' : K5 → Bool} (h : ∀ k, s k = true → s' k = true) {k0 : K5} (h0 : s k0 = false) (h1 : s' k0 = true) : ∀ U, k0 ∈ U → cntN s' U < cntN s U
  | [], hm => by simp at hm
  | k :: U, hm => by
    have hle := cnt_le h U
    unfold cntN
    rcases List.mem_cons.1 hm with rfl | hm
    · rw [if_pos h1, if_neg (by rw [h0]; decide)]; omega
    · have ih := cnt_lt h h0 h1 U hm
      by_cases h2 : s k = true
      · rw [if_pos h2, if_pos (h k h2)]; omega
      · rw [if_neg h2]
        split <;> omega
theorem cnt_all (U : List K5) : cntN (fun _ => false) U = U.length := by
  induction U with
  | nil => rfl
  | cons k U ih => unfold cntN; rw [ih, if_neg (by decide), List.length_cons]; omega
/-- All keys of a list of values. -/
def kysL : List MV → List K5
  | [] => []
  | v :: vs => if v.i = true then vK v :: kysL vs else kysL vs
theorem mem_kys {k : K5} : ∀ {vs : List MV}, k ∈ kysL vs ↔ ∃ v ∈ vs, v.i = true ∧ k = vK v
  | [] => by simp [kysL]
  | v :: vs => by
    unfold kysL
    by_cases hi : v.i = true
    · rw [if_pos hi, List.mem_cons, mem_kys (vs := vs)]
      constructor
      · rintro (rfl | ⟨u, hu, h⟩)
        · exact ⟨v, by simp, hi, rfl⟩
        · exact ⟨u, by simp [hu], h⟩
      · rintro ⟨u, hu, h1, h2⟩
        rcases List.mem_cons.1 hu with rfl | hu
        · exact .inl h2
        · exact .inr ⟨u, hu, h1, h2⟩
    · rw [if_neg hi, mem_kys (vs := vs)]
      constructor
      · rintro ⟨u, hu, h⟩; exact ⟨u, by simp [hu], h⟩
      · rintro ⟨u, hu, h1, h2⟩
        rcases List.mem_cons.1 hu with rfl | hu
        · exact absurd h1 hi
        · exact ⟨u, hu, h1, h2⟩
theorem kys_len (vs : List MV) : (kysL vs).length ≤ vs.length := by
  induction vs with
  | nil => exact Nat.le_refl _
  | cons v vs ih => unfold kysL; split <;> simp only [List.length_cons] <;> omega
/-- The cells of a key in a memory. -/
def cutL (M : List MV) (k : K5) : List MV := (M.drop (min k.b.toNat M.length)).take (min (k.b + k.l).toNat M.length - min k.b.toNat M.length)
theorem mem_cut {M : List MV} {k : K5} (hb : 0 ≤ k.b) (hl : 0 ≤ k.l) {v : MV} : v ∈ cutL M k ↔ ∃ j : Nat, cov5 k j = true ∧ M[j]? = some v := by
  unfold cutL
  rw [List.mem_iff_getElem?]
  constructor
  · rintro ⟨i, hi⟩
    rw [List.getElem?_take] at hi
    split at hi
    · rename_i hlt
      rw [List.getElem?_drop] at hi
      have hj := (List.getElem?_eq_some_iff.1 hi).1
      exact ⟨_, cov5_lit.2 (by omega), hi⟩
    · cases hi
  · rintro ⟨j, hc, hj⟩
    have h1 := cov5_lit.1 hc
    have h2 := (List.getElem?_eq_some_iff.1 hj).1
    refine ⟨j - k.b.toNat, ?_⟩
    rw [List.getElem?_take, if_pos (by omega), List.getElem?_drop, show min k.b.toNat M.length + (j - k.b.toNat) = j by omega]
    exact hj
theorem chd_cut {M : List MV} {d : Bool} {r : K5} (hb : 0 ≤ r.b) (hl : 0 ≤ r.l) (hc : Cnt d r) (hp : inB 9 r.p = true) (c : K5) : Chd M d r c ↔ c ∈ kysL (cutL M r) := by
  rw [mem_kys]
  constructor
  · rintro ⟨_, _, j, v, h3, h4, h5, h6⟩
    exact ⟨v, (mem_cut hb hl).2 ⟨j, h3, h4⟩, h5, h6⟩
  · rintro ⟨v, h1, h2, h3⟩
    obtain ⟨j, h4, h5⟩ := (mem_cut hb hl).1 h1
    exact ⟨hc, hp, j, v, h4, h5, h2, h3⟩
end
section
open Go.ChangeShapes Go.WideShapes Go.ChangeAt Go.RowKit
set_option linter.unusedVariables false
set_option linter.unusedSimpArgs false
set_option maxRecDepth 100000

def kV5 (k : K5) : Value := .agg #[.int .i64 k.p, .int .i64 k.b, .int .i64 k.l, .int .i64 k.a, .int .i64 k.s]
theorem laid_out : laidOutB Tryz.prog = true := by kernel_rfl
theorem key_row : (23 : TypeId) < Tryz.prog.types.size := of_decide_eq_true (by kernel_rfl)
theorem key_wide : (match Tryz.prog.underlying 23 with | some (.array _ _) | some (.struct _) => true | _ => false) = true := by kernel_rfl
theorem key_deep : Tryz.prog.keyType 23 = true := by kernel_rfl
theorem key_law : Maps.Keyed Tryz.prog 23 := Maps.Keyed.of_law (deep_law_laid laid_out (m := 3) (by omega) key_row (by kernel_rfl) key_wide)
theorem two_of {m : Nat} (h : 0 < m) : ∃ n, m + 1 = n + 2 := ⟨m - 1, by omega⟩
section
variable {P : Program} {K I : TypeId} {f0 f1 f2 f3 f4 : Field}
/-- A struct of five ints as a key. -/
structure Five (P : Program) (K I : TypeId) (f0 f1 f2 f3 f4 : Field) : Prop where
  u : P.underlying K = some (.struct #[f0, f1, f2, f3, f4])
  i : P.underlying I = some (.int .i64)
  c : P.cellsOf K = 5
  ci : P.cellsOf I = 1
  t : P.keyType K = true
  s : 0 < P.types.size
  ty : f0.type = I ∧ f1.type = I ∧ f2.type = I ∧ f3.type = I ∧ f4.type = I
  of : f0.offset = 0 ∧ f1.offset = 1 ∧ f2.offset = 2 ∧ f3.offset = 3 ∧ f4.offset = 4
  nm : (f0.name != "_") = true ∧ (f1.name != "_") = true ∧ (f2.name != "_") = true ∧ (f3.name != "_") = true ∧ (f4.name != "_") = true
theorem five_lit (F : Five P K I f0 f1 f2 f3 f4) {a b c d e : Int} (h : (Lit.int .i64 a).wf = true ∧ (Lit.int .i64 b).wf = true ∧ (Lit.int .i64 c).wf = true ∧ (Lit.int .i64 d).wf = true ∧ (Lit.int .i64 e).wf = true) :
    ∃ l, keyOf P K (.agg #[.int .i64 a, .int .i64 b, .int .i64 c, .int .i64 d, .int .i64 e]) = some l := by
  obtain ⟨n, hn⟩ := two_of F.s
  obtain ⟨t0, t1, t2, t3, t4⟩ := F.ty
  obtain ⟨o0, o1, o2, o3, o4⟩ := F.of
  obtain ⟨n0, n1, n2, n3, n4⟩ := F.nm
  obtain ⟨w1, w2, w3, w4, w5⟩ := h
  have hm : P.types.size = n + 1 := by omega
  refine ⟨.string (keyBytes [.int .i64 a, .int .i64 b, .int .i64 c, .int .i64 d, .int .i64 e]), ?_⟩
  simp [keyOf, F.u, Value.formed, F.c, F.t, hm, Value.cells, Program.keyLits, F.ci, F.i, w1, w2, w3, w4, w5, t0, t1, t2, t3, t4, o0, o1, o2, o3, o4, bne_iff_ne.1 n0, bne_iff_ne.1 n1, bne_iff_ne.1 n2, bne_iff_ne.1 n3, bne_iff_ne.1 n4]
theorem lits_inv (hi : P.underlying I = some (.int .i64)) {n : Nat} {v : Value} {ls : List Lit} (h : P.keyLits (n + 1) I [v] = some ls) : ∃ a, v = .int .i64 a ∧ (Lit.int .i64 a).wf = true := by
  cases v <;> simp [Program.keyLits, hi] at h
  obtain ⟨⟨rfl, hw⟩, _⟩ := h
  exact ⟨_, rfl, hw⟩
theorem five_inv (F : Five P K I f0 f1 f2 f3 f4) {v : Value} {l : Lit} (h : keyOf P K v = some l) : ∃ a b c d e, v = .agg #[.int .i64 a, .int .i64 b, .int .i64 c, .int .i64 d, .int .i64 e] ∧
    (Lit.int .i64 a).wf = true ∧ (Lit.int .i64 b).wf = true ∧ (Lit.int .i64 c).wf = true ∧ (Lit.int .i64 d).wf = true ∧ (Lit.int .i64 e).wf = true := by
  obtain ⟨n, hn⟩ := two_of F.s
  obtain ⟨t0, t1, t2, t3, t4⟩ := F.ty
  obtain ⟨o0, o1, o2, o3, o4⟩ := F.of
  have hf : v.formed P K = true := by
    cases hf : v.formed P K
    · simp [keyOf, F.u, hf] at h
    · rfl
  cases v with
  | agg cs =>
    have hs : cs.size = 5 := by simpa [Value.formed, F.u, F.c] using hf
    obtain ⟨cl⟩ := cs
    have hs' : cl.length = 5 := hs
    obtain ⟨c0, c1, c2, c3, c4, rfl⟩ := list5 hs'
    have key : ∃ ls, P.keyLits (n + 2) K [c0, c1, c2, c3, c4] = some ls := by
      rw [← hn]
      cases hq : P.keyLits (P.types.size + 1) K [c0, c1, c2, c3, c4] with
      | none => simp [keyOf, F.u, hf, F.t, Value.cells, hq] at h
      | some ls => exact ⟨ls, rfl⟩
    obtain ⟨ls, hl⟩ := key
    have e0 : ∃ ls, P.keyLits (n + 1) I [c0] = some ls := by
      cases hq : P.keyLits (n + 1) I [c0] with
      | none => unfold Program.keyLits at hl; simp [F.u, F.c, F.ci, t0, t1, t2, t3, t4, o0, o1, o2, o3, o4, hq] at hl
      | some ls => exact ⟨ls, rfl⟩
    have e1 : ∃ ls, P.keyLits (n + 1) I [c1] = some ls := by
      cases hq : P.keyLits (n + 1) I [c1] with
      | none => unfold Program.keyLits at hl; simp [F.u, F.c, F.ci, t0, t1, t2, t3, t4, o0, o1, o2, o3, o4, hq] at hl
      | some ls => exact ⟨ls, rfl⟩
    have e2 : ∃ ls, P.keyLits (n + 1) I [c2] = some ls := by
      cases hq : P.keyLits (n + 1) I [c2] with
      | none => unfold Program.keyLits at hl; simp [F.u, F.c, F.ci, t0, t1, t2, t3, t4, o0, o1, o2, o3, o4, hq] at hl
      | some ls => exact ⟨ls, rfl⟩
    have e3 : ∃ ls, P.keyLits (n + 1) I [c3] = some ls := by
      cases hq : P.keyLits (n + 1) I [c3] with
      | none => unfold Program.keyLits at hl; simp [F.u, F.c, F.ci, t0, t1, t2, t3, t4, o0, o1, o2, o3, o4, hq] at hl
      | some ls => exact ⟨ls, rfl⟩
    have e4 : ∃ ls, P.keyLits (n + 1) I [c4] = some ls := by
      cases hq : P.keyLits (n + 1) I [c4] with
      | none => unfold Program.keyLits at hl; simp [F.u, F.c, F.ci, t0, t1, t2, t3, t4, o0, o1, o2, o3, o4, hq] at hl
      | some ls => exact ⟨ls, rfl⟩
    obtain ⟨_, q0⟩ := e0
    obtain ⟨_, q1⟩ := e1
    obtain ⟨_, q2⟩ := e2
    obtain ⟨_, q3⟩ := e3
    obtain ⟨_, q4⟩ := e4
    obtain ⟨a, rfl, wa⟩ := lits_inv F.i q0
    obtain ⟨b, rfl, wb⟩ := lits_inv F.i q1
    obtain ⟨c, rfl, wc⟩ := lits_inv F.i q2
    obtain ⟨d, rfl, wd⟩ := lits_inv F.i q3
    obtain ⟨e, rfl, we⟩ := lits_inv F.i q4
    exact ⟨a, b, c, d, e, rfl, wa, wb, wc, wd, we⟩
  | _ => simp [Value.formed, F.u] at hf
end
theorem key_five : ∃ f0 f1 f2 f3 f4, Five Tryz.prog 23 3 f0 f1 f2 f3 f4 :=
  ⟨_, _, _, _, _, ⟨Tryz.underlying23, Tryz.underlying3, cells_key, cells_int, key_deep, Nat.lt_of_le_of_lt (Nat.zero_le _) key_row, ⟨rfl, rfl, rfl, rfl, rfl⟩, ⟨rfl, rfl, rfl, rfl, rfl⟩, ⟨by decide, by decide, by decide, by decide, by decide⟩⟩⟩
theorem key_lit {k : K5} (hb : k5b k) : ∃ l, keyOf Tryz.prog 23 (kV5 k) = some l := by
  obtain ⟨_, _, _, _, _, F⟩ := key_five
  obtain ⟨b1, b2, b3, b4, b5⟩ := hb
  exact five_lit F ⟨WalkArith.wf_i64 b1, WalkArith.wf_i64 b2, WalkArith.wf_i64 b3, WalkArith.wf_i64 b4, WalkArith.wf_i64 b5⟩
theorem key_inv {v : Value} {l : Lit} (h : keyOf Tryz.prog 23 v = some l) : ∃ k, v = kV5 k ∧ k5b k := by
  obtain ⟨_, _, _, _, _, F⟩ := key_five
  obtain ⟨a, b, c, d, e, rfl, h1, h2, h3, h4, h5⟩ := five_inv F h
  exact ⟨⟨a, b, c, d, e⟩, rfl, bounds_i64 h1, bounds_i64 h2, bounds_i64 h3, bounds_i64 h4, bounds_i64 h5⟩
theorem kv5_inj {j k : K5} (h : kV5 j = kV5 k) : j = k := by
  obtain ⟨p, b, c, a, q⟩ := j
  obtain ⟨p', b', c', a', q'⟩ := k
  simp only [kV5, Value.agg.injEq, Array.mk.injEq, List.cons.injEq, Value.int.injEq, true_and, and_true] at h
  obtain ⟨rfl, rfl, rfl, rfl, rfl⟩ := h
  rfl
/-- Block B is a map of at most n keys: those that s names. -/
structure KMap (w : World) (B n : Nat) (s : K5 → Bool) : Prop where
  own : ∃ D : DataW Unit, w.ownsMap Tryz.prog 23 unitElem B n D ∧ ∀ k l, keyOf Tryz.prog 23 (kV5 k) = some l → Maps.has D l = s k
  ok : ∀ k, s k = true → k5b k
theorem KMap.lt {w : World} {B n : Nat} {s : K5 → Bool} (h : KMap w B n s) : B < w.heap.size := by
  obtain ⟨D, h1, _⟩ := h.own
  exact h1.lt
theorem KMap.made (w : World) : KMap (w.alloc (.map #[] 0)) w.heap.size 0 (fun _ => false) :=
  ⟨⟨.map [], World.ownsMap_made w _ _ _, fun _ _ _ => rfl⟩, fun _ h => by cases h⟩
theorem KMap.off {w w' : World} {B S n : Nat} {s : K5 → Bool} (h : KMap w B n s) (ho : Off S w w') (hne : B ≠ S) : KMap w' B n s := by
  obtain ⟨D, h1, h2⟩ := h.own
  exact ⟨⟨D, h1.kept ⟨ho.os, ho.tape, ho.output, ho.size, fun k hk hn => ho.block k hk (fun e => hn (by rw [e]))⟩ (by simpa using hne), h2⟩, h.ok⟩
theorem KMap.below {w w' : World} {B n : Nat} {s : K5 → Bool} (h : KMap w B n s) (hb : Below w.heap.size w w') : KMap w' B n s :=
  h.off (S := w.heap.size) ⟨hb.os, hb.tape, hb.output, hb.size, fun k hk _ => hb.block k hk⟩ (by have := h.lt; omega)
theorem off_grown {S : Nat} {w w' : World} (h : w.grownBy w' (some S)) : Off S w w' := ⟨h.os, h.tape, h.output, h.size, fun k hk hn => h.block k hk (fun e => hn (by cases e; rfl))⟩
theorem below_grown {w w' : World} (h : w.grownBy w' none) : Below w.heap.size w w' := ⟨h.os, h.tape, h.output, h.size, fun k hk => h.block k hk (by simp)⟩
theorem KMap.put {w : World} {B n : Nat} {s : K5 → Bool} {k : K5} {t e : TypeId} (h : KMap w B n s) (ht : Tryz.prog.underlying t = some (.map 23 e)) (hk : k5b k) (hn : n < maxLen) :
    ∃ w' s', (Instr.mapUpdate t (.map (some B)) (kV5 k) (.agg #[])).run Tryz.prog w = .ok () w' ∧ KMap w' B (n + 1) s' ∧ (∀ j, s' j = true ↔ s j = true ∨ j = k) ∧ Off B w w' := by
  obtain ⟨D, h1, h2⟩ := h.own
  obtain ⟨l, hl⟩ := key_lit hk
  obtain ⟨w', hr, g1, g2⟩ := h1.update key_law ht hn hl (unitElem_mk (H := Unit))
  have hD := h1.isMap
  have hs : ∀ j lj, keyOf Tryz.prog 23 (kV5 j) = some lj → (Maps.has (D.put l (.agg [])) lj = true ↔ s j = true ∨ j = k) := fun j lj hj => by
    by_cases e : lj = l
    · subst e
      have e2 : j = k := kv5_inj (key_law.inj hj hl)
      rw [Maps.has_put_same hD (key_law.key hl)]
      exact ⟨fun _ => .inr e2, fun _ => rfl⟩
    · have e2 : j ≠ k := fun e' => e (by subst e'; rw [hj] at hl; injection hl)
      rw [Maps.has_put_other e, h2 j lj hj]
      exact ⟨.inl, fun h => h.resolve_right e2⟩
  obtain ⟨s', hs'⟩ : ∃ s' : K5 → Bool, ∀ j, s' j = match keyOf Tryz.prog 23 (kV5 j) with | some lj => Maps.has (D.put l (.agg [])) lj | none => false := ⟨fun j => _, fun j => rfl⟩
  have hiff : ∀ j, s' j = true ↔ s j = true ∨ j = k := fun j => by
    cases hq : keyOf Tryz.prog 23 (kV5 j) with
    | none =>
      have e := hs' j
      rw [hq] at e
      rw [e]
      constructor
      · intro h; cases h
      · rintro (h3 | rfl)
        · obtain ⟨lj, hj⟩ := key_lit (h.ok j h3)
          rw [hj] at hq; cases hq
        · rw [hl] at hq; cases hq
    | some lj =>
      have e := hs' j
      rw [hq] at e
      rw [e]
      exact hs j lj hq
  refine ⟨w', s', hr, ⟨⟨_, g1, fun j lj hj => by rw [hs' j, hj]⟩, fun j hj => ?_⟩, hiff, off_grown g2⟩
  rcases (hiff j).1 hj with h3 | rfl
  · exact h.ok j h3
  · exact hk
/-- Which are still to come of a map that is gone through. -/
structure KRange (w : World) (B r n : Nat) (s left : K5 → Bool) (cnt : Nat) : Prop where
  own : ∃ (D : DataW Unit) (L : Lit → Bool), w.ranges Tryz.prog 23 unitElem B r n D L cnt ∧ (∀ k l, keyOf Tryz.prog 23 (kV5 k) = some l → Maps.has D l = s k) ∧ ∀ k l, keyOf Tryz.prog 23 (kV5 k) = some l → L l = left k
  ok : ∀ k, s k = true → k5b k
  sub : ∀ k, left k = true → s k = true
section
variable (w : World) {ops : Array Oper} {rest : List Oper} {o : Oper} {a : Act} {Q : Exit → Act → World → Prop}
theorem wpK_look (hg : o.guard = none) (m x : Operand) (t : TypeId) (hop : o.op = Op.lookup t m x true) (e : TypeId) (ht : Tryz.prog.underlying t = some (.map 23 e)) (hz : (zeroValue e).run Tryz.prog w = .ok (.agg #[]) w) (B n : Nat) (s : K5 → Bool) (k : K5)
    (hm : a.eval m = .map (some B)) (h : KMap w B n s) (hx : a.eval x = kV5 k) (hk : k5b k)
    (hK : wpList Tryz.prog ops Q rest (a.put o.dst (.tuple #[.agg #[], .bool (s k)])) w) : wpList Tryz.prog ops Q (o :: rest) a w := by
  obtain ⟨D, h1, h2⟩ := h.own
  obtain ⟨l, hl⟩ := key_lit hk
  refine wpList_lookup_own_unit w hg m x t hop _ e key_law ht hz B n D hm h1 (kV5 k) l hx hl ?_
  rw [h2 k l hl]
  exact hK
theorem wpK_put (hg : o.guard = none) (m x v : Operand) (t : TypeId) (hop : o.op = Op.mapUpdate t m x v) (e : TypeId) (ht : Tryz.prog.underlying t = some (.map 23 e)) (B n : Nat) (s : K5 → Bool) (k : K5)
    (hm : a.eval m = .map (some B)) (h : KMap w B n s) (hn : n < maxLen) (hx : a.eval x = kV5 k) (hv : a.eval v = .agg #[]) (hk : k5b k)
    (hK : ∀ w' s', KMap w' B (n + 1) s' → (∀ j, s' j = true ↔ s j = true ∨ j = k) → Off B w w' → wpList Tryz.prog ops Q rest (a.put o.dst undef) w') : wpList Tryz.prog ops Q (o :: rest) a w := by
  refine wpList_plain hg fun K' hK' => ?_
  obtain ⟨w', s', hrun, r1, r2, r3⟩ := h.put ht hk hn
  unfold Oper.wp
  simp [execOp, hop, hm, hx, hv, hrun, Result.andThen]
  exact hK' _ _ (hK w' s' r1 r2 r3)
theorem wpK_range (hg : o.guard = none) (m : Operand) (t : TypeId) (hop : o.op = Op.range t m) (e : TypeId) (ht : Tryz.prog.underlying t = some (.map 23 e)) (B n : Nat) (s : K5 → Bool)
    (hm : a.eval m = .map (some B)) (h : KMap w B n s)
    (hK : ∀ w' cnt, KRange w' B w.heap.size n s s cnt → cnt ≤ n → Below w.heap.size w w' → w'.heap.size = w.heap.size + 1 → wpList Tryz.prog ops Q rest (a.put o.dst (.pointer (some ⟨w.heap.size, 0, none⟩))) w') : wpList Tryz.prog ops Q (o :: rest) a w := by
  obtain ⟨D, h1, h2⟩ := h.own
  exact wpList_range_own w hg m t hop _ e key_law ht unitElem B n D hm h1 fun w' g1 g2 g3 => hK w' _ ⟨⟨D, _, g1, h2, h2⟩, h.ok, fun _ h => h⟩ h1.size_le (below_grown g2) g3
theorem wpK_next (hg : o.guard = none) (it : Operand) (hop : o.op = Op.next it false) (B r n : Nat) (s left : K5 → Bool) (cnt : Nat)
    (hit : a.eval it = .pointer (some ⟨r, 0, none⟩)) (h : KRange w B r n s left cnt)
    (hDone : (∀ k, left k = false) → wpList Tryz.prog ops Q rest (a.put o.dst (.tuple #[.bool false])) w)
    (hMore : ∀ (k : K5) (w' : World) (left' : K5 → Bool) (cnt' : Nat), k5b k → left k = true → KRange w' B r n s left' cnt' → (∀ j, left' j = true ↔ left j = true ∧ j ≠ k) → cnt' < cnt → Off r w w' → w'.heap.size = w.heap.size →
      (Instr.entry (.pointer (some ⟨r, 0, none⟩))).run Tryz.prog w' = .ok (.tuple #[kV5 k, .agg #[]]) w' → wpList Tryz.prog ops Q rest (a.put o.dst (.tuple #[.bool true, kV5 k, .agg #[]])) w') :
    wpList Tryz.prog ops Q (o :: rest) a w := by
  obtain ⟨D, L, h1, h2, h3⟩ := h.own
  refine wpList_next_ranges w hg it hop _ key_law unitElem (fun k : {k : K5 // k5b k} => kV5 k.1) (fun _ : Unit => .agg #[]) (fun key kl hk => by obtain ⟨k, e, hb⟩ := key_inv hk; exact ⟨⟨k, hb⟩, e⟩) (fun v y hv => ⟨(), (unitElem_inv hv).1⟩) B r n D L cnt hit h1 (fun h0 hl => hDone fun k => ?_) ?_
  · cases hk : left k
    · rfl
    · obtain ⟨l, hl'⟩ := key_lit (h.ok k (h.sub k hk))
      rw [← h3 k l hl', hl] at hk
      cases hk
  · rintro ⟨k, hb⟩ _ kl y w' cnt' hkey hlk hv hat hrg hlt hgr hsz hen
    obtain ⟨left', hl'⟩ : ∃ left' : K5 → Bool, ∀ j, left' j = match keyOf Tryz.prog 23 (kV5 j) with | some lj => (L lj && !lj.sameKey kl) | none => false := ⟨fun j => _, fun j => rfl⟩
    have hiff : ∀ j, left' j = true ↔ left j = true ∧ j ≠ k := fun j => by
      cases hq : keyOf Tryz.prog 23 (kV5 j) with
      | none =>
        have e : left' j = false := by rw [hl' j, hq]
        rw [e]
        constructor
        · intro h; cases h
        · rintro ⟨h4, _⟩
          obtain ⟨lj, hj⟩ := key_lit (h.ok j (h.sub j h4))
          rw [hj] at hq; cases hq
      | some lj =>
        have e : left' j = (L lj && !lj.sameKey kl) := by rw [hl' j, hq]
        rw [e, ← h3 j lj hq]
        by_cases e2 : j = k
        · subst e2
          have e3 : lj = kl := by rw [hq] at hkey; injection hkey
          subst e3
          rw [WideAt.sameKey_self (key_law.key hq)]
          simp
        · have e3 : lj ≠ kl := fun e3 => e2 (by subst e3; exact kv5_inj (key_law.inj hq hkey))
          rw [Maps.sameKey_ne e3]
          simp [e2]
    refine hMore k w' left' cnt' hb (by rw [← h3 k kl hkey]; exact hlk) ⟨⟨D, _, hrg, h2, fun j lj hj => by rw [hl' j, hj]⟩, h.ok, fun j hj => h.sub j ((hiff j).1 hj).1⟩ hiff hlt (off_grown hgr) hsz hen
end
theorem KRange.map {w : World} {B r n : Nat} {s left : K5 → Bool} {cnt : Nat} (h : KRange w B r n s left cnt) : KMap w B n s := by
  obtain ⟨D, L, h1, h2, _⟩ := h.own
  exact ⟨⟨D, h1.owns, h2⟩, h.ok⟩
theorem KRange.below {w w' : World} {B r n : Nat} {s left : K5 → Bool} {cnt : Nat} (h : KRange w B r n s left cnt) (hb : Below w.heap.size w w') : KRange w' B r n s left cnt := by
  obtain ⟨D, L, h1, h2, h3⟩ := h.own
  exact ⟨⟨D, L, h1.kept (row := none) ⟨hb.os, hb.tape, hb.output, hb.size, fun i hi _ => hb.block i hi⟩ (by simp) (by simp), h2, h3⟩, h.ok, h.sub⟩
end
end Go.Proofs.YtlfeglljpfihhaaGreatDoor
