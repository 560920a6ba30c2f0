/- Plain: what chapter 12 says of a machine whose keys for some cells are taken away. -/
import Derived.Test.YtlfeglljpfihhaaRows
import Derived.Test.YtlfeglljpfihhaaBits
import Derived.Test.YtlfeglljpfihhaaKeyPure
import Derived.Test.YtlfeglljpfihhaaCellPure
import Derived.Test.YtlfeglljpfihhaaValsArg
import Derived.Test.YtlfeglljpfihhaaMemPure
import Derived.Test.YtlfeglljpfihhaaMachArg
import Derived.Test.YtlfeglljpfihhaaStepChk
import Derived.Test.YtlfeglljpfihhaaMachMid
import Derived.WalkKit
namespace Go.Proofs.Ytlfeglljpfihhaa
open Go.RowKit

/-- Is it for one of the n cells from b on? -/
def strk (b n : Int) (k : K5) : Bool := decide (max k.b b < min (k.b + k.l) (b + n))
def hitV (b n : Int) (v : MV) : Bool := v.i && strk b n (vK v)
def swV (b n : Int) (v : MV) : MV := if hitV b n v = true then nil0 else v
def swK (b n : Int) (k : K5) : K5 := if strk b n k = true then key0 else k
def swF (b n : Int) (f : FR) : FR := ⟨swK b n f.c, swV b n f.d⟩
def b1 (x : Bool) : Nat := if x = true then 1 else 0
def cV (b n : Int) (v : MV) : Nat := b1 (hitV b n v)
def cK (b n : Int) (k : K5) : Nat := b1 (strk b n k)
def cF (b n : Int) (f : FR) : Nat := cK b n f.c + cV b n f.d
def cVs (b n : Int) : List MV → Nat
  | [] => 0
  | v :: vs => cV b n v + cVs b n vs
def cFs (b n : Int) : List FR → Nat
  | [] => 0
  | f :: fs => cF b n f + cFs b n fs
def swM (b n : Int) (x : MC) : MC := ⟨x.r.map (swV b n), swK b n x.k, x.m.map (swV b n), x.s.map (swF b n), x.o⟩
def cM (b n : Int) (x : MC) : Nat := cVs b n x.r + cK b n x.k + cVs b n x.m + cFs b n x.s
def argE (b n : Int) : Int := if b < 0 then 1 else if n < 0 then 1 else if 400 - n < b then 1 else 0
/-- P25. -/
def swE (b n : Int) (x : MC) : Int := if mcE x = 0 then argE b n else mcE x
def swA (b n : Int) (x : MC) : MC := if swE b n x = 0 then swM b n x else zeroM
def swN (b n : Int) (x : MC) : Int := if swE b n x = 0 then (cM b n x : Int) else 0
theorem sw_cases (b n : Int) (x : MC) : (swE b n x = 0 ∧ swA b n x = swM b n x ∧ swN b n x = (cM b n x : Int)) ∨ (¬ swE b n x = 0 ∧ swA b n x = zeroM ∧ swN b n x = 0) := by
  unfold swA swN
  rcases Decidable.em (swE b n x = 0) with h | h
  · exact .inl ⟨h, if_pos h, if_pos h⟩
  · exact .inr ⟨h, if_neg h, if_neg h⟩
theorem arg_ok {b n : Int} (h : argE b n = 0) : 0 ≤ b ∧ 0 ≤ n ∧ b + n ≤ 400 := by
  unfold argE at h
  split at h
  · cases h
  · split at h
    · cases h
    · split at h
      · cases h
      · omega
theorem sw_ok {b n : Int} {x : MC} (h : swE b n x = 0) : mcE x = 0 ∧ argE b n = 0 := by
  unfold swE at h
  split at h
  · rename_i h1
    exact ⟨h1, h⟩
  · rename_i h1
    exact absurd h h1
theorem strk_key0 {b n : Int} : strk b n key0 = false := by
  unfold strk key0
  simp only [decide_eq_false_iff_not]
  omega
theorem hit_nil (b n : Int) : hitV b n nil0 = false := rfl
theorem swV_hit (a n b k : Int) (v : MV) : hitV a n (swV b k v) = (hitV a n v && !hitV b k v) := by
  unfold swV
  cases h : hitV b k v
  · simp
  · simp [hit_nil]
theorem swK_hit (a n b k : Int) (v : K5) : strk a n (swK b k v) = (strk a n v && !strk b k v) := by
  unfold swK
  cases h : strk b k v
  · simp
  · simp [strk_key0]
theorem swV_two (a n b k : Int) (v : MV) : swV a n (swV b k v) = if (hitV a n v || hitV b k v) = true then nil0 else v := by
  rw [show swV a n (swV b k v) = if hitV a n (swV b k v) = true then nil0 else swV b k v from rfl, swV_hit]
  unfold swV
  cases hitV a n v <;> cases hitV b k v <;> rfl
theorem swK_two (a n b k : Int) (v : K5) : swK a n (swK b k v) = if (strk a n v || strk b k v) = true then key0 else v := by
  rw [show swK a n (swK b k v) = if strk a n (swK b k v) = true then key0 else swK b k v from rfl, swK_hit]
  unfold swK
  cases strk a n v <;> cases strk b k v <;> rfl
theorem swV_comm (a n b k : Int) (v : MV) : swV a n (swV b k v) = swV b k (swV a n v) := by rw [swV_two, swV_two, Bool.or_comm]
theorem swK_comm (a n b k : Int) (v : K5) : swK a n (swK b k v) = swK b k (swK a n v) := by rw [swK_two, swK_two, Bool.or_comm]
theorem swF_comm (a n b k : Int) (v : FR) : swF a n (swF b k v) = swF b k (swF a n v) := by unfold swF; rw [swV_comm, swK_comm]
theorem swM_comm (a n b k : Int) (x : MC) : swM a n (swM b k x) = swM b k (swM a n x) := by
  unfold swM
  simp only [List.map_map, MC.mk.injEq, and_true]
  exact ⟨List.map_congr_left fun v _ => swV_comm a n b k v, swK_comm a n b k x.k, List.map_congr_left fun v _ => swV_comm a n b k v, List.map_congr_left fun v _ => swF_comm a n b k v⟩
theorem swM_again (b n : Int) (x : MC) : swM b n (swM b n x) = swM b n x := by
  have hv : ∀ v, swV b n (swV b n v) = swV b n v := fun v => by rw [swV_two, Bool.or_self]; rfl
  have hk : ∀ v, swK b n (swK b n v) = swK b n v := fun v => by rw [swK_two, Bool.or_self]; rfl
  unfold swM
  simp only [List.map_map, MC.mk.injEq, and_true]
  exact ⟨List.map_congr_left fun v _ => hv v, hk x.k, List.map_congr_left fun v _ => hv v, List.map_congr_left fun v _ => by show swF b n (swF b n v) = swF b n v; unfold swF; rw [hv, hk]⟩
theorem cV_two (a n b k : Int) (v : MV) : cV a n v + cV b k (swV a n v) = cV b k v + cV a n (swV b k v) := by
  unfold cV
  rw [swV_hit, swV_hit]
  cases hitV a n v <;> cases hitV b k v <;> rfl
theorem cK_two (a n b k : Int) (v : K5) : cK a n v + cK b k (swK a n v) = cK b k v + cK a n (swK b k v) := by
  unfold cK
  rw [swK_hit, swK_hit]
  cases strk a n v <;> cases strk b k v <;> rfl
theorem cVs_two (a n b k : Int) (vs : List MV) : cVs a n vs + cVs b k (vs.map (swV a n)) = cVs b k vs + cVs a n (vs.map (swV b k)) := by
  induction vs with
  | nil => rfl
  | cons v vs ih =>
    have := cV_two a n b k v
    simp only [List.map_cons, cVs]
    omega
theorem cFs_two (a n b k : Int) (fs : List FR) : cFs a n fs + cFs b k (fs.map (swF a n)) = cFs b k fs + cFs a n (fs.map (swF b k)) := by
  induction fs with
  | nil => rfl
  | cons f fs ih =>
    have h1 := cV_two a n b k f.d
    have h2 := cK_two a n b k f.c
    simp only [List.map_cons, cFs, cF, swF]
    omega
theorem cM_two (a n b k : Int) (x : MC) : cM a n x + cM b k (swM a n x) = cM b k x + cM a n (swM b k x) := by
  have h1 := cVs_two a n b k x.r
  have h2 := cK_two a n b k x.k
  have h3 := cVs_two a n b k x.m
  have h4 := cFs_two a n b k x.s
  unfold cM swM
  simp only
  omega
theorem cM_again (b n : Int) (x : MC) : cM b n (swM b n x) = 0 := by
  have hv : ∀ v, cV b n (swV b n v) = 0 := fun v => by unfold cV; rw [swV_hit]; cases hitV b n v <;> rfl
  have hk : ∀ v, cK b n (swK b n v) = 0 := fun v => by unfold cK; rw [swK_hit]; cases strk b n v <;> rfl
  have hvs : ∀ vs : List MV, cVs b n (vs.map (swV b n)) = 0 := fun vs => by
    induction vs with
    | nil => rfl
    | cons v vs ih => simp only [List.map_cons, cVs]; rw [hv, ih]
  have hfs : ∀ vs : List FR, cFs b n (vs.map (swF b n)) = 0 := fun vs => by
    induction vs with
    | nil => rfl
    | cons v vs ih => simp only [List.map_cons, cFs, cF, swF]; rw [hv, hk, ih]
  unfold cM swM
  simp only
  rw [hvs, hk, hvs, hfs]
theorem cVs_le (b n : Int) (vs : List MV) : cVs b n vs ≤ vs.length := by
  induction vs with
  | nil => exact Nat.le_refl _
  | cons v vs ih =>
    have : cV b n v ≤ 1 := by unfold cV b1; split <;> omega
    simp only [cVs, List.length_cons]
    omega
theorem cFs_le (b n : Int) (vs : List FR) : cFs b n vs ≤ 2 * vs.length := by
  induction vs with
  | nil => exact Nat.le_refl _
  | cons v vs ih =>
    have h1 : cV b n v.d ≤ 1 := by unfold cV b1; split <;> omega
    have h2 : cK b n v.c ≤ 1 := by unfold cK b1; split <;> omega
    simp only [cFs, cF, List.length_cons]
    omega
/-- What is in order stays so. -/
theorem chk_swV {b n : Int} {v : MV} (h : chk1 v = 0) : chk1 (swV b n v) = 0 := by
  unfold swV
  split
  · decide
  · exact h
theorem chk_swK {b n : Int} {k : K5} (h : chk5 k = 0) : chk5 (swK b n k) = 0 := by
  unfold swK
  split
  · exact (by decide +kernel : chk5 key0 = 0)
  · exact h
theorem chk_swVs {b n : Int} {vs : List MV} (h : chkL vs = 0) : chkL (vs.map (swV b n)) = 0 := by
  rw [chkL_all] at h ⊢
  intro v hv
  obtain ⟨u, hu, rfl⟩ := List.mem_map.1 hv
  exact chk_swV (h u hu)
theorem fr_zero {f : FR} : frE f = 0 ↔ chk5 f.c = 0 ∧ chk1 f.d = 0 := by
  unfold frE
  split
  · rename_i h; exact ⟨fun h2 => ⟨h, h2⟩, fun h2 => h2.2⟩
  · rename_i h; exact ⟨fun h2 => absurd h2 h, fun h2 => absurd h2.1 h⟩
theorem frs_all {fs : List FR} : frsE fs = 0 ↔ ∀ f ∈ fs, frE f = 0 := by
  induction fs with
  | nil => exact ⟨fun _ v h => by simp at h, fun _ => rfl⟩
  | cons v vs ih =>
    unfold frsE
    split
    · rename_i h
      rw [ih]
      exact ⟨fun hh u hu => by rcases List.mem_cons.1 hu with rfl | hu; exact h; exact hh u hu, fun hh u hu => hh u (List.mem_cons_of_mem _ hu)⟩
    · rename_i h
      exact ⟨fun hh => absurd hh h, fun hh => absurd (hh v List.mem_cons_self) h⟩
theorem stk_zero {fs : List FR} : stkE fs = 0 ↔ fs.length ≤ 16 ∧ frsE fs = 0 := by
  unfold stkE
  split
  · refine ⟨fun h => ?_, fun h => ?_⟩
    · cases h
    · exfalso; omega
  · rename_i h; exact ⟨fun h2 => ⟨by omega, h2⟩, fun h2 => h2.2⟩
/-- A machine that may be, taken apart. -/
theorem mc_zero {x : MC} : mcE x = 0 ↔ chkL x.r = 0 ∧ chk5 x.k = 0 ∧ memE x.m = 0 ∧ stkE x.s = 0 ∧ outE x.o = 0 := by
  unfold mcE
  split
  · rename_i h1
    split
    · rename_i h2
      split
      · rename_i h3
        split
        · rename_i h4; exact ⟨fun h => ⟨h1, h2, h3, h4, h⟩, fun h => h.2.2.2.2⟩
        · rename_i h4; exact ⟨fun h => absurd h h4, fun h => absurd h.2.2.2.1 h4⟩
      · rename_i h3; exact ⟨fun h => absurd h h3, fun h => absurd h.2.2.1 h3⟩
    · rename_i h2; exact ⟨fun h => absurd h h2, fun h => absurd h.2.1 h2⟩
  · rename_i h1; exact ⟨fun h => absurd h h1, fun h => absurd h.1 h1⟩
theorem sw_mc {b n : Int} {x : MC} (h : mcE x = 0) : mcE (swM b n x) = 0 := by
  obtain ⟨h1, h2, h3, h4, h5⟩ := mc_zero.1 h
  refine mc_zero.2 ⟨chk_swVs h1, chk_swK h2, ?_, ?_, h5⟩
  · obtain ⟨hl, hc⟩ := mem_small h3
    show memE (x.m.map (swV b n)) = 0
    rw [mem_not (by rw [List.length_map]; omega)]
    exact chk_swVs hc
  · obtain ⟨hl, hf⟩ := stk_zero.1 h4
    refine stk_zero.2 ⟨by show (x.s.map (swF b n)).length ≤ 16; rw [List.length_map]; exact hl, frs_all.2 fun f hf' => ?_⟩
    obtain ⟨g, hg, rfl⟩ := List.mem_map.1 hf'
    obtain ⟨g1, g2⟩ := fr_zero.1 (frs_all.1 hf g hg)
    exact fr_zero.2 ⟨chk_swK g1, chk_swV g2⟩
theorem sw_again {b n a k : Int} {x : MC} (h : swE b n x = 0) (h' : argE a k = 0) : swE a k (swM b n x) = 0 := by
  unfold swE
  rw [if_pos (sw_mc (sw_ok h).1)]
  exact h'
theorem cVs_app (b n : Int) (xs ys : List MV) : cVs b n (xs ++ ys) = cVs b n xs + cVs b n ys := by
  induction xs with
  | nil => simp [cVs]
  | cons x xs ih => simp only [List.cons_append, cVs]; omega
theorem cFs_app (b n : Int) (xs ys : List FR) : cFs b n (xs ++ ys) = cFs b n xs + cFs b n ys := by
  induction xs with
  | nil => simp [cFs]
  | cons x xs ih => simp only [List.cons_append, cFs]; omega
theorem cVs_take {b n : Int} {vs : List MV} {k : Nat} {v : MV} (h : vs[k]? = some v) : cVs b n (vs.take (k + 1)) = cVs b n (vs.take k) + cV b n v ∧ cVs b n (vs.take (k + 1)) ≤ cVs b n vs := by
  refine ⟨?_, ?_⟩
  · rw [List.take_add_one, h, cVs_app]; simp [cVs]
  · have := cVs_app b n (vs.take (k + 1)) (vs.drop (k + 1))
    rw [List.take_append_drop] at this
    omega
theorem cFs_take {b n : Int} {vs : List FR} {k : Nat} {v : FR} (h : vs[k]? = some v) : cFs b n (vs.take (k + 1)) = cFs b n (vs.take k) + cF b n v ∧ cFs b n (vs.take (k + 1)) ≤ cFs b n vs := by
  refine ⟨?_, ?_⟩
  · rw [List.take_add_one, h, cFs_app]; simp [cFs]
  · have := cFs_app b n (vs.take (k + 1)) (vs.drop (k + 1))
    rw [List.take_append_drop] at this
    omega
end Go.Proofs.Ytlfeglljpfihhaa
