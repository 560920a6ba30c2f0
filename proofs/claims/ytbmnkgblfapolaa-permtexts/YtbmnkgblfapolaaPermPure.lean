/- Plain facts on the signs of what a key allows, on which the proofs on package perm lean; no program is in them. -/
import Derived.Test.YtbmnkgblfapolaaRows
import Derived.Test.YtbmnkgblfapolaaBits
import Derived.WalkKit
namespace Go.Proofs.Ytbmnkgblfapolaa
open Go.RowKit

/-- The seven signs, and sign k. -/
def sgs : ByteArray := ⟨#[114, 119, 120, 82, 87, 115, 117]⟩
def sgl (k : Nat) : UInt8 := ([114, 119, 120, 82, 87, 115, 117] : List UInt8).getD k 0

/-- The signs of p's bits below k. -/
def tl (p : Int) (k : Nat) : List UInt8 := ((List.range k).filter (fun i => bt p i)).map sgl
def toldB (p : Int) (k : Nat) : ByteArray := ⟨(tl p k).toArray⟩
/-- What is told of p. -/
def permL (p : Int) : List UInt8 := if p = 0 then [45] else tl p 7
def permB (p : Int) : ByteArray := if 0 ≤ p ∧ p ≤ 127 then ⟨(permL p).toArray⟩ else ⟨#[]⟩
def permE (p : Int) : Int := if 0 ≤ p ∧ p ≤ 127 then 0 else 1

theorem tl_yes (p : Int) (k : Nat) (h : bt p k = true) : tl p (k + 1) = tl p k ++ [sgl k] := by
  simp [tl, List.range_succ, List.filter_append, h]
theorem tl_no (p : Int) (k : Nat) (h : bt p k = false) : tl p (k + 1) = tl p k := by
  simp [tl, List.range_succ, List.filter_append, h]
theorem tl_len (p : Int) (k : Nat) : (tl p k).length ≤ k := by
  unfold tl
  rw [List.length_map]
  exact Nat.le_trans (List.length_filter_le _ _) (by simp)
theorem encode_sgl : ∀ k : Nat, k < 7 → Utf8.encode ((sgl k).toNat : Int) = ⟨#[sgl k]⟩
  | 0, _ => by decide
  | 1, _ => by decide
  | 2, _ => by decide
  | 3, _ => by decide
  | 4, _ => by decide
  | 5, _ => by decide
  | 6, _ => by decide
  | k + 7, h => absurd h (by omega)
theorem told_yes (p : Int) (k : Nat) (hk : k < 7) (h : bt p k = true) : toldB p k ++ Utf8.encode ((sgl k).toNat : Int) = toldB p (k + 1) := by
  rw [encode_sgl k hk]
  unfold toldB
  rw [tl_yes p k h, ByteArray.mk_append_mk (tl p k) [sgl k]]
theorem told_no (p : Int) (k : Nat) (h : bt p k = false) : toldB p (k + 1) = toldB p k := by
  unfold toldB; rw [tl_no p k h]
theorem told_size (p : Int) (k : Nat) : (toldB p k).size ≤ k := by
  have := tl_len p k
  show (tl p k).toArray.size ≤ k
  simpa using this
theorem sgs_at : ∀ k : Nat, (h : k < 7) → sgs[k]'h = sgl k
  | 0, _ => rfl
  | 1, _ => rfl
  | 2, _ => rfl
  | 3, _ => rfl
  | 4, _ => rfl
  | 5, _ => rfl
  | 6, _ => rfl
  | k + 7, h => absurd h (by omega)
theorem sgl_small : ∀ k : Nat, k < 7 → (sgl k).toNat < 128
  | 0, _ => by decide
  | 1, _ => by decide
  | 2, _ => by decide
  | 3, _ => by decide
  | 4, _ => by decide
  | 5, _ => by decide
  | 6, _ => by decide
  | k + 7, h => absurd h (by omega)

theorem next_sgs {P : Program} (w : World) (k : Nat) (h : k < 7) (ty : TypeId) : (Instr.next (.pointer (some ⟨w.heap.size, 0, none⟩)) true ty).run P (w.iter sgs k) =
    .ok (.tuple #[.bool true, .int .i64 k, .int .i32 (sgl k).toNat]) (w.iter sgs (k + 1)) := by
  have e := sgs_at k h
  have h1 := run_next_ascii (P := P) w sgs k ty h (by rw [e]; exact sgl_small k h)
  rw [e] at h1
  exact h1
theorem next_sgs_end {P : Program} (w : World) (k : Nat) (h : ¬ k < 7) (ty : TypeId) : (Instr.next (.pointer (some ⟨w.heap.size, 0, none⟩)) true ty).run P (w.iter sgs k) =
    .ok (.tuple #[.bool false]) (w.iter sgs k) := run_next_end w sgs k ty h

theorem rem_yes (p : Int) (k : Nat) (hk : k < 64) (h0 : 0 ≤ p) (h : bt p k = true) : ((p / 2 ^ k).tmod 2 == 1) = true := by
  rw [bt_eq p k hk] at h
  have hq : 0 ≤ p / 2 ^ k := Int.ediv_nonneg h0 (Int.le_of_lt (Int.pow_pos (by decide)))
  rw [Int.tmod_eq_emod_of_nonneg hq, beq_iff_eq]
  exact of_decide_eq_true h
theorem rem_no (p : Int) (k : Nat) (hk : k < 64) (h0 : 0 ≤ p) (h : bt p k = false) : ((p / 2 ^ k).tmod 2 == 1) = false := by
  rw [bt_eq p k hk] at h
  have hq : 0 ≤ p / 2 ^ k := Int.ediv_nonneg h0 (Int.le_of_lt (Int.pow_pos (by decide)))
  rw [Int.tmod_eq_emod_of_nonneg hq, beq_eq_false_iff_ne]
  exact of_decide_eq_false h

/-- What is read of a list of bytes: the first of all numbers that is told so. -/
def findP (l : List UInt8) : Option Nat := (List.range 128).find? (fun p : Nat => permL (p : Int) == l)

/-- The number whose signs they are. -/
def valL (l : List UInt8) : Nat := l.foldl (fun n c => n + (if c = 45 then 0 else 2 ^ (([114, 119, 120, 82, 87, 115, 117] : List UInt8).findIdx (· == c)))) 0
set_option maxRecDepth 100000 in
theorem valL_permL : ∀ p : Nat, p < 128 → valL (permL (p : Int)) = p := by decide +kernel
theorem permL_inj (p q : Nat) (hp : p < 128) (hq : q < 128) (h : permL (p : Int) = permL (q : Int)) : p = q := by
  rw [← valL_permL p hp, ← valL_permL q hq, h]
theorem findP_some (l : List UInt8) (p : Nat) (hp : p < 128) (h : permL (p : Int) = l) : findP l = some p := by
  unfold findP
  cases hf : (List.range 128).find? (fun p : Nat => permL (p : Int) == l) with
  | none => exact absurd (List.find?_eq_none.1 hf p (by simpa using hp)) (by simp [h])
  | some q =>
    have h1 := List.find?_some hf
    have h2 := List.mem_of_find?_eq_some hf
    simp at h1 h2
    rw [permL_inj p q hp h2 (by rw [h, h1])]
theorem findP_none (l : List UInt8) (h : ∀ p : Nat, p < 128 → permL (p : Int) ≠ l) : findP l = none := by
  unfold findP
  rw [List.find?_eq_none]
  intro p hp
  simp at hp
  simpa using h p hp
theorem findP_told (l : List UInt8) (p : Nat) (h : findP l = some p) : p < 128 ∧ permL (p : Int) = l := by
  unfold findP at h
  have h1 := List.find?_some h
  have h2 := List.mem_of_find?_eq_some h
  simp at h1 h2
  exact ⟨h2, h1⟩

def readN (s : ByteArray) : Int := ((findP s.data.toList).getD 0 : Nat)
def readE (s : ByteArray) : Int := if (findP s.data.toList).isSome then 0 else 3

/-! Reading sign by sign -/
/-- The sign r among those that are left from f on. -/
def idx (f : Nat) (r : Int) : Option Nat := (List.range 7).find? (fun k => decide (f ≤ k) && decide (((sgl k).toNat : Int) = r))
theorem idx_some {f k : Nat} {r : Int} (h : idx f r = some k) : k < 7 ∧ f ≤ k ∧ ((sgl k).toNat : Int) = r := by
  unfold idx at h
  have h1 := List.find?_some h
  have h2 := List.mem_of_find?_eq_some h
  simp at h1 h2
  exact ⟨h2, h1.1, h1.2⟩
theorem idx_none {f : Nat} {r : Int} (h : idx f r = none) (k : Nat) (hk : k < 7) (hf : f ≤ k) : ((sgl k).toNat : Int) ≠ r := by
  unfold idx at h
  have := List.find?_eq_none.1 h k (by simpa using hk)
  simpa [hf] using this
theorem sgl_inj : ∀ j : Nat, j < 7 → ∀ k : Nat, k < 7 → (sgl j).toNat = (sgl k).toNat → j = k := by decide +kernel
theorem idx_not_before {f k : Nat} {r : Int} (h : idx f r = some k) (j : Nat) (hj : j < k) : ((sgl j).toNat : Int) ≠ r := by
  obtain ⟨h1, _, h3⟩ := idx_some h
  intro e
  have := sgl_inj j (by omega) k h1 (by omega)
  omega
theorem idx_of {f k : Nat} (hk : k < 7) (hf : f ≤ k) : idx f ((sgl k).toNat : Int) = some k := by
  cases h : idx f ((sgl k).toNat : Int) with
  | none => exact absurd rfl (idx_none h k hk hf)
  | some j =>
    obtain ⟨h1, _, h3⟩ := idx_some h
    rw [sgl_inj j h1 k hk (by omega)]

def rdL : Nat → Nat → List UInt8 → Option Nat
  | _, pv, [] => some pv
  | f, pv, c :: l => match idx f (c.toNat : Int) with
    | some k => rdL (k + 1) (pv + 2 ^ k) l
    | none => none
theorem rdL_yes {f pv k : Nat} {c : UInt8} {l : List UInt8} (h : idx f (c.toNat : Int) = some k) : rdL f pv (c :: l) = rdL (k + 1) (pv + 2 ^ k) l := by
  simp [rdL, h]
theorem rdL_no {f pv : Nat} {c : UInt8} {l : List UInt8} (h : idx f (c.toNat : Int) = none) : rdL f pv (c :: l) = none := by
  simp [rdL, h]

set_option maxRecDepth 100000 in
theorem rd_told : ∀ p : Nat, p < 128 → rdL 0 0 (tl (p : Int) 7) = some p := by decide +kernel

/-- The signs of p's bits from f on. -/
def tf (p f : Nat) : List UInt8 := ((List.range' f (7 - f)).filter (fun i => bt (p : Int) i)).map sgl
set_option maxRecDepth 100000 in
theorem tf_low : ∀ f : Nat, f < 8 → ∀ p : Nat, p < 128 → p < 2 ^ f → tf p f = [] := by decide +kernel
set_option maxRecDepth 100000 in
theorem tf_step : ∀ k : Nat, k < 7 → ∀ f : Nat, f < k + 1 → ∀ p : Nat, p < 128 → p % 2 ^ (k + 1) = p % 2 ^ f + 2 ^ k → tf p f = sgl k :: tf p (k + 1) := by decide +kernel
theorem rd_some : ∀ (l : List UInt8) (f pv p : Nat), f < 8 → pv < 2 ^ f → pv < 128 → rdL f pv l = some p → p < 128 ∧ p % 2 ^ f = pv ∧ l = tf p f
  | [], f, pv, p, hf, hp, h7, h => by
    simp [rdL] at h
    subst h
    exact ⟨h7, Nat.mod_eq_of_lt hp, (tf_low f hf pv h7 hp).symm⟩
  | c :: l, f, pv, p, hf, hp, h7, h => by
    cases hi : idx f (c.toNat : Int) with
    | none => rw [rdL_no hi] at h; cases h
    | some k =>
      rw [rdL_yes hi] at h
      obtain ⟨k7, fk, hc⟩ := idx_some hi
      have e1 : (2 : Nat) ^ f ≤ 2 ^ k := Nat.pow_le_pow_right (by decide) fk
      have e2 : (2 : Nat) ^ (k + 1) = 2 ^ k + 2 ^ k := by rw [Nat.pow_succ]; omega
      have e3 : (2 : Nat) ^ (k + 1) ≤ 2 ^ 7 := Nat.pow_le_pow_right (by decide) (by omega)
      have e4 : (2 : Nat) ^ 7 = 128 := by decide
      obtain ⟨a1, a2, a3⟩ := rd_some l (k + 1) (pv + 2 ^ k) p (by omega) (by omega) (by omega) h
      have e5 : (2 : Nat) ^ f ∣ 2 ^ (k + 1) := Nat.pow_dvd_pow 2 (by omega)
      have e6 : p % 2 ^ f = pv := by
        rw [← Nat.mod_mod_of_dvd p e5, a2]
        obtain ⟨m, hm⟩ : (2 : Nat) ^ f ∣ 2 ^ k := Nat.pow_dvd_pow 2 fk
        rw [hm, Nat.add_mul_mod_self_left, Nat.mod_eq_of_lt hp]
      refine ⟨a1, e6, ?_⟩
      rw [tf_step k k7 f (by omega) p a1 (by rw [a2, e6]), a3]
      have : c = sgl k := by apply UInt8.toNat_inj.1; omega
      rw [this]
theorem tf_zero : ∀ p : Nat, tf p 0 = tl (p : Int) 7 := fun p => by
  unfold tf tl; rw [List.range_eq_range']

/-- What comes of it: the number that is told so. -/
theorem find_of_rd (l : List UInt8) (h45 : l ≠ [45]) : findP l = (rdL 0 0 l).bind (fun p => if p = 0 then none else some p) := by
  cases h : rdL 0 0 l with
  | none =>
    refine findP_none l fun p hp e => ?_
    unfold permL at e
    by_cases hz : (p : Int) = 0
    · rw [if_pos hz] at e; exact h45 e.symm
    · rw [if_neg hz] at e
      rw [← e, rd_told p hp] at h
      cases h
  | some p =>
    obtain ⟨h1, _, h3⟩ := rd_some l 0 0 p (by decide) (by decide) (by decide) h
    rw [tf_zero] at h3
    by_cases hz : p = 0
    · subst hz
      refine findP_none l fun q hq e => ?_
      unfold permL at e
      by_cases hz : (q : Int) = 0
      · rw [if_pos hz] at e; exact h45 e.symm
      · rw [if_neg hz, h3] at e
        have h4 := rd_told q hq
        rw [e, ← h3, h] at h4
        have := Option.some.inj h4
        omega
    · show findP l = if p = 0 then none else some p
      rw [if_neg hz]
      refine findP_some l p h1 ?_
      unfold permL
      rw [if_neg (by omega), h3]

set_option maxRecDepth 100000 in
theorem or_add : ∀ k : Nat, k < 7 → ∀ p : Nat, p < 128 → p < 2 ^ k → bits .or .i64 (p : Int) ((2 ^ k : Nat) : Int) = ((p + 2 ^ k : Nat) : Int) := by decide +kernel

theorem grown_trans {a b c : World} (h : Grown a b) (k : Grown b c) : Grown a c :=
  ⟨World.keptBut_trans h.1 (by
      refine ⟨k.1.1, k.1.2.1, fun i hi => ?_⟩
      exact k.1.2.2 i hi), fun x => (k.2.1 x).trans (h.2.1 x), Nat.le_trans h.2.2 k.2.2⟩
theorem grown_iter {W w : World} (h : Grown W w) (s : ByteArray) (n : Nat) : Grown W (w.iter s n) := by
  refine ⟨World.keptBut_trans h.1 (World.keptBut_alloc _ _ _), fun a => ?_, Nat.le_trans h.2.2 (by show w.heap.size ≤ (w.heap.push _).size; simp)⟩
  refine Eq.trans ?_ (h.2.1 a)
  by_cases e : a.block = w.heap.size
  · have e1 : (w.iter s n).heap[a.block]? = some (.stringIter s n) := by rw [e]; exact World.iter_heap w s n
    have e2 : w.heap[a.block]? = none := by rw [e]; simp
    simp [World.frozen?, e1, e2]
  · exact World.frozen?_alloc_old _ _ _ e

end Go.Proofs.Ytbmnkgblfapolaa
