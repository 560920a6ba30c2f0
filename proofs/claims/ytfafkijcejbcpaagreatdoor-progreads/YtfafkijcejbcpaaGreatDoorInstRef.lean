/- The document's own InstCheck: for whatever instruction what chapter 6 says; it turns nothing that was in memory. -/
import Derived.Test.YtfafkijcejbcpaaGreatDoorRows
import Derived.Test.YtfafkijcejbcpaaGreatDoorBits
import Derived.Test.YtfafkijcejbcpaaGreatDoorKeyPure
import Derived.Test.YtfafkijcejbcpaaGreatDoorShelf
import Derived.Test.YtfafkijcejbcpaaGreatDoorCardBase
import Derived.Test.YtfafkijcejbcpaaGreatDoorInstTab
import Derived.Test.YtfafkijcejbcpaaGreatDoorStrMap
import Derived.Test.YtfafkijcejbcpaaGreatDoorInstShape
import Derived.WalkKit
import Derived.ProofKit
import Derived.Deep.RegionHeld3
import Derived.Deep.AppendLies
namespace Go.Proofs.YtfafkijcejbcpaaGreatDoor
open Go.ChangeShapes Go.WideShapes Go.ChangeAt Go.RowKit
set_option linter.unusedSimpArgs false

theorem words_len : ∀ n : Nat, n < 23 → 1 ≤ (wordsB n).length ∧ (wordsB n).length ≤ 4 := by decide +kernel
def outB (n lo hi : Int) : Bool := decide (n < lo ∨ hi < n)
theorem ref_outside (n lo hi : Int) (w : World) :
    Calls Tryz.prog 18 #[.int .i64 n, .int .i64 lo, .int .i64 hi] w fun e w' => e = .returned (.bool (outB n lo hi)) ∧ w' = w := by
  unfold outB
  by_cases h1 : n < lo
  · rw [decide_eq_true (Or.inl h1)]
    go_enter Tryz.func18, Tryz.ntmps18
    go_wp2
    go_ret
    exact ⟨rfl, rfl⟩
  · by_cases h2 : hi < n
    · rw [decide_eq_true (Or.inr h2)]
      go_enter Tryz.func18, Tryz.ntmps18
      go_wp2
      go_ret
      exact ⟨rfl, rfl⟩
    · rw [decide_eq_false (fun h => h.elim h1 h2)]
      go_enter Tryz.func18, Tryz.ntmps18
      go_wp2
      go_ret
      exact ⟨rfl, rfl⟩
/-- What of the letters of a row is allowed. -/
def letter (x : ByteArray) : Int × Int := if x = ⟨#[110]⟩ then (-2048, 2047) else if x = ⟨#[114]⟩ then (0, 7) else if x = ⟨#[112]⟩ then (0, 127) else if x = ⟨#[113]⟩ then (0, 5) else (0, 255)
def stp (x : Int × Int × Int × Int) (d : ByteArray) : Int × Int × Int × Int := if d = ⟨#[65]⟩ then (7, x.2.1, x.2.2) else if d = ⟨#[66]⟩ then (x.1, 7, x.2.2) else (x.1, x.2.1, letter d)
/-- What is allowed by the first k words behind the row's name. -/
def lims (o k : Nat) : Int × Int × Int × Int := (((wordsB o).drop 1).take k).foldl stp (0, 0, 0, 0)
theorem S2_alloc {w W : World} {bs : List (Nat × Array Value)} {r : Nat} {o : Obj} (h : Cls w bs W ∧ W.heap[r]? = some o) (x : Obj) : Cls w bs (W.alloc x) ∧ (W.alloc x).heap[r]? = some o :=
  ⟨h.1.step ((Below.refl _ _).alloc (Nat.le_refl _) _), by rw [Below.heap_alloc _ _ _ (Array.getElem?_eq_some_iff.1 h.2).1]; exact h.2⟩
def fin4 (x1 x2 x3 x4 a b c : Int) : Int := if outB a 0 x1 then 1 else if outB b 0 x2 then 1 else if outB c x3 x4 then 1 else 0
def fin (n : Nat) (a b c : Int) : Int := fin4 (lims n ((wordsB n).length - 1)).1 (lims n ((wordsB n).length - 1)).2.1 (lims n ((wordsB n).length - 1)).2.2.1 (lims n ((wordsB n).length - 1)).2.2.2 a b c
def esM (x : Int × Int × Int × Int) : Array MapEntry :=
  #[{ key := .string ⟨#[65]⟩, val := .agg #[.int .i64 0, .int .i64 x.1], born := 0 }, { key := .string ⟨#[66]⟩, val := .agg #[.int .i64 0, .int .i64 x.2.1], born := 1 }, { key := .string ⟨#[67]⟩, val := .agg #[.int .i64 x.2.2.1, .int .i64 x.2.2.2], born := 2 }]
theorem Box.grown {W w1 : World} {row : Option Nat} {k : Nat} {c : Array Value} (h : Box W k c) (hg : W.grownBy w1 row) (hne : some k ≠ row) : Box w1 k c :=
  ⟨Nat.lt_of_lt_of_le h.1 hg.size, fun o => by rw [hg.cell_far ⟨k, o, none⟩ h.1 hne]; exact h.2.1 o, fun o => by rw [hg.frozen_far ⟨k, o, none⟩ h.1 hne]; exact h.2.2 o⟩
theorem box_drew {w : World} {k : Nat} {c : Array Value} (h : Box w k c) : Box w.drew k c := ⟨h.1, h.2.1, h.2.2⟩
theorem cls_grown {w W w1 : World} {c : Array Value} {r : Nat} (h : Cls w [(w.heap.size, c)] W) (hg : W.grownBy w1 (some (w.heap.size + 1 + r))) : Cls w [(w.heap.size, c)] w1 := by
  refine ⟨Below.grown h.1 hg h.1.size (fun k hk => by have := Option.some.inj hk; omega), fun x hx => ?_⟩
  have hb := h.2 x hx
  simp only [List.mem_cons, List.not_mem_nil, or_false] at hx
  subst hx
  exact hb.grown hg (fun e => by have := Option.some.inj e; omega)
theorem ix0 (x y : Int) (w : World) : (Instr.index 83 (.agg #[.int .i64 x, .int .i64 y]) (.int .i64 0)).run Tryz.prog w = .ok (.int .i64 x) w := by kernel_rfl
theorem ix1 (x y : Int) (w : World) : (Instr.index 83 (.agg #[.int .i64 x, .int .i64 y]) (.int .i64 1)).run Tryz.prog w = .ok (.int .i64 y) w := by kernel_rfl
theorem lims_step (n k : Nat) (hk : k + 1 < (wordsB n).length) : lims n (k + 1) = stp (lims n k) ((wordsB n)[k + 1]) := by
  unfold lims
  rw [List.take_succ_eq_append_getElem (by simp; omega), List.foldl_append]
  simp
theorem word_kind : ∀ n : Nat, n < 23 → ∀ k : Nat, k < 3 → (h : k + 1 < (wordsB n).length) → ((wordsB n)[k + 1] = ⟨#[65]⟩ ∨ (wordsB n)[k + 1] = ⟨#[66]⟩ ∨ (wordsB n)[k + 1] = ⟨#[110]⟩ ∨ (wordsB n)[k + 1] = ⟨#[114]⟩ ∨ (wordsB n)[k + 1] = ⟨#[112]⟩ ∨ (wordsB n)[k + 1] = ⟨#[113]⟩ ∨ (wordsB n)[k + 1] = ⟨#[109]⟩) := by decide +kernel
theorem updA {w : World} {r : Nat} {x : Int × Int × Int × Int} (hb : w.heap[r]? = some (.map (esM x) 3)) (y : Int) :
    ∃ w1, (Instr.mapUpdate 84 (.map (some r)) (.string ⟨#[65]⟩) (.agg #[.int .i64 0, .int .i64 y])).run Tryz.prog w = .ok () w1 ∧ w1.heap[r]? = some (.map (esM (y, x.2)) 3) ∧ w.grownBy w1 (some r) :=
  ⟨_, upd_old (P := Tryz.prog) Tryz.underlying84 Tryz.underlying9 hb rfl rfl, (set_grown _ hb).2, (set_grown _ hb).1⟩
theorem updB {w : World} {r : Nat} {x : Int × Int × Int × Int} (hb : w.heap[r]? = some (.map (esM x) 3)) (y : Int) :
    ∃ w1, (Instr.mapUpdate 84 (.map (some r)) (.string ⟨#[66]⟩) (.agg #[.int .i64 0, .int .i64 y])).run Tryz.prog w = .ok () w1 ∧ w1.heap[r]? = some (.map (esM (x.1, y, x.2.2)) 3) ∧ w.grownBy w1 (some r) :=
  ⟨_, upd_old (P := Tryz.prog) Tryz.underlying84 Tryz.underlying9 hb rfl rfl, (set_grown _ hb).2, (set_grown _ hb).1⟩
theorem updC {w : World} {r : Nat} {x : Int × Int × Int × Int} (hb : w.heap[r]? = some (.map (esM x) 3)) (y z : Int) :
    ∃ w1, (Instr.mapUpdate 84 (.map (some r)) (.string ⟨#[67]⟩) (.agg #[.int .i64 y, .int .i64 z])).run Tryz.prog w = .ok () w1 ∧ w1.heap[r]? = some (.map (esM (x.1, x.2.1, y, z)) 3) ∧ w.grownBy w1 (some r) :=
  ⟨_, upd_old (P := Tryz.prog) Tryz.underlying84 Tryz.underlying9 hb rfl rfl, (set_grown _ hb).2, (set_grown _ hb).1⟩

set_option maxHeartbeats 4000000 in
set_option maxRecDepth 100000 in
theorem check_out (o a b c : Int) (w : World) (m : Int) (hM : w.cell? ⟨0, 0, none⟩ = some (.int .i64 m)) (zM : 0 < w.heap.size) (ho : outB o 0 22 = true) :
    Calls Tryz.prog 38 #[.agg #[.int .i64 o, .int .i64 a, .int .i64 b, .int .i64 c]] w fun e w' => e = .returned (.int .i64 1) ∧ Below w.heap.size w w' := by
  have hC0 : ∀ w', Cls w [(w.heap.size, #[.int .i64 o, .int .i64 a, .int .i64 b, .int .i64 c])] w' → Box w' w.heap.size #[.int .i64 o, .int .i64 a, .int .i64 b, .int .i64 c] := fun w' h => h.2 (w.heap.size, #[.int .i64 o, .int .i64 a, .int .i64 b, .int .i64 c]) (by simp)
  have HC : Cls w [(w.heap.size, #[.int .i64 o, .int .i64 a, .int .i64 b, .int .i64 c])] (w.alloc (.cells #[.int .i64 o, .int .i64 a, .int .i64 b, .int .i64 c] 43)) := by
    refine ⟨(Below.refl _ _).alloc (Nat.le_refl _) _, fun x hx => ?_⟩
    simp only [List.mem_cons, List.not_mem_nil, or_false] at hx
    subst hx
    exact Box.new _ _ _
  go_enter Tryz.func38, Tryz.ntmps38
  go_wp2
  refine wp_region_held_drew (S := Cls w [(w.heap.size, #[.int .i64 o, .int .i64 a, .int .i64 b, .int .i64 c])]) (by kernel_rfl) (Cls.drew HC) (fun hHeld => ?_)
  refine wpAnyH_take (i := 0) (v := .pointer (some ⟨w.heap.size, 0, none⟩)) rfl (by kernel_rfl) (by kernel_rfl) (by kernel_rfl) (fun _ _ _ h => h) (Or.inl ⟨by rfl, fun w hSw => by go_simp⟩) (by assumption) ?_
  try simp only [Act.put, List.getElem_toArray, List.getElem_cons_zero, List.getElem_cons_succ, List.setIfInBounds_toArray, List.set_cons_zero, List.set_cons_succ]
  refine wpAnyH_take (i := 1) (v := .int .i64 o) rfl (by kernel_rfl) (by kernel_rfl) (by kernel_rfl) (fun _ _ _ h => h) (Or.inl ⟨by rfl, fun w hSw => by have q := (hC0 _ hSw).cell; go_simp⟩) (by assumption) ?_
  try simp only [Act.put, List.getElem_toArray, List.getElem_cons_zero, List.getElem_cons_succ, List.setIfInBounds_toArray, List.set_cons_zero, List.set_cons_succ]
  refine wpAnyH_ready (rs := [2]) (by kernel_rfl) (by simp) (AllReadyH.cons rfl (fun K hK => ?_) AllReadyH.nil)
  go_simp
  refine (ref_table _ m ((hHeld.1.cell (p := ⟨0, 0, none⟩) zM).trans hM)).mono ?_
  rintro e w1 ⟨rfl, rfl⟩
  refine hK.out _ _ (hHeld.step ((Below.refl _ _).alloc (Nat.le_refl _) _)) (fun hHeld => ?_)
  clear hK K
  try simp only [Act.put, List.getElem_toArray, List.getElem_cons_zero, List.getElem_cons_succ, List.setIfInBounds_toArray, List.set_cons_zero, List.set_cons_succ]
  refine wpAnyH_take (i := 3) (v := .int .i64 23) rfl (by kernel_rfl) (by kernel_rfl) (by kernel_rfl) (fun _ _ _ h => h) (Or.inl ⟨by rfl, fun w hSw => by go_simp⟩) (by assumption) ?_
  try simp only [Act.put, List.getElem_toArray, List.getElem_cons_zero, List.getElem_cons_succ, List.setIfInBounds_toArray, List.set_cons_zero, List.set_cons_succ]
  refine wpAnyH_take (i := 4) (v := .int .i64 22) rfl (by kernel_rfl) (by kernel_rfl) (by kernel_rfl) (fun _ _ _ h => h) (Or.inl ⟨by rfl, fun w hSw => by go_simp; rfl⟩) (by assumption) ?_
  try simp only [Act.put, List.getElem_toArray, List.getElem_cons_zero, List.getElem_cons_succ, List.setIfInBounds_toArray, List.set_cons_zero, List.set_cons_succ]
  refine wpAnyH_ready (rs := [5]) (by kernel_rfl) (by simp) (AllReadyH.cons rfl (fun K hK => ?_) AllReadyH.nil)
  go_simp
  refine (ref_outside _ _ _ _).mono ?_
  simp only [ho]
  rintro e w1 ⟨rfl, rfl⟩
  refine hK.out _ _ (hHeld) (fun hHeld => ?_)
  clear hK K
  try simp only [Act.put, List.getElem_toArray, List.getElem_cons_zero, List.getElem_cons_succ, List.setIfInBounds_toArray, List.set_cons_zero, List.set_cons_succ]
  refine wpAnyH_done (by kernel_rfl) ?_ _
  go_wp2
  go_ret
  exact ⟨rfl, hHeld.1⟩

set_option maxHeartbeats 4000000 in
set_option maxRecDepth 100000 in
theorem check_in (n : Nat) (hn : n < 23) (a b c : Int) (w : World) (m : Int) (hM : w.cell? ⟨0, 0, none⟩ = some (.int .i64 m)) (zM : 0 < w.heap.size) :
    Calls Tryz.prog 38 #[.agg #[.int .i64 (n : Int), .int .i64 a, .int .i64 b, .int .i64 c]] w fun e w' => e = .returned (.int .i64 (fin n a b c)) ∧ Below w.heap.size w w' := by
  have ho : outB (n : Int) 0 22 = false := by unfold outB; rw [decide_eq_false_iff_not]; omega
  have hmm := @run_makeMap Tryz.prog
  have hC0 : ∀ w', Cls w [(w.heap.size, #[.int .i64 (n : Int), .int .i64 a, .int .i64 b, .int .i64 c])] w' → Box w' w.heap.size #[.int .i64 (n : Int), .int .i64 a, .int .i64 b, .int .i64 c] := fun w' h => h.2 (w.heap.size, #[.int .i64 (n : Int), .int .i64 a, .int .i64 b, .int .i64 c]) (by simp)
  have HC : Cls w [(w.heap.size, #[.int .i64 (n : Int), .int .i64 a, .int .i64 b, .int .i64 c])] (w.alloc (.cells #[.int .i64 (n : Int), .int .i64 a, .int .i64 b, .int .i64 c] 43)) := by
    refine ⟨(Below.refl _ _).alloc (Nat.le_refl _) _, fun x hx => ?_⟩
    simp only [List.mem_cons, List.not_mem_nil, or_false] at hx
    subst hx
    exact Box.new _ _ _
  go_enter Tryz.func38, Tryz.ntmps38
  go_wp2
  refine wp_region_held_drew (S := Cls w [(w.heap.size, #[.int .i64 (n : Int), .int .i64 a, .int .i64 b, .int .i64 c])]) (by kernel_rfl) (Cls.drew HC) (fun hHeld => ?_)
  refine wpAnyH_take (i := 0) (v := .pointer (some ⟨w.heap.size, 0, none⟩)) rfl (by kernel_rfl) (by kernel_rfl) (by kernel_rfl) (fun _ _ _ h => h) (Or.inl ⟨by rfl, fun w hSw => by go_simp⟩) (by assumption) ?_
  try simp only [Act.put, List.getElem_toArray, List.getElem_cons_zero, List.getElem_cons_succ, List.setIfInBounds_toArray, List.set_cons_zero, List.set_cons_succ]
  refine wpAnyH_take (i := 1) (v := .int .i64 (n : Int)) rfl (by kernel_rfl) (by kernel_rfl) (by kernel_rfl) (fun _ _ _ h => h) (Or.inl ⟨by rfl, fun w hSw => by have q := (hC0 _ hSw).cell; go_simp⟩) (by assumption) ?_
  try simp only [Act.put, List.getElem_toArray, List.getElem_cons_zero, List.getElem_cons_succ, List.setIfInBounds_toArray, List.set_cons_zero, List.set_cons_succ]
  refine wpAnyH_ready (rs := [2]) (by kernel_rfl) (by simp) (AllReadyH.cons rfl (fun K hK => ?_) AllReadyH.nil)
  go_simp
  refine (ref_table _ m ((hHeld.1.cell (p := ⟨0, 0, none⟩) zM).trans hM)).mono ?_
  rintro e w1 ⟨rfl, rfl⟩
  refine hK.out _ _ (hHeld.step ((Below.refl _ _).alloc (Nat.le_refl _) _)) (fun hHeld => ?_)
  clear hK K
  try simp only [Act.put, List.getElem_toArray, List.getElem_cons_zero, List.getElem_cons_succ, List.setIfInBounds_toArray, List.set_cons_zero, List.set_cons_succ]
  refine wpAnyH_take (i := 3) (v := .int .i64 23) rfl (by kernel_rfl) (by kernel_rfl) (by kernel_rfl) (fun _ _ _ h => h) (Or.inl ⟨by rfl, fun w hSw => by go_simp⟩) (by assumption) ?_
  try simp only [Act.put, List.getElem_toArray, List.getElem_cons_zero, List.getElem_cons_succ, List.setIfInBounds_toArray, List.set_cons_zero, List.set_cons_succ]
  refine wpAnyH_take (i := 4) (v := .int .i64 22) rfl (by kernel_rfl) (by kernel_rfl) (by kernel_rfl) (fun _ _ _ h => h) (Or.inl ⟨by rfl, fun w hSw => by go_simp; rfl⟩) (by assumption) ?_
  try simp only [Act.put, List.getElem_toArray, List.getElem_cons_zero, List.getElem_cons_succ, List.setIfInBounds_toArray, List.set_cons_zero, List.set_cons_succ]
  refine wpAnyH_ready (rs := [5]) (by kernel_rfl) (by simp) (AllReadyH.cons rfl (fun K hK => ?_) AllReadyH.nil)
  go_simp
  refine (ref_outside _ _ _ _).mono ?_
  simp only [ho]
  rintro e w1 ⟨rfl, rfl⟩
  refine hK.out _ _ (hHeld) (fun hHeld => ?_)
  clear hK K
  try simp only [Act.put, List.getElem_toArray, List.getElem_cons_zero, List.getElem_cons_succ, List.setIfInBounds_toArray, List.set_cons_zero, List.set_cons_succ]
  refine wpAnyH_done (by kernel_rfl) ?_ _
  have i1 := ins_last_drew (P := Tryz.prog) (mty := 84) ((w.alloc (.cells #[.int .i64 (n : Int), .int .i64 a, .int .i64 b, .int .i64 c] 43)).alloc (.cells tabA 9)) #[] 0 ⟨#[65]⟩ (.agg #[.int .i64 0, .int .i64 0]) Tryz.underlying84 Tryz.underlying9 rfl
  have i2 := ins_last_drew (P := Tryz.prog) (mty := 84) ((w.alloc (.cells #[.int .i64 (n : Int), .int .i64 a, .int .i64 b, .int .i64 c] 43)).alloc (.cells tabA 9)) #[{ key := .string ⟨#[65]⟩, val := .agg #[.int .i64 0, .int .i64 0], born := 0 }] 1 ⟨#[66]⟩ (.agg #[.int .i64 0, .int .i64 0]) Tryz.underlying84 Tryz.underlying9 rfl
  have i3 := ins_last_drew (P := Tryz.prog) (mty := 84) ((w.alloc (.cells #[.int .i64 (n : Int), .int .i64 a, .int .i64 b, .int .i64 c] 43)).alloc (.cells tabA 9)) #[{ key := .string ⟨#[65]⟩, val := .agg #[.int .i64 0, .int .i64 0], born := 0 }, { key := .string ⟨#[66]⟩, val := .agg #[.int .i64 0, .int .i64 0], born := 1 }] 2 ⟨#[67]⟩ (.agg #[.int .i64 0, .int .i64 0]) Tryz.underlying84 Tryz.underlying9 rfl
  simp only [World.size_alloc, List.push_toArray, List.cons_append, List.nil_append] at i1 i2 i3
  go_wp2
  have hS0 : Cls w [(w.heap.size, #[.int .i64 (n : Int), .int .i64 a, .int .i64 b, .int .i64 c])] (((w.alloc (.cells #[.int .i64 (n : Int), .int .i64 a, .int .i64 b, .int .i64 c] 43)).alloc (.cells tabA 9)).alloc (.map (esM (0, 0, 0, 0)) 3)).drew ∧ ((((w.alloc (.cells #[.int .i64 (n : Int), .int .i64 a, .int .i64 b, .int .i64 c] 43)).alloc (.cells tabA 9)).alloc (.map (esM (0, 0, 0, 0)) 3)).drew : World).heap[w.heap.size + 2]? = some (.map (esM (0, 0, 0, 0)) 3) := by
    refine ⟨((HC.step ((Below.refl _ _).alloc (Nat.le_refl _) _)).step ((Below.refl _ _).alloc (Nat.le_refl _) _)).drew, ?_⟩
    have h := heap_alloc_new ((w.alloc (.cells #[.int .i64 (n : Int), .int .i64 a, .int .i64 b, .int .i64 c] 43)).alloc (.cells tabA 9)) (.map (esM (0, 0, 0, 0)) 3)
    rw [World.size_alloc, World.size_alloc] at h
    exact h
  obtain ⟨W1, hW1⟩ : ∃ W1, W1 = (((w.alloc (.cells #[.int .i64 (n : Int), .int .i64 a, .int .i64 b, .int .i64 c] 43)).alloc (.cells tabA 9)).alloc (.map (esM (0, 0, 0, 0)) 3)).drew := ⟨_, rfl⟩
  rw [← hW1] at hS0
  have hgoal : Hid _ := hW1
  change Code.wp _ _ _ _ (((w.alloc (.cells #[.int .i64 (n : Int), .int .i64 a, .int .i64 b, .int .i64 c] 43)).alloc (.cells tabA 9)).alloc (.map (esM (0, 0, 0, 0)) 3)).drew
  rw [← hW1]
  clear hW1 i1 i2 i3 HC hgoal
  have htab := tab_at n hn
  have hnI : (n : Int) < 23 := by omega
  have zT : w.heap.size + 2 < W1.heap.size := (Array.getElem?_eq_some_iff.1 hS0.2).1
  refine wp_region_held_drew (S := fun w' => Cls w [(w.heap.size, #[.int .i64 (n : Int), .int .i64 a, .int .i64 b, .int .i64 c])] w' ∧ w'.heap[w.heap.size + 2]? = some (.map (esM (0, 0, 0, 0)) 3)) (by kernel_rfl) ⟨hS0.1.drew, hS0.2⟩ (fun hHeld => ?_)
  refine wpAnyH_take (i := 1) (v := .pointer (some ⟨w.heap.size, 0, none⟩)) rfl (by kernel_rfl) (by kernel_rfl) (by kernel_rfl) (fun _ _ _ h => h) (Or.inl ⟨by rfl, fun w hSw => by go_simp⟩) (by assumption) ?_
  try simp only [Act.put, List.getElem_toArray, List.getElem_cons_zero, List.getElem_cons_succ, List.setIfInBounds_toArray, List.set_cons_zero, List.set_cons_succ]
  refine wpAnyH_take (i := 2) (v := .int .i64 (n : Int)) rfl (by kernel_rfl) (by kernel_rfl) (by kernel_rfl) (fun _ _ _ h => h) (Or.inl ⟨by rfl, fun w hSw => by have q := (hC0 _ hSw.1).cell; go_simp⟩) (by assumption) ?_
  try simp only [Act.put, List.getElem_toArray, List.getElem_cons_zero, List.getElem_cons_succ, List.setIfInBounds_toArray, List.set_cons_zero, List.set_cons_succ]
  refine wpAnyH_take (i := 8) (v := .int .i64 0) rfl (by kernel_rfl) (by kernel_rfl) (by kernel_rfl) (fun _ _ _ h => h) (Or.inl ⟨by rfl, fun w hSw => by go_simp⟩) (by assumption) ?_
  try simp only [Act.put, List.getElem_toArray, List.getElem_cons_zero, List.getElem_cons_succ, List.setIfInBounds_toArray, List.set_cons_zero, List.set_cons_succ]
  refine wpAnyH_ready (rs := [0]) (by kernel_rfl) (by simp) (AllReadyH.cons rfl (fun K hK => ?_) AllReadyH.nil)
  go_simp
  refine (ref_table _ m ((hHeld.1.1.cell (p := ⟨0, 0, none⟩) zM).trans hM)).mono ?_
  rintro e w1 ⟨rfl, rfl⟩
  refine hK.out _ _ (S2_alloc hHeld _) (fun hHeld => ?_)
  clear hK K
  try simp only [Act.put, List.getElem_toArray, List.getElem_cons_zero, List.getElem_cons_succ, List.setIfInBounds_toArray, List.set_cons_zero, List.set_cons_succ]
  refine wpAnyH_take (i := 3) (v := .pointer (some ⟨W1.heap.size, n, none⟩)) rfl (by kernel_rfl) (by kernel_rfl) (by kernel_rfl) (fun _ _ _ h => h) (Or.inl ⟨by rfl, fun w hSw => by go_simp⟩) (by assumption) ?_
  try simp only [Act.put, List.getElem_toArray, List.getElem_cons_zero, List.getElem_cons_succ, List.setIfInBounds_toArray, List.set_cons_zero, List.set_cons_succ]
  refine wpAnyH_ready (rs := [4]) (by kernel_rfl) (by simp) (AllReadyH.cons rfl (fun K hK => ?_) AllReadyH.nil)
  go_simp
  refine hK.out _ _ hHeld (fun hHeld => ?_)
  clear hK K
  try simp only [Act.put, List.getElem_toArray, List.getElem_cons_zero, List.getElem_cons_succ, List.setIfInBounds_toArray, List.set_cons_zero, List.set_cons_succ]
  refine wpAnyH_ready (rs := [5]) (by kernel_rfl) (by simp) (AllReadyH.cons rfl (fun K hK => ?_) AllReadyH.nil)
  go_simp
  refine (ref_words n hn _ m ((hHeld.1.1.cell (p := ⟨0, 0, none⟩) zM).trans hM)).mono ?_
  rintro e w1 ⟨rfl, rfl⟩
  refine hK.out _ _ (S2_alloc hHeld _) (fun hHeld => ?_)
  clear hK K
  try simp only [Act.put, List.getElem_toArray, List.getElem_cons_zero, List.getElem_cons_succ, List.setIfInBounds_toArray, List.set_cons_zero, List.set_cons_succ]
  obtain ⟨q, hq⟩ : ∃ q, (wordsB n).length = q + 1 := ⟨(wordsB n).length - 1, by have := words_len n hn; omega⟩
  have hq3 : q ≤ 3 := by have := words_len n hn; omega
  rw [hq]
  have l1 : (1 : Int) ≤ (q : Int) + 1 := by omega
  refine wpAnyH_ready (rs := [6]) (by kernel_rfl) (by simp) (AllReadyH.cons rfl (fun K hK => ?_) AllReadyH.nil)
  go_simp
  refine hK.out _ _ ?_ (fun hHeld => ?_)
  · exact hHeld
  clear hK K
  try simp only [Act.put, List.getElem_toArray, List.getElem_cons_zero, List.getElem_cons_succ, List.setIfInBounds_toArray, List.set_cons_zero, List.set_cons_succ]
  refine wpAnyH_take (i := 7) (v := .int .i64 (q : Int)) rfl (by kernel_rfl) (by kernel_rfl) (by kernel_rfl) (fun _ _ _ h => h) (Or.inl ⟨by rfl, fun w hSw => by go_simp⟩) (by assumption) ?_
  try simp only [Act.put, List.getElem_toArray, List.getElem_cons_zero, List.getElem_cons_succ, List.setIfInBounds_toArray, List.set_cons_zero, List.set_cons_succ]
  refine wpAnyH_done (by kernel_rfl) ?_ _
  have HB3 : Hid _ := hHeld
  obtain ⟨AD, hAD⟩ : ∃ AD : Option Addr, (if q = 0 then some ⟨W1.heap.size + 1, 0, none⟩ else some ⟨W1.heap.size + 1, 1, none⟩) = AD := ⟨_, rfl⟩
  rw [hAD]
  have hAD1 : Hid (0 < q → AD = some ⟨W1.heap.size + 1, 1, none⟩) := by
    intro h
    rw [← hAD, if_neg (by omega)]
  clear hAD
  have HB4 : Hid (Box ((W1.alloc (.cells tabA 9)).alloc (.cells ((wordsB n).map Value.string).toArray 9)).drew (W1.heap.size + 1) ((wordsB n).map Value.string).toArray) := box_drew (Box.new1 _ _ _ _)
  have l0 : lims n 0 = (0, 0, 0, 0) := rfl
  clear hHeld
  go_wp2
  go_loopw [25] (fun i wr => ∃ k : Nat, k ≤ q ∧ i = .int .i64 (k : Int) ∧ Cls w [(w.heap.size, #[.int .i64 (n : Int), .int .i64 a, .int .i64 b, .int .i64 c])] wr ∧ wr.heap[w.heap.size + 2]? = some (.map (esM (lims n k)) 3) ∧ Box wr (W1.heap.size + 1) ((wordsB n).map Value.string).toArray) (fun i _ => 3 - (intOf i).toNat)
  case atStart => exact ⟨0, Nat.zero_le _, rfl, HB3.out.1, by rw [l0]; exact HB3.out.2, HB4.out⟩
  case round =>
    obtain ⟨k, hk, rfl, hcl, hmp, hbw⟩ := hrel
    clear HB3 HB4 l0 hS0
    by_cases hlt : k < q
    case neg =>
      have hkq : k = q := by omega
      subst hkq
      obtain ⟨⟨x1, x2, x3, x4⟩, hX⟩ : ∃ X, lims n k = X := ⟨_, rfl⟩
      have hF : fin n a b c = fin4 x1 x2 x3 x4 a b c := by
        unfold fin
        rw [show (wordsB n).length - 1 = k by omega, hX]
      rw [hX] at hmp
      have lA := look_old (P := Tryz.prog) (mty := 84) (w := wr) (r := w.heap.size + 1 + 1) (s := ⟨#[65]⟩) Tryz.underlying84 Tryz.underlying9 hmp rfl
      have lB := look_old (P := Tryz.prog) (mty := 84) (w := wr) (r := w.heap.size + 1 + 1) (s := ⟨#[66]⟩) Tryz.underlying84 Tryz.underlying9 hmp rfl
      have lC := look_old (P := Tryz.prog) (mty := 84) (w := wr) (r := w.heap.size + 1 + 1) (s := ⟨#[67]⟩) Tryz.underlying84 Tryz.underlying9 hmp rfl
      have q0 := (hC0 _ hcl).cell
      have e0 := ix0
      have e1 := ix1
      have HF : Hid (fin n a b c = fin4 x1 x2 x3 x4 a b c) := hF
      have hB := hcl.1
      clear hF hmp hbw hcl hX hC0 hlt hq
      cases hoa : outB a 0 x1
      · cases hob : outB b 0 x2
        · cases hoc : outB c x3 x4
          · go_wp2_with (go_at_call 18; refine (ref_outside _ _ _ _).mono ?_; simp only [hoa, hob, hoc]; rintro e w9 ⟨rfl, rfl⟩)
            go_ret
            exact ⟨by rw [HF.out]; unfold fin4; rw [hoa, hob, hoc]; rfl, hB⟩
          · go_wp2_with (go_at_call 18; refine (ref_outside _ _ _ _).mono ?_; simp only [hoa, hob, hoc]; rintro e w9 ⟨rfl, rfl⟩)
            go_ret
            exact ⟨by rw [HF.out]; unfold fin4; rw [hoa, hob, hoc]; rfl, hB⟩
        · go_wp2_with (go_at_call 18; refine (ref_outside _ _ _ _).mono ?_; simp only [hoa, hob]; rintro e w9 ⟨rfl, rfl⟩)
          go_ret
          exact ⟨by rw [HF.out]; unfold fin4; rw [hoa, hob]; rfl, hB⟩
      · go_wp2_with (go_at_call 18; refine (ref_outside _ _ _ _).mono ?_; simp only [hoa]; rintro e w9 ⟨rfl, rfl⟩)
        go_ret
        exact ⟨by rw [HF.out]; unfold fin4; rw [hoa]; rfl, hB⟩
    have hA := hAD1.out (by omega)
    subst hA
    clear hAD1
    have zB : w.heap.size + 2 < wr.heap.size := (Array.getElem?_eq_some_iff.1 hmp).1
    have zW := hbw.lt
    have hst := lims_step n k (by omega)
    have hc : wr.cell? ⟨W1.heap.size + 1, 1 + k, none⟩ = some (.string ((wordsB n)[k + 1]'(by omega))) := by
      rw [hbw.cell, Nat.add_comm 1 k]
      simp [show k + 1 < (wordsB n).length by omega]
    have kI : (k : Int) < (q : Int) := by omega
    have zN : ¬ W1.heap.size + 1 = w.heap.size + 2 := by omega
    rcases word_kind n hn k (by omega) (by omega) with hx | hx | hx | hx | hx | hx | hx
    · rw [hx] at hc
      rw [hx] at hst
      clear hx
      obtain ⟨w1, ju, hm1, hg1⟩ := updA (r := w.heap.size + 1 + 1) hmp 7
      have HX : Hid (Cls w [(w.heap.size, #[.int .i64 (n : Int), .int .i64 a, .int .i64 b, .int .i64 c])] w1 ∧ w1.heap[w.heap.size + 2]? = some (.map (esM (lims n (k + 1))) 3) ∧ Box w1 (W1.heap.size + 1) ((wordsB n).map Value.string).toArray) := ⟨cls_grown hcl hg1, by rw [hst]; exact hm1, hbw.grown hg1 (fun e => by have := Option.some.inj e; omega)⟩
      clear hmp hm1 hg1 hcl hbw hst zB
      go_wp2
      go_roundw
      case rel => exact ⟨k + 1, by omega, by go_num, HX.out.1, HX.out.2.1, HX.out.2.2⟩
      case measure => simp [intOf]; omega
    · rw [hx] at hc
      rw [hx] at hst
      clear hx
      obtain ⟨w1, ju, hm1, hg1⟩ := updB (r := w.heap.size + 1 + 1) hmp 7
      have HX : Hid (Cls w [(w.heap.size, #[.int .i64 (n : Int), .int .i64 a, .int .i64 b, .int .i64 c])] w1 ∧ w1.heap[w.heap.size + 2]? = some (.map (esM (lims n (k + 1))) 3) ∧ Box w1 (W1.heap.size + 1) ((wordsB n).map Value.string).toArray) := ⟨cls_grown hcl hg1, by rw [hst]; exact hm1, hbw.grown hg1 (fun e => by have := Option.some.inj e; omega)⟩
      clear hmp hm1 hg1 hcl hbw hst zB
      go_wp2
      go_roundw
      case rel => exact ⟨k + 1, by omega, by go_num, HX.out.1, HX.out.2.1, HX.out.2.2⟩
      case measure => simp [intOf]; omega
    · rw [hx] at hc
      rw [hx] at hst
      clear hx
      have j0 := ins_last (P := Tryz.prog) (mty := 84) wr #[] 0 ⟨#[110]⟩ (.agg #[.int .i64 (-2048), .int .i64 2047]) Tryz.underlying84 Tryz.underlying9 rfl
      have j1 := ins_last (P := Tryz.prog) (mty := 84) wr #[{ key := .string ⟨#[110]⟩, val := .agg #[.int .i64 (-2048), .int .i64 2047], born := 0 }] 1 ⟨#[114]⟩ (.agg #[.int .i64 0, .int .i64 7]) Tryz.underlying84 Tryz.underlying9 rfl
      have j2 := ins_last (P := Tryz.prog) (mty := 84) wr #[{ key := .string ⟨#[110]⟩, val := .agg #[.int .i64 (-2048), .int .i64 2047], born := 0 }, { key := .string ⟨#[114]⟩, val := .agg #[.int .i64 0, .int .i64 7], born := 1 }] 2 ⟨#[112]⟩ (.agg #[.int .i64 0, .int .i64 127]) Tryz.underlying84 Tryz.underlying9 rfl
      have j3 := ins_last (P := Tryz.prog) (mty := 84) wr #[{ key := .string ⟨#[110]⟩, val := .agg #[.int .i64 (-2048), .int .i64 2047], born := 0 }, { key := .string ⟨#[114]⟩, val := .agg #[.int .i64 0, .int .i64 7], born := 1 }, { key := .string ⟨#[112]⟩, val := .agg #[.int .i64 0, .int .i64 127], born := 2 }] 3 ⟨#[113]⟩ (.agg #[.int .i64 0, .int .i64 5]) Tryz.underlying84 Tryz.underlying9 rfl
      have j4 := ins_last (P := Tryz.prog) (mty := 84) wr #[{ key := .string ⟨#[110]⟩, val := .agg #[.int .i64 (-2048), .int .i64 2047], born := 0 }, { key := .string ⟨#[114]⟩, val := .agg #[.int .i64 0, .int .i64 7], born := 1 }, { key := .string ⟨#[112]⟩, val := .agg #[.int .i64 0, .int .i64 127], born := 2 }, { key := .string ⟨#[113]⟩, val := .agg #[.int .i64 0, .int .i64 5], born := 3 }] 4 ⟨#[109]⟩ (.agg #[.int .i64 0, .int .i64 255]) Tryz.underlying84 Tryz.underlying9 rfl
      have jl := look_old (P := Tryz.prog) (mty := 84) (w := wr.alloc (.map #[{ key := .string ⟨#[110]⟩, val := .agg #[.int .i64 (-2048), .int .i64 2047], born := 0 }, { key := .string ⟨#[114]⟩, val := .agg #[.int .i64 0, .int .i64 7], born := 1 }, { key := .string ⟨#[112]⟩, val := .agg #[.int .i64 0, .int .i64 127], born := 2 }, { key := .string ⟨#[113]⟩, val := .agg #[.int .i64 0, .int .i64 5], born := 3 }, { key := .string ⟨#[109]⟩, val := .agg #[.int .i64 0, .int .i64 255], born := 4 }] 5)) (r := wr.heap.size) (s := ⟨#[110]⟩) Tryz.underlying84 Tryz.underlying9 (heap_alloc_new wr _) rfl
      simp only [List.push_toArray, List.cons_append, List.nil_append] at j0 j1 j2 j3 j4
      obtain ⟨w1, ju, hm1, hg1⟩ := updC (w := wr.alloc (.map #[{ key := .string ⟨#[110]⟩, val := .agg #[.int .i64 (-2048), .int .i64 2047], born := 0 }, { key := .string ⟨#[114]⟩, val := .agg #[.int .i64 0, .int .i64 7], born := 1 }, { key := .string ⟨#[112]⟩, val := .agg #[.int .i64 0, .int .i64 127], born := 2 }, { key := .string ⟨#[113]⟩, val := .agg #[.int .i64 0, .int .i64 5], born := 3 }, { key := .string ⟨#[109]⟩, val := .agg #[.int .i64 0, .int .i64 255], born := 4 }] 5)) (r := w.heap.size + 1 + 1) (by rw [Below.heap_alloc _ _ _ zB]; exact hmp) (-2048) 2047
      have HX : Hid (Cls w [(w.heap.size, #[.int .i64 (n : Int), .int .i64 a, .int .i64 b, .int .i64 c])] w1 ∧ w1.heap[w.heap.size + 2]? = some (.map (esM (lims n (k + 1))) 3) ∧ Box w1 (W1.heap.size + 1) ((wordsB n).map Value.string).toArray) := ⟨cls_grown (hcl.step ((Below.refl _ _).alloc (Nat.le_refl _) _)) hg1, by rw [hst]; exact hm1, (hbw.alloc _).grown hg1 (fun e => by have := Option.some.inj e; omega)⟩
      clear hmp hm1 hg1 hcl hbw hst zB
      go_wp2
      go_roundw
      case rel => exact ⟨k + 1, by omega, by go_num, HX.out.1, HX.out.2.1, HX.out.2.2⟩
      case measure => simp [intOf]; omega
    · rw [hx] at hc
      rw [hx] at hst
      clear hx
      have j0 := ins_last (P := Tryz.prog) (mty := 84) wr #[] 0 ⟨#[110]⟩ (.agg #[.int .i64 (-2048), .int .i64 2047]) Tryz.underlying84 Tryz.underlying9 rfl
      have j1 := ins_last (P := Tryz.prog) (mty := 84) wr #[{ key := .string ⟨#[110]⟩, val := .agg #[.int .i64 (-2048), .int .i64 2047], born := 0 }] 1 ⟨#[114]⟩ (.agg #[.int .i64 0, .int .i64 7]) Tryz.underlying84 Tryz.underlying9 rfl
      have j2 := ins_last (P := Tryz.prog) (mty := 84) wr #[{ key := .string ⟨#[110]⟩, val := .agg #[.int .i64 (-2048), .int .i64 2047], born := 0 }, { key := .string ⟨#[114]⟩, val := .agg #[.int .i64 0, .int .i64 7], born := 1 }] 2 ⟨#[112]⟩ (.agg #[.int .i64 0, .int .i64 127]) Tryz.underlying84 Tryz.underlying9 rfl
      have j3 := ins_last (P := Tryz.prog) (mty := 84) wr #[{ key := .string ⟨#[110]⟩, val := .agg #[.int .i64 (-2048), .int .i64 2047], born := 0 }, { key := .string ⟨#[114]⟩, val := .agg #[.int .i64 0, .int .i64 7], born := 1 }, { key := .string ⟨#[112]⟩, val := .agg #[.int .i64 0, .int .i64 127], born := 2 }] 3 ⟨#[113]⟩ (.agg #[.int .i64 0, .int .i64 5]) Tryz.underlying84 Tryz.underlying9 rfl
      have j4 := ins_last (P := Tryz.prog) (mty := 84) wr #[{ key := .string ⟨#[110]⟩, val := .agg #[.int .i64 (-2048), .int .i64 2047], born := 0 }, { key := .string ⟨#[114]⟩, val := .agg #[.int .i64 0, .int .i64 7], born := 1 }, { key := .string ⟨#[112]⟩, val := .agg #[.int .i64 0, .int .i64 127], born := 2 }, { key := .string ⟨#[113]⟩, val := .agg #[.int .i64 0, .int .i64 5], born := 3 }] 4 ⟨#[109]⟩ (.agg #[.int .i64 0, .int .i64 255]) Tryz.underlying84 Tryz.underlying9 rfl
      have jl := look_old (P := Tryz.prog) (mty := 84) (w := wr.alloc (.map #[{ key := .string ⟨#[110]⟩, val := .agg #[.int .i64 (-2048), .int .i64 2047], born := 0 }, { key := .string ⟨#[114]⟩, val := .agg #[.int .i64 0, .int .i64 7], born := 1 }, { key := .string ⟨#[112]⟩, val := .agg #[.int .i64 0, .int .i64 127], born := 2 }, { key := .string ⟨#[113]⟩, val := .agg #[.int .i64 0, .int .i64 5], born := 3 }, { key := .string ⟨#[109]⟩, val := .agg #[.int .i64 0, .int .i64 255], born := 4 }] 5)) (r := wr.heap.size) (s := ⟨#[114]⟩) Tryz.underlying84 Tryz.underlying9 (heap_alloc_new wr _) rfl
      simp only [List.push_toArray, List.cons_append, List.nil_append] at j0 j1 j2 j3 j4
      obtain ⟨w1, ju, hm1, hg1⟩ := updC (w := wr.alloc (.map #[{ key := .string ⟨#[110]⟩, val := .agg #[.int .i64 (-2048), .int .i64 2047], born := 0 }, { key := .string ⟨#[114]⟩, val := .agg #[.int .i64 0, .int .i64 7], born := 1 }, { key := .string ⟨#[112]⟩, val := .agg #[.int .i64 0, .int .i64 127], born := 2 }, { key := .string ⟨#[113]⟩, val := .agg #[.int .i64 0, .int .i64 5], born := 3 }, { key := .string ⟨#[109]⟩, val := .agg #[.int .i64 0, .int .i64 255], born := 4 }] 5)) (r := w.heap.size + 1 + 1) (by rw [Below.heap_alloc _ _ _ zB]; exact hmp) 0 7
      have HX : Hid (Cls w [(w.heap.size, #[.int .i64 (n : Int), .int .i64 a, .int .i64 b, .int .i64 c])] w1 ∧ w1.heap[w.heap.size + 2]? = some (.map (esM (lims n (k + 1))) 3) ∧ Box w1 (W1.heap.size + 1) ((wordsB n).map Value.string).toArray) := ⟨cls_grown (hcl.step ((Below.refl _ _).alloc (Nat.le_refl _) _)) hg1, by rw [hst]; exact hm1, (hbw.alloc _).grown hg1 (fun e => by have := Option.some.inj e; omega)⟩
      clear hmp hm1 hg1 hcl hbw hst zB
      go_wp2
      go_roundw
      case rel => exact ⟨k + 1, by omega, by go_num, HX.out.1, HX.out.2.1, HX.out.2.2⟩
      case measure => simp [intOf]; omega
    · rw [hx] at hc
      rw [hx] at hst
      clear hx
      have j0 := ins_last (P := Tryz.prog) (mty := 84) wr #[] 0 ⟨#[110]⟩ (.agg #[.int .i64 (-2048), .int .i64 2047]) Tryz.underlying84 Tryz.underlying9 rfl
      have j1 := ins_last (P := Tryz.prog) (mty := 84) wr #[{ key := .string ⟨#[110]⟩, val := .agg #[.int .i64 (-2048), .int .i64 2047], born := 0 }] 1 ⟨#[114]⟩ (.agg #[.int .i64 0, .int .i64 7]) Tryz.underlying84 Tryz.underlying9 rfl
      have j2 := ins_last (P := Tryz.prog) (mty := 84) wr #[{ key := .string ⟨#[110]⟩, val := .agg #[.int .i64 (-2048), .int .i64 2047], born := 0 }, { key := .string ⟨#[114]⟩, val := .agg #[.int .i64 0, .int .i64 7], born := 1 }] 2 ⟨#[112]⟩ (.agg #[.int .i64 0, .int .i64 127]) Tryz.underlying84 Tryz.underlying9 rfl
      have j3 := ins_last (P := Tryz.prog) (mty := 84) wr #[{ key := .string ⟨#[110]⟩, val := .agg #[.int .i64 (-2048), .int .i64 2047], born := 0 }, { key := .string ⟨#[114]⟩, val := .agg #[.int .i64 0, .int .i64 7], born := 1 }, { key := .string ⟨#[112]⟩, val := .agg #[.int .i64 0, .int .i64 127], born := 2 }] 3 ⟨#[113]⟩ (.agg #[.int .i64 0, .int .i64 5]) Tryz.underlying84 Tryz.underlying9 rfl
      have j4 := ins_last (P := Tryz.prog) (mty := 84) wr #[{ key := .string ⟨#[110]⟩, val := .agg #[.int .i64 (-2048), .int .i64 2047], born := 0 }, { key := .string ⟨#[114]⟩, val := .agg #[.int .i64 0, .int .i64 7], born := 1 }, { key := .string ⟨#[112]⟩, val := .agg #[.int .i64 0, .int .i64 127], born := 2 }, { key := .string ⟨#[113]⟩, val := .agg #[.int .i64 0, .int .i64 5], born := 3 }] 4 ⟨#[109]⟩ (.agg #[.int .i64 0, .int .i64 255]) Tryz.underlying84 Tryz.underlying9 rfl
      have jl := look_old (P := Tryz.prog) (mty := 84) (w := wr.alloc (.map #[{ key := .string ⟨#[110]⟩, val := .agg #[.int .i64 (-2048), .int .i64 2047], born := 0 }, { key := .string ⟨#[114]⟩, val := .agg #[.int .i64 0, .int .i64 7], born := 1 }, { key := .string ⟨#[112]⟩, val := .agg #[.int .i64 0, .int .i64 127], born := 2 }, { key := .string ⟨#[113]⟩, val := .agg #[.int .i64 0, .int .i64 5], born := 3 }, { key := .string ⟨#[109]⟩, val := .agg #[.int .i64 0, .int .i64 255], born := 4 }] 5)) (r := wr.heap.size) (s := ⟨#[112]⟩) Tryz.underlying84 Tryz.underlying9 (heap_alloc_new wr _) rfl
      simp only [List.push_toArray, List.cons_append, List.nil_append] at j0 j1 j2 j3 j4
      obtain ⟨w1, ju, hm1, hg1⟩ := updC (w := wr.alloc (.map #[{ key := .string ⟨#[110]⟩, val := .agg #[.int .i64 (-2048), .int .i64 2047], born := 0 }, { key := .string ⟨#[114]⟩, val := .agg #[.int .i64 0, .int .i64 7], born := 1 }, { key := .string ⟨#[112]⟩, val := .agg #[.int .i64 0, .int .i64 127], born := 2 }, { key := .string ⟨#[113]⟩, val := .agg #[.int .i64 0, .int .i64 5], born := 3 }, { key := .string ⟨#[109]⟩, val := .agg #[.int .i64 0, .int .i64 255], born := 4 }] 5)) (r := w.heap.size + 1 + 1) (by rw [Below.heap_alloc _ _ _ zB]; exact hmp) 0 127
      have HX : Hid (Cls w [(w.heap.size, #[.int .i64 (n : Int), .int .i64 a, .int .i64 b, .int .i64 c])] w1 ∧ w1.heap[w.heap.size + 2]? = some (.map (esM (lims n (k + 1))) 3) ∧ Box w1 (W1.heap.size + 1) ((wordsB n).map Value.string).toArray) := ⟨cls_grown (hcl.step ((Below.refl _ _).alloc (Nat.le_refl _) _)) hg1, by rw [hst]; exact hm1, (hbw.alloc _).grown hg1 (fun e => by have := Option.some.inj e; omega)⟩
      clear hmp hm1 hg1 hcl hbw hst zB
      go_wp2
      go_roundw
      case rel => exact ⟨k + 1, by omega, by go_num, HX.out.1, HX.out.2.1, HX.out.2.2⟩
      case measure => simp [intOf]; omega
    · rw [hx] at hc
      rw [hx] at hst
      clear hx
      have j0 := ins_last (P := Tryz.prog) (mty := 84) wr #[] 0 ⟨#[110]⟩ (.agg #[.int .i64 (-2048), .int .i64 2047]) Tryz.underlying84 Tryz.underlying9 rfl
      have j1 := ins_last (P := Tryz.prog) (mty := 84) wr #[{ key := .string ⟨#[110]⟩, val := .agg #[.int .i64 (-2048), .int .i64 2047], born := 0 }] 1 ⟨#[114]⟩ (.agg #[.int .i64 0, .int .i64 7]) Tryz.underlying84 Tryz.underlying9 rfl
      have j2 := ins_last (P := Tryz.prog) (mty := 84) wr #[{ key := .string ⟨#[110]⟩, val := .agg #[.int .i64 (-2048), .int .i64 2047], born := 0 }, { key := .string ⟨#[114]⟩, val := .agg #[.int .i64 0, .int .i64 7], born := 1 }] 2 ⟨#[112]⟩ (.agg #[.int .i64 0, .int .i64 127]) Tryz.underlying84 Tryz.underlying9 rfl
      have j3 := ins_last (P := Tryz.prog) (mty := 84) wr #[{ key := .string ⟨#[110]⟩, val := .agg #[.int .i64 (-2048), .int .i64 2047], born := 0 }, { key := .string ⟨#[114]⟩, val := .agg #[.int .i64 0, .int .i64 7], born := 1 }, { key := .string ⟨#[112]⟩, val := .agg #[.int .i64 0, .int .i64 127], born := 2 }] 3 ⟨#[113]⟩ (.agg #[.int .i64 0, .int .i64 5]) Tryz.underlying84 Tryz.underlying9 rfl
      have j4 := ins_last (P := Tryz.prog) (mty := 84) wr #[{ key := .string ⟨#[110]⟩, val := .agg #[.int .i64 (-2048), .int .i64 2047], born := 0 }, { key := .string ⟨#[114]⟩, val := .agg #[.int .i64 0, .int .i64 7], born := 1 }, { key := .string ⟨#[112]⟩, val := .agg #[.int .i64 0, .int .i64 127], born := 2 }, { key := .string ⟨#[113]⟩, val := .agg #[.int .i64 0, .int .i64 5], born := 3 }] 4 ⟨#[109]⟩ (.agg #[.int .i64 0, .int .i64 255]) Tryz.underlying84 Tryz.underlying9 rfl
      have jl := look_old (P := Tryz.prog) (mty := 84) (w := wr.alloc (.map #[{ key := .string ⟨#[110]⟩, val := .agg #[.int .i64 (-2048), .int .i64 2047], born := 0 }, { key := .string ⟨#[114]⟩, val := .agg #[.int .i64 0, .int .i64 7], born := 1 }, { key := .string ⟨#[112]⟩, val := .agg #[.int .i64 0, .int .i64 127], born := 2 }, { key := .string ⟨#[113]⟩, val := .agg #[.int .i64 0, .int .i64 5], born := 3 }, { key := .string ⟨#[109]⟩, val := .agg #[.int .i64 0, .int .i64 255], born := 4 }] 5)) (r := wr.heap.size) (s := ⟨#[113]⟩) Tryz.underlying84 Tryz.underlying9 (heap_alloc_new wr _) rfl
      simp only [List.push_toArray, List.cons_append, List.nil_append] at j0 j1 j2 j3 j4
      obtain ⟨w1, ju, hm1, hg1⟩ := updC (w := wr.alloc (.map #[{ key := .string ⟨#[110]⟩, val := .agg #[.int .i64 (-2048), .int .i64 2047], born := 0 }, { key := .string ⟨#[114]⟩, val := .agg #[.int .i64 0, .int .i64 7], born := 1 }, { key := .string ⟨#[112]⟩, val := .agg #[.int .i64 0, .int .i64 127], born := 2 }, { key := .string ⟨#[113]⟩, val := .agg #[.int .i64 0, .int .i64 5], born := 3 }, { key := .string ⟨#[109]⟩, val := .agg #[.int .i64 0, .int .i64 255], born := 4 }] 5)) (r := w.heap.size + 1 + 1) (by rw [Below.heap_alloc _ _ _ zB]; exact hmp) 0 5
      have HX : Hid (Cls w [(w.heap.size, #[.int .i64 (n : Int), .int .i64 a, .int .i64 b, .int .i64 c])] w1 ∧ w1.heap[w.heap.size + 2]? = some (.map (esM (lims n (k + 1))) 3) ∧ Box w1 (W1.heap.size + 1) ((wordsB n).map Value.string).toArray) := ⟨cls_grown (hcl.step ((Below.refl _ _).alloc (Nat.le_refl _) _)) hg1, by rw [hst]; exact hm1, (hbw.alloc _).grown hg1 (fun e => by have := Option.some.inj e; omega)⟩
      clear hmp hm1 hg1 hcl hbw hst zB
      go_wp2
      go_roundw
      case rel => exact ⟨k + 1, by omega, by go_num, HX.out.1, HX.out.2.1, HX.out.2.2⟩
      case measure => simp [intOf]; omega
    · rw [hx] at hc
      rw [hx] at hst
      clear hx
      have j0 := ins_last (P := Tryz.prog) (mty := 84) wr #[] 0 ⟨#[110]⟩ (.agg #[.int .i64 (-2048), .int .i64 2047]) Tryz.underlying84 Tryz.underlying9 rfl
      have j1 := ins_last (P := Tryz.prog) (mty := 84) wr #[{ key := .string ⟨#[110]⟩, val := .agg #[.int .i64 (-2048), .int .i64 2047], born := 0 }] 1 ⟨#[114]⟩ (.agg #[.int .i64 0, .int .i64 7]) Tryz.underlying84 Tryz.underlying9 rfl
      have j2 := ins_last (P := Tryz.prog) (mty := 84) wr #[{ key := .string ⟨#[110]⟩, val := .agg #[.int .i64 (-2048), .int .i64 2047], born := 0 }, { key := .string ⟨#[114]⟩, val := .agg #[.int .i64 0, .int .i64 7], born := 1 }] 2 ⟨#[112]⟩ (.agg #[.int .i64 0, .int .i64 127]) Tryz.underlying84 Tryz.underlying9 rfl
      have j3 := ins_last (P := Tryz.prog) (mty := 84) wr #[{ key := .string ⟨#[110]⟩, val := .agg #[.int .i64 (-2048), .int .i64 2047], born := 0 }, { key := .string ⟨#[114]⟩, val := .agg #[.int .i64 0, .int .i64 7], born := 1 }, { key := .string ⟨#[112]⟩, val := .agg #[.int .i64 0, .int .i64 127], born := 2 }] 3 ⟨#[113]⟩ (.agg #[.int .i64 0, .int .i64 5]) Tryz.underlying84 Tryz.underlying9 rfl
      have j4 := ins_last (P := Tryz.prog) (mty := 84) wr #[{ key := .string ⟨#[110]⟩, val := .agg #[.int .i64 (-2048), .int .i64 2047], born := 0 }, { key := .string ⟨#[114]⟩, val := .agg #[.int .i64 0, .int .i64 7], born := 1 }, { key := .string ⟨#[112]⟩, val := .agg #[.int .i64 0, .int .i64 127], born := 2 }, { key := .string ⟨#[113]⟩, val := .agg #[.int .i64 0, .int .i64 5], born := 3 }] 4 ⟨#[109]⟩ (.agg #[.int .i64 0, .int .i64 255]) Tryz.underlying84 Tryz.underlying9 rfl
      have jl := look_old (P := Tryz.prog) (mty := 84) (w := wr.alloc (.map #[{ key := .string ⟨#[110]⟩, val := .agg #[.int .i64 (-2048), .int .i64 2047], born := 0 }, { key := .string ⟨#[114]⟩, val := .agg #[.int .i64 0, .int .i64 7], born := 1 }, { key := .string ⟨#[112]⟩, val := .agg #[.int .i64 0, .int .i64 127], born := 2 }, { key := .string ⟨#[113]⟩, val := .agg #[.int .i64 0, .int .i64 5], born := 3 }, { key := .string ⟨#[109]⟩, val := .agg #[.int .i64 0, .int .i64 255], born := 4 }] 5)) (r := wr.heap.size) (s := ⟨#[109]⟩) Tryz.underlying84 Tryz.underlying9 (heap_alloc_new wr _) rfl
      simp only [List.push_toArray, List.cons_append, List.nil_append] at j0 j1 j2 j3 j4
      obtain ⟨w1, ju, hm1, hg1⟩ := updC (w := wr.alloc (.map #[{ key := .string ⟨#[110]⟩, val := .agg #[.int .i64 (-2048), .int .i64 2047], born := 0 }, { key := .string ⟨#[114]⟩, val := .agg #[.int .i64 0, .int .i64 7], born := 1 }, { key := .string ⟨#[112]⟩, val := .agg #[.int .i64 0, .int .i64 127], born := 2 }, { key := .string ⟨#[113]⟩, val := .agg #[.int .i64 0, .int .i64 5], born := 3 }, { key := .string ⟨#[109]⟩, val := .agg #[.int .i64 0, .int .i64 255], born := 4 }] 5)) (r := w.heap.size + 1 + 1) (by rw [Below.heap_alloc _ _ _ zB]; exact hmp) 0 255
      have HX : Hid (Cls w [(w.heap.size, #[.int .i64 (n : Int), .int .i64 a, .int .i64 b, .int .i64 c])] w1 ∧ w1.heap[w.heap.size + 2]? = some (.map (esM (lims n (k + 1))) 3) ∧ Box w1 (W1.heap.size + 1) ((wordsB n).map Value.string).toArray) := ⟨cls_grown (hcl.step ((Below.refl _ _).alloc (Nat.le_refl _) _)) hg1, by rw [hst]; exact hm1, (hbw.alloc _).grown hg1 (fun e => by have := Option.some.inj e; omega)⟩
      clear hmp hm1 hg1 hcl hbw hst zB
      go_wp2
      go_roundw
      case rel => exact ⟨k + 1, by omega, by go_num, HX.out.1, HX.out.2.1, HX.out.2.2⟩
      case measure => simp [intOf]; omega
end Go.Proofs.YtfafkijcejbcpaaGreatDoor
