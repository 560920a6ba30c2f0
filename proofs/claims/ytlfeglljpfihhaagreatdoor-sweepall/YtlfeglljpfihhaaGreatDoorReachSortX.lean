/- package reach: how two keys are ordered. -/
import Derived.Test.YtlfeglljpfihhaaGreatDoorRows
import Derived.Test.YtlfeglljpfihhaaGreatDoorCardBaseX
import Derived.Test.YtlfeglljpfihhaaGreatDoorValArgX
import Derived.Test.YtlfeglljpfihhaaGreatDoorCellChkX
import Derived.Test.YtlfeglljpfihhaaGreatDoorMemPureX
import Derived.Test.YtlfeglljpfihhaaGreatDoorStepRowX
import Derived.Test.YtlfeglljpfihhaaGreatDoorStepChkX
import Derived.Test.YtlfeglljpfihhaaGreatDoorSweepPureX
import Derived.Test.YtlfeglljpfihhaaGreatDoorRunTopX
import Derived.Test.YtlfeglljpfihhaaGreatDoorReachAddX
import Derived.Test.YtlfeglljpfihhaaGreatDoorReachFindX
import Derived.Test.YtlfeglljpfihhaaGreatDoorShelfX
import Derived.WalkKit
import Derived.ProofKit
import Derived.OpenShut
import Derived.OwnWalk
import Derived.Maps.OwnOps
import Derived.Deep.MidRow
import Derived.Deep.CutBlock
import Derived.Deep.RegionHeld3
namespace Go.Proofs.YtlfeglljpfihhaaGreatDoor
open Go.ChangeShapes Go.WideShapes Go.ChangeAt Go.RowKit
set_option linter.unusedSimpArgs false
set_option linter.unusedVariables false
set_option maxRecDepth 100000


open Go.Shelf Go.Lib Go.Sort
theorem compare_int (x y : Int) (W : World) : Calls Tryz.prog 32 #[.int .i64 x, .int .i64 y] W fun e w' => e = .returned (.int .i64 (Lib.compareInt x y)) ∧ w' = W := by
  have h := AnyG.cmp_Compare_int Tryz.laysSlC25_f32 x y W
  exact h
/-- The first that is not nought. -/
def orL : List Int → Int
  | [] => 0
  | x :: xs => if x = 0 then orL xs else x
set_option maxHeartbeats 1000000 in
theorem or_int (a : Option Addr) (c : Nat) (ns : List Int) (w : World) (hA : NumsAt w a ns) (hl : ns.length ≤ 100) :
    Calls Tryz.prog 31 #[.slice a ns.length c] w fun e w' => e = .returned (.int .i64 (orL ns)) ∧ w' = w := by
  obtain ⟨R, hR⟩ : ∃ R, orL ns = R := ⟨_, rfl⟩
  rw [hR]
  have HR : Hid (orL ns = R) := hR
  clear hR
  go_enter Tryz.func31, Tryz.ntmps31
  go_wp2
  go_loop [8] (fun i => ∃ k : Nat, k ≤ ns.length ∧ i = .int .i64 (k : Int) ∧ orL (ns.drop k) = R) (fun i => ns.length - (intOf i).toNat)
  case atStart => exact ⟨0, Nat.zero_le _, rfl, HR.out⟩
  case round =>
    obtain ⟨k, hk, rfl, hs⟩ := hrel
    by_cases hlt : k < ns.length
    · have gk : (k : Int) < (ns.length : Int) := by omega
      have hw1 : IntKind.i64.wrap ((k : Int) + 1) = (k : Int) + 1 := by rw [IntKind.wrap_i64]; omega
      obtain ⟨n, hn⟩ : ∃ n, ns[k]? = some n := ⟨_, List.getElem?_eq_getElem hlt⟩
      obtain ⟨B, off, rfl, hBl, c0⟩ := hA.at hn
      rw [drop_one hn, orL] at hs
      by_cases h0 : n = 0
      · rw [if_pos h0] at hs
        have HS : Hid (orL (ns.drop (k + 1)) = R) := hs
        have g0 : (n != 0) = false := by simpa using h0
        clear hs hn HR hA
        go_wp2
        go_round
        case rel => exact ⟨k + 1, by omega, by go_num, HS.out⟩
        case measure => simp [intOf]; omega
      · rw [if_neg h0] at hs
        subst hs
        have g0 : (n != 0) = true := by simpa using h0
        clear hn HR hA
        go_wp2
        go_ret
        exact ⟨rfl, rfl⟩
    · obtain rfl : k = ns.length := by omega
      have gk : ¬ (ns.length : Int) < (ns.length : Int) := by omega
      rw [List.drop_length] at hs
      have hs' : R = 0 := hs.symm
      subst hs'
      clear hs HR
      go_wp2
      go_ret
      exact ⟨rfl, rfl⟩
/-- How two keys are ordered: by their place, then how long, what is allowed, the seal, where it stands. -/
def cmp5 (a b : K5) : Int := orL [Lib.compareInt a.b b.b, Lib.compareInt a.l b.l, Lib.compareInt a.p b.p, Lib.compareInt a.s b.s, Lib.compareInt a.a b.a]
theorem or_lt (x y : Int) (r : List Int) : orL (Lib.compareInt x y :: r) < 0 ↔ x < y ∨ (x = y ∧ orL r < 0) := by
  rw [show orL (Lib.compareInt x y :: r) = if Lib.compareInt x y = 0 then orL r else Lib.compareInt x y from rfl]
  unfold Lib.compareInt
  by_cases h1 : x < y
  · simp [h1]
  · by_cases h2 : y < x
    · simp [h1, h2]; omega
    · have h3 : x = y := by omega
      simp [h3]
theorem cmp5_lt (a b : K5) : cmp5 a b < 0 ↔ a.b < b.b ∨ (a.b = b.b ∧ (a.l < b.l ∨ (a.l = b.l ∧ (a.p < b.p ∨ (a.p = b.p ∧ (a.s < b.s ∨ (a.s = b.s ∧ a.a < b.a))))))) := by
  unfold cmp5
  rw [or_lt, or_lt, or_lt, or_lt, or_lt]
  have : ¬ orL [] < 0 := by decide
  simp [this]
theorem lt5 (a b : K5) : ltOf cmp5 a b = decide (cmp5 a b < 0) := rfl
theorem swo5 : SWO (ltOf cmp5) where
  irrefl x := by rw [lt5]; simp only [decide_eq_false_iff_not, cmp5_lt]; omega
  trans x y z h1 h2 := by rw [lt5] at *; simp only [decide_eq_true_iff, cmp5_lt] at *; omega
  ntrans x y z h1 h2 := by rw [lt5] at *; simp only [decide_eq_false_iff_not, cmp5_lt] at *; omega
theorem cmp5_one {a b : K5} (h1 : ¬ cmp5 a b < 0) (h2 : ¬ cmp5 b a < 0) : a = b := by
  rw [cmp5_lt] at h1 h2
  obtain ⟨p, b1, l, q, s⟩ := a
  obtain ⟨p', b2, l', q', s'⟩ := b
  simp only at h1 h2
  simp only [K5.mk.injEq]
  omega
set_option maxHeartbeats 4000000 in
theorem reach_compare (a b : K5) (w : World) :
    Calls Tryz.prog 16 #[kV5 a, kV5 b] w fun e w' => e = .returned (.int .i64 (cmp5 a b)) ∧ ∃ q os', w' = grow (w.drewN q) os' := by
  have cb := fun W => compare_int a.b b.b W
  have cl := fun W => compare_int a.l b.l W
  have cp := fun W => compare_int a.p b.p W
  have cs := fun W => compare_int a.s b.s W
  have ca := fun W => compare_int a.a b.a W
  unfold cmp5 kV5
  generalize Lib.compareInt a.b b.b = rb at *
  generalize Lib.compareInt a.l b.l = rl at *
  generalize Lib.compareInt a.p b.p = rp at *
  generalize Lib.compareInt a.s b.s = rs at *
  generalize Lib.compareInt a.a b.a = ra at *
  obtain ⟨w0, hw0⟩ : ∃ w0, w0 = ((w.alloc (.cells #[.int .i64 a.p, .int .i64 a.b, .int .i64 a.l, .int .i64 a.a, .int .i64 a.s] 23)).alloc (.cells #[.int .i64 b.p, .int .i64 b.b, .int .i64 b.l, .int .i64 b.a, .int .i64 b.s] 23)) := ⟨_, rfl⟩
  have hS0 : Box w0.drew w.heap.size #[.int .i64 a.p, .int .i64 a.b, .int .i64 a.l, .int .i64 a.a, .int .i64 a.s] ∧ Box w0.drew (w.heap.size + 1) #[.int .i64 b.p, .int .i64 b.b, .int .i64 b.l, .int .i64 b.a, .int .i64 b.s] := by rw [hw0]; exact ⟨((Box.new _ _ _).alloc _).drew, (Box.new1 _ _ _ _).drew⟩
  have cO := or_int (some ⟨w0.drew.heap.size, 0, none⟩) 5 [rb, rl, rp, rs, ra] (w0.drew.alloc (.cells #[.int .i64 rb, .int .i64 rl, .int .i64 rp, .int .i64 rs, .int .i64 ra] 3)) (.inr ⟨_, 0, rfl, by simp, fun j u hj => by
    rw [Nat.zero_add, cell_new]
    rw [show [rb, rl, rp, rs, ra].map nmC = [.int .i64 rb, .int .i64 rl, .int .i64 rp, .int .i64 rs, .int .i64 ra] from rfl] at hj
    rw [List.getElem?_toArray]
    exact hj⟩) (by simp)
  have HW : Hid (∃ os', w0 = grow w os') := by
    show ∃ os', w0 = grow w os'
    rw [hw0, alloc_eq_grow, alloc_eq_grow, grow_grow]
    exact ⟨_, rfl⟩
  go_enter Tryz.func16, Tryz.ntmps16
  go_upto_region 1 with fail
  rw [← hw0]
  clear hw0
  refine wp_region_held_drew (S := fun w' => Box w' w.heap.size #[.int .i64 a.p, .int .i64 a.b, .int .i64 a.l, .int .i64 a.a, .int .i64 a.s] ∧ Box w' (w.heap.size + 1) #[.int .i64 b.p, .int .i64 b.b, .int .i64 b.l, .int .i64 b.a, .int .i64 b.s]) (by kernel_rfl) hS0 (fun hHeld => ?_)
  refine wpAnyH_take (i := 0) (v := ?_) rfl (by kernel_rfl) (by kernel_rfl) (by kernel_rfl) (fun _ _ _ h => h) (Or.inl ⟨by rfl, ?_⟩) (by assumption) ?_
  rotate_left 1
  · intro wz hSw; obtain ⟨⟨_, q1, _⟩, ⟨_, q2, _⟩⟩ := hSw; go_simp; try with_reducible rfl
  try simp only [Act.put, List.getElem_toArray, List.getElem_cons_zero, List.getElem_cons_succ, List.setIfInBounds_toArray, List.set_cons_zero, List.set_cons_succ]
  refine wpAnyH_take (i := 1) (v := ?_) rfl (by kernel_rfl) (by kernel_rfl) (by kernel_rfl) (fun _ _ _ h => h) (Or.inl ⟨by rfl, ?_⟩) (by assumption) ?_
  rotate_left 1
  · intro wz hSw; obtain ⟨⟨_, q1, _⟩, ⟨_, q2, _⟩⟩ := hSw; go_simp; try with_reducible rfl
  try simp only [Act.put, List.getElem_toArray, List.getElem_cons_zero, List.getElem_cons_succ, List.setIfInBounds_toArray, List.set_cons_zero, List.set_cons_succ]
  refine wpAnyH_take (i := 2) (v := ?_) rfl (by kernel_rfl) (by kernel_rfl) (by kernel_rfl) (fun _ _ _ h => h) (Or.inl ⟨by rfl, ?_⟩) (by assumption) ?_
  rotate_left 1
  · intro wz hSw; obtain ⟨⟨_, q1, _⟩, ⟨_, q2, _⟩⟩ := hSw; go_simp; try with_reducible rfl
  try simp only [Act.put, List.getElem_toArray, List.getElem_cons_zero, List.getElem_cons_succ, List.setIfInBounds_toArray, List.set_cons_zero, List.set_cons_succ]
  refine wpAnyH_take (i := 3) (v := ?_) rfl (by kernel_rfl) (by kernel_rfl) (by kernel_rfl) (fun _ _ _ h => h) (Or.inl ⟨by rfl, ?_⟩) (by assumption) ?_
  rotate_left 1
  · intro wz hSw; obtain ⟨⟨_, q1, _⟩, ⟨_, q2, _⟩⟩ := hSw; go_simp; try with_reducible rfl
  try simp only [Act.put, List.getElem_toArray, List.getElem_cons_zero, List.getElem_cons_succ, List.setIfInBounds_toArray, List.set_cons_zero, List.set_cons_succ]
  refine wpAnyH_take (i := 5) (v := ?_) rfl (by kernel_rfl) (by kernel_rfl) (by kernel_rfl) (fun _ _ _ h => h) (Or.inl ⟨by rfl, ?_⟩) (by assumption) ?_
  rotate_left 1
  · intro wz hSw; obtain ⟨⟨_, q1, _⟩, ⟨_, q2, _⟩⟩ := hSw; go_simp; try with_reducible rfl
  try simp only [Act.put, List.getElem_toArray, List.getElem_cons_zero, List.getElem_cons_succ, List.setIfInBounds_toArray, List.set_cons_zero, List.set_cons_succ]
  refine wpAnyH_take (i := 6) (v := ?_) rfl (by kernel_rfl) (by kernel_rfl) (by kernel_rfl) (fun _ _ _ h => h) (Or.inl ⟨by rfl, ?_⟩) (by assumption) ?_
  rotate_left 1
  · intro wz hSw; obtain ⟨⟨_, q1, _⟩, ⟨_, q2, _⟩⟩ := hSw; go_simp; try with_reducible rfl
  try simp only [Act.put, List.getElem_toArray, List.getElem_cons_zero, List.getElem_cons_succ, List.setIfInBounds_toArray, List.set_cons_zero, List.set_cons_succ]
  refine wpAnyH_take (i := 7) (v := ?_) rfl (by kernel_rfl) (by kernel_rfl) (by kernel_rfl) (fun _ _ _ h => h) (Or.inl ⟨by rfl, ?_⟩) (by assumption) ?_
  rotate_left 1
  · intro wz hSw; obtain ⟨⟨_, q1, _⟩, ⟨_, q2, _⟩⟩ := hSw; go_simp; try with_reducible rfl
  try simp only [Act.put, List.getElem_toArray, List.getElem_cons_zero, List.getElem_cons_succ, List.setIfInBounds_toArray, List.set_cons_zero, List.set_cons_succ]
  refine wpAnyH_take (i := 8) (v := ?_) rfl (by kernel_rfl) (by kernel_rfl) (by kernel_rfl) (fun _ _ _ h => h) (Or.inl ⟨by rfl, ?_⟩) (by assumption) ?_
  rotate_left 1
  · intro wz hSw; obtain ⟨⟨_, q1, _⟩, ⟨_, q2, _⟩⟩ := hSw; go_simp; try with_reducible rfl
  try simp only [Act.put, List.getElem_toArray, List.getElem_cons_zero, List.getElem_cons_succ, List.setIfInBounds_toArray, List.set_cons_zero, List.set_cons_succ]
  refine wpAnyH_take (i := 10) (v := ?_) rfl (by kernel_rfl) (by kernel_rfl) (by kernel_rfl) (fun _ _ _ h => h) (Or.inl ⟨by rfl, ?_⟩) (by assumption) ?_
  rotate_left 1
  · intro wz hSw; obtain ⟨⟨_, q1, _⟩, ⟨_, q2, _⟩⟩ := hSw; go_simp; try with_reducible rfl
  try simp only [Act.put, List.getElem_toArray, List.getElem_cons_zero, List.getElem_cons_succ, List.setIfInBounds_toArray, List.set_cons_zero, List.set_cons_succ]
  refine wpAnyH_take (i := 11) (v := ?_) rfl (by kernel_rfl) (by kernel_rfl) (by kernel_rfl) (fun _ _ _ h => h) (Or.inl ⟨by rfl, ?_⟩) (by assumption) ?_
  rotate_left 1
  · intro wz hSw; obtain ⟨⟨_, q1, _⟩, ⟨_, q2, _⟩⟩ := hSw; go_simp; try with_reducible rfl
  try simp only [Act.put, List.getElem_toArray, List.getElem_cons_zero, List.getElem_cons_succ, List.setIfInBounds_toArray, List.set_cons_zero, List.set_cons_succ]
  refine wpAnyH_take (i := 12) (v := ?_) rfl (by kernel_rfl) (by kernel_rfl) (by kernel_rfl) (fun _ _ _ h => h) (Or.inl ⟨by rfl, ?_⟩) (by assumption) ?_
  rotate_left 1
  · intro wz hSw; obtain ⟨⟨_, q1, _⟩, ⟨_, q2, _⟩⟩ := hSw; go_simp; try with_reducible rfl
  try simp only [Act.put, List.getElem_toArray, List.getElem_cons_zero, List.getElem_cons_succ, List.setIfInBounds_toArray, List.set_cons_zero, List.set_cons_succ]
  refine wpAnyH_take (i := 13) (v := ?_) rfl (by kernel_rfl) (by kernel_rfl) (by kernel_rfl) (fun _ _ _ h => h) (Or.inl ⟨by rfl, ?_⟩) (by assumption) ?_
  rotate_left 1
  · intro wz hSw; obtain ⟨⟨_, q1, _⟩, ⟨_, q2, _⟩⟩ := hSw; go_simp; try with_reducible rfl
  try simp only [Act.put, List.getElem_toArray, List.getElem_cons_zero, List.getElem_cons_succ, List.setIfInBounds_toArray, List.set_cons_zero, List.set_cons_succ]
  refine wpAnyH_take (i := 15) (v := ?_) rfl (by kernel_rfl) (by kernel_rfl) (by kernel_rfl) (fun _ _ _ h => h) (Or.inl ⟨by rfl, ?_⟩) (by assumption) ?_
  rotate_left 1
  · intro wz hSw; obtain ⟨⟨_, q1, _⟩, ⟨_, q2, _⟩⟩ := hSw; go_simp; try with_reducible rfl
  try simp only [Act.put, List.getElem_toArray, List.getElem_cons_zero, List.getElem_cons_succ, List.setIfInBounds_toArray, List.set_cons_zero, List.set_cons_succ]
  refine wpAnyH_take (i := 16) (v := ?_) rfl (by kernel_rfl) (by kernel_rfl) (by kernel_rfl) (fun _ _ _ h => h) (Or.inl ⟨by rfl, ?_⟩) (by assumption) ?_
  rotate_left 1
  · intro wz hSw; obtain ⟨⟨_, q1, _⟩, ⟨_, q2, _⟩⟩ := hSw; go_simp; try with_reducible rfl
  try simp only [Act.put, List.getElem_toArray, List.getElem_cons_zero, List.getElem_cons_succ, List.setIfInBounds_toArray, List.set_cons_zero, List.set_cons_succ]
  refine wpAnyH_take (i := 17) (v := ?_) rfl (by kernel_rfl) (by kernel_rfl) (by kernel_rfl) (fun _ _ _ h => h) (Or.inl ⟨by rfl, ?_⟩) (by assumption) ?_
  rotate_left 1
  · intro wz hSw; obtain ⟨⟨_, q1, _⟩, ⟨_, q2, _⟩⟩ := hSw; go_simp; try with_reducible rfl
  try simp only [Act.put, List.getElem_toArray, List.getElem_cons_zero, List.getElem_cons_succ, List.setIfInBounds_toArray, List.set_cons_zero, List.set_cons_succ]
  refine wpAnyH_take (i := 18) (v := ?_) rfl (by kernel_rfl) (by kernel_rfl) (by kernel_rfl) (fun _ _ _ h => h) (Or.inl ⟨by rfl, ?_⟩) (by assumption) ?_
  rotate_left 1
  · intro wz hSw; obtain ⟨⟨_, q1, _⟩, ⟨_, q2, _⟩⟩ := hSw; go_simp; try with_reducible rfl
  try simp only [Act.put, List.getElem_toArray, List.getElem_cons_zero, List.getElem_cons_succ, List.setIfInBounds_toArray, List.set_cons_zero, List.set_cons_succ]
  refine wpAnyH_take (i := 20) (v := ?_) rfl (by kernel_rfl) (by kernel_rfl) (by kernel_rfl) (fun _ _ _ h => h) (Or.inl ⟨by rfl, ?_⟩) (by assumption) ?_
  rotate_left 1
  · intro wz hSw; obtain ⟨⟨_, q1, _⟩, ⟨_, q2, _⟩⟩ := hSw; go_simp; try with_reducible rfl
  try simp only [Act.put, List.getElem_toArray, List.getElem_cons_zero, List.getElem_cons_succ, List.setIfInBounds_toArray, List.set_cons_zero, List.set_cons_succ]
  refine wpAnyH_take (i := 21) (v := ?_) rfl (by kernel_rfl) (by kernel_rfl) (by kernel_rfl) (fun _ _ _ h => h) (Or.inl ⟨by rfl, ?_⟩) (by assumption) ?_
  rotate_left 1
  · intro wz hSw; obtain ⟨⟨_, q1, _⟩, ⟨_, q2, _⟩⟩ := hSw; go_simp; try with_reducible rfl
  try simp only [Act.put, List.getElem_toArray, List.getElem_cons_zero, List.getElem_cons_succ, List.setIfInBounds_toArray, List.set_cons_zero, List.set_cons_succ]
  refine wpAnyH_take (i := 22) (v := ?_) rfl (by kernel_rfl) (by kernel_rfl) (by kernel_rfl) (fun _ _ _ h => h) (Or.inl ⟨by rfl, ?_⟩) (by assumption) ?_
  rotate_left 1
  · intro wz hSw; obtain ⟨⟨_, q1, _⟩, ⟨_, q2, _⟩⟩ := hSw; go_simp; try with_reducible rfl
  try simp only [Act.put, List.getElem_toArray, List.getElem_cons_zero, List.getElem_cons_succ, List.setIfInBounds_toArray, List.set_cons_zero, List.set_cons_succ]
  refine wpAnyH_take (i := 23) (v := ?_) rfl (by kernel_rfl) (by kernel_rfl) (by kernel_rfl) (fun _ _ _ h => h) (Or.inl ⟨by rfl, ?_⟩) (by assumption) ?_
  rotate_left 1
  · intro wz hSw; obtain ⟨⟨_, q1, _⟩, ⟨_, q2, _⟩⟩ := hSw; go_simp; try with_reducible rfl
  try simp only [Act.put, List.getElem_toArray, List.getElem_cons_zero, List.getElem_cons_succ, List.setIfInBounds_toArray, List.set_cons_zero, List.set_cons_succ]
  refine wpAnyH_ready (rs := [4]) (by kernel_rfl) (by simp) (AllReadyH.cons rfl (fun K hK => ?_) AllReadyH.nil)
  go_simp
  go_at_call 32
  refine (cb _).mono ?_
  rintro e wz ⟨rfl, hwz⟩
  obtain rfl := hwz.symm
  clear hwz
  refine hK.out _ _ hS0 (fun hHeld => ?_)
  try simp only [Act.put, List.getElem_toArray, List.getElem_cons_zero, List.getElem_cons_succ, List.setIfInBounds_toArray, List.set_cons_zero, List.set_cons_succ]
  refine wpAnyH_ready (rs := [9]) (by kernel_rfl) (by simp) (AllReadyH.cons rfl (fun K hK => ?_) AllReadyH.nil)
  go_simp
  go_at_call 32
  refine (cl _).mono ?_
  rintro e wz ⟨rfl, hwz⟩
  obtain rfl := hwz.symm
  clear hwz
  refine hK.out _ _ hS0 (fun hHeld => ?_)
  try simp only [Act.put, List.getElem_toArray, List.getElem_cons_zero, List.getElem_cons_succ, List.setIfInBounds_toArray, List.set_cons_zero, List.set_cons_succ]
  refine wpAnyH_ready (rs := [14]) (by kernel_rfl) (by simp) (AllReadyH.cons rfl (fun K hK => ?_) AllReadyH.nil)
  go_simp
  go_at_call 32
  refine (cp _).mono ?_
  rintro e wz ⟨rfl, hwz⟩
  obtain rfl := hwz.symm
  clear hwz
  refine hK.out _ _ hS0 (fun hHeld => ?_)
  try simp only [Act.put, List.getElem_toArray, List.getElem_cons_zero, List.getElem_cons_succ, List.setIfInBounds_toArray, List.set_cons_zero, List.set_cons_succ]
  refine wpAnyH_ready (rs := [19]) (by kernel_rfl) (by simp) (AllReadyH.cons rfl (fun K hK => ?_) AllReadyH.nil)
  go_simp
  go_at_call 32
  refine (cs _).mono ?_
  rintro e wz ⟨rfl, hwz⟩
  obtain rfl := hwz.symm
  clear hwz
  refine hK.out _ _ hS0 (fun hHeld => ?_)
  try simp only [Act.put, List.getElem_toArray, List.getElem_cons_zero, List.getElem_cons_succ, List.setIfInBounds_toArray, List.set_cons_zero, List.set_cons_succ]
  refine wpAnyH_ready (rs := [24]) (by kernel_rfl) (by simp) (AllReadyH.cons rfl (fun K hK => ?_) AllReadyH.nil)
  go_simp
  go_at_call 32
  refine (ca _).mono ?_
  rintro e wz ⟨rfl, hwz⟩
  obtain rfl := hwz.symm
  clear hwz
  refine hK.out _ _ hS0 (fun hHeld => ?_)
  try simp only [Act.put, List.getElem_toArray, List.getElem_cons_zero, List.getElem_cons_succ, List.setIfInBounds_toArray, List.set_cons_zero, List.set_cons_succ]
  refine wpAnyH_ready (rs := [25]) (by kernel_rfl) (by simp) (AllReadyH.cons rfl (fun K hK => ?_) AllReadyH.nil)
  go_simp
  refine hK.out _ _ ⟨hS0.1.alloc _, hS0.2.alloc _⟩ (fun hHeld => ?_)
  try simp only [Act.put, List.getElem_toArray, List.getElem_cons_zero, List.getElem_cons_succ, List.setIfInBounds_toArray, List.set_cons_zero, List.set_cons_succ]
  refine wpAnyH_ready (rs := [26]) (by kernel_rfl) (by simp) (AllReadyH.cons rfl (fun K hK => ?_) AllReadyH.nil)
  go_simp
  go_at_call 31
  refine cO.mono ?_
  rintro e wz ⟨rfl, hwz⟩
  obtain rfl := hwz.symm
  clear hwz
  refine hK.out _ _ ⟨hS0.1.alloc _, hS0.2.alloc _⟩ (fun hHeld => ?_)
  try simp only [Act.put, List.getElem_toArray, List.getElem_cons_zero, List.getElem_cons_succ, List.setIfInBounds_toArray, List.set_cons_zero, List.set_cons_succ]
  refine wpAnyH_take (i := 27) (v := ?_) rfl (by kernel_rfl) (by kernel_rfl) (by kernel_rfl) (fun _ _ _ h => h) (Or.inl ⟨by rfl, ?_⟩) (by assumption) ?_
  rotate_left 1
  · intro wz hSw; obtain ⟨⟨_, q1, _⟩, ⟨_, q2, _⟩⟩ := hSw; go_simp; try with_reducible rfl
  try simp only [Act.put, List.getElem_toArray, List.getElem_cons_zero, List.getElem_cons_succ, List.setIfInBounds_toArray, List.set_cons_zero, List.set_cons_succ]
  refine wpAnyH_done (by kernel_rfl) ?_ _
  go_wp2
  go_ret
  obtain ⟨os', h⟩ := HW.out
  refine ⟨rfl, 1, os' ++ #[.cells #[.int .i64 rb, .int .i64 rl, .int .i64 rp, .int .i64 rs, .int .i64 ra] 3], ?_⟩
  rw [alloc_eq_grow, h, ← grow_grow]
  rfl
end Go.Proofs.YtlfeglljpfihhaaGreatDoor
