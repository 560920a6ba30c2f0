/- The document's own InstCheck, InstPack and InstRead, in one def each: what chapter 6 says of them; they turn nothing that was in memory. -/
import Derived.Test.YtekoonpdhadnmaaDoorRows
import Derived.Test.YtekoonpdhadnmaaDoorBits
import Derived.Test.YtekoonpdhadnmaaDoorKeyPure
import Derived.Test.YtekoonpdhadnmaaDoorShelf
import Derived.Test.YtekoonpdhadnmaaDoorCardBase
import Derived.Test.YtekoonpdhadnmaaDoorInstTab
import Derived.Test.YtekoonpdhadnmaaDoorStrMap
import Derived.Test.YtekoonpdhadnmaaDoorInstRef
import Derived.WalkKit
import Derived.ProofKit
namespace Go.Proofs.YtekoonpdhadnmaaDoor
open Go.ChangeShapes Go.WideShapes Go.ChangeAt Go.RowKit
set_option linter.unusedSimpArgs false

/-- P12. -/
def chkI (o a b c : Int) : Int := if 0 ≤ o ∧ o ≤ 22 then fin o.toNat a b c else 1
/-- P13. -/
def numI (o a b c : Int) : Int := o + 32 * a + 256 * b + 2048 * (c + 2048)
def packI (o a b c : Int) : Int := if chkI o a b c = 0 then numI o a b c else 0
structure II where
  o : Int
  a : Int
  b : Int
  c : Int
  e : Int
def readI (n : Int) : II :=
  if 0 ≤ n ∧ n ≤ 8388607 then (if chkI (n % 32) (n / 32 % 8) (n / 256 % 8) (n / 2048 - 2048) = 0 then ⟨n % 32, n / 32 % 8, n / 256 % 8, n / 2048 - 2048, 0⟩ else ⟨0, 0, 0, 0, 5⟩) else ⟨0, 0, 0, 0, 5⟩
theorem lims_ok : ∀ n : Nat, n < 23 → (0 ≤ (lims n ((wordsB n).length - 1)).1 ∧ (lims n ((wordsB n).length - 1)).1 ≤ 7) ∧ (0 ≤ (lims n ((wordsB n).length - 1)).2.1 ∧ (lims n ((wordsB n).length - 1)).2.1 ≤ 7) ∧ -2048 ≤ (lims n ((wordsB n).length - 1)).2.2.1 ∧ (lims n ((wordsB n).length - 1)).2.2.2 ≤ 2047 := by decide +kernel
theorem fin_ok {n : Nat} (hn : n < 23) {a b c : Int} (h : fin n a b c = 0) : 0 ≤ a ∧ a ≤ 7 ∧ 0 ≤ b ∧ b ≤ 7 ∧ -2048 ≤ c ∧ c ≤ 2047 := by
  obtain ⟨h1, h2, h3⟩ := lims_ok n hn
  unfold fin at h
  generalize lims n ((wordsB n).length - 1) = X at *
  unfold fin4 at h
  cases ha : outB a 0 X.1
  · cases hb : outB b 0 X.2.1
    · cases hc : outB c X.2.2.1 X.2.2.2
      · simp only [outB, decide_eq_false_iff_not] at ha hb hc
        omega
      · rw [ha, hb, hc] at h; cases h
    · rw [ha, hb] at h; cases h
  · rw [ha] at h; cases h
theorem chk_ok {o a b c : Int} (h : chkI o a b c = 0) : (0 ≤ o ∧ o ≤ 22) ∧ 0 ≤ a ∧ a ≤ 7 ∧ 0 ≤ b ∧ b ≤ 7 ∧ -2048 ≤ c ∧ c ≤ 2047 := by
  unfold chkI at h
  by_cases ho : 0 ≤ o ∧ o ≤ 22
  · rw [if_pos ho] at h
    exact ⟨ho, fin_ok (by omega) h⟩
  · rw [if_neg ho] at h; cases h
theorem ref_instcheck (o a b c : Int) (w : World) (m : Int) (hM : w.cell? ⟨1, 0, none⟩ = some (.int .i64 m)) (zM : 1 < w.heap.size) :
    Calls Tryd.prog 35 #[.agg #[.int .i64 o, .int .i64 a, .int .i64 b, .int .i64 c]] w fun e w' => e = .returned (.int .i64 (chkI o a b c)) ∧ Below w.heap.size w w' := by
  unfold chkI
  by_cases ho : 0 ≤ o ∧ o ≤ 22
  · rw [if_pos ho]
    obtain ⟨n, rfl⟩ := Int.eq_ofNat_of_zero_le ho.1
    exact check_in n (by omega) a b c w m hM zM
  · rw [if_neg ho]
    exact check_out o a b c w m hM zM (by unfold outB; rw [decide_eq_true_eq]; omega)
theorem ref_instread (n : Int) (w : World) (m : Int) (hM : w.cell? ⟨1, 0, none⟩ = some (.int .i64 m)) (zM : 1 < w.heap.size) (U : II) (hU : readI n = U) :
    Calls Tryd.prog 19 #[.int .i64 n] w fun e w' => e = .returned (.tuple #[.agg #[.int .i64 U.o, .int .i64 U.a, .int .i64 U.b, .int .i64 U.c], .int .i64 U.e]) ∧ Below w.heap.size w w' := by
  subst hU
  unfold readI
  by_cases hn : 0 ≤ n ∧ n ≤ 8388607
  · have ho : outB n 0 8388607 = false := by unfold outB; rw [decide_eq_false_iff_not]; omega
    rw [if_pos hn]
    have hM1 : ∀ x y : Obj, ((w.alloc x).alloc y).cell? ⟨1, 0, none⟩ = some (.int .i64 m) := fun x y => by rw [cell_old _ y 1 0 (by simp <;> omega), cell_old w x 1 0 zM]; exact hM
    have d1 : n.tmod 32 = n % 32 := Int.tmod_eq_emod_of_nonneg hn.1
    have d2 : n.tdiv 32 = n / 32 := Int.tdiv_eq_ediv_of_nonneg hn.1
    have d3 : n.tdiv 256 = n / 256 := Int.tdiv_eq_ediv_of_nonneg hn.1
    have d4 : n.tdiv 2048 = n / 2048 := Int.tdiv_eq_ediv_of_nonneg hn.1
    have p1 : 0 ≤ n / 32 := by omega
    have p2 : 0 ≤ n / 256 := by omega
    have d5 : (n / 32).tmod 8 = n / 32 % 8 := Int.tmod_eq_emod_of_nonneg p1
    have d6 : (n / 256).tmod 8 = n / 256 % 8 := Int.tmod_eq_emod_of_nonneg p2
    have p3 : 0 ≤ n / 2048 ∧ n / 2048 ≤ 4095 := by omega
    by_cases hc : chkI (n % 32) (n / 32 % 8) (n / 256 % 8) (n / 2048 - 2048) = 0
    · rw [if_pos hc]
      go_enter Tryd.func19, Tryd.ntmps19
      go_wp2_with (first | (go_at_call 33; refine (ref_outside _ _ _ _).mono ?_; simp only [ho]; rintro e w' ⟨rfl, rfl⟩) | (go_at_call 35; refine (ref_instcheck _ _ _ _ _ m (hM1 _ _) (by simp <;> omega)).mono ?_; simp only [hc]; rintro e w1 ⟨rfl, hbb⟩; have B1 := ((Box.new _ _ _).alloc _).below hbb; have q1 := B1.cell; have f1 := B1.free; have B2 := (Box.new1 _ _ _ _).below hbb; have q2 := B2.cell; have hB := Below.step0 (two _ _) hbb; clear hbb))
      refine bodyPost_ret (v := .tuple #[.agg #[.int .i64 (n % 32), .int .i64 (n / 32 % 8), .int .i64 (n / 256 % 8), .int .i64 (n / 2048 - 2048)], .int .i64 0]) (by simp [results, Tryd.results19, go_sem, q1]) rfl ⟨rfl, ?_⟩
      exact (((hB.setCell (by simp) _).setCell (by simp) _).setCell (by simp) _).setCell (by simp) _
    · rw [if_neg hc]
      have hc' : (chkI (n % 32) (n / 32 % 8) (n / 256 % 8) (n / 2048 - 2048) == 0) = false := by simpa using hc
      go_enter Tryd.func19, Tryd.ntmps19
      go_wp2_with (first | (go_at_call 33; refine (ref_outside _ _ _ _).mono ?_; simp only [ho]; rintro e w' ⟨rfl, rfl⟩) | (go_at_call 35; refine (ref_instcheck _ _ _ _ _ m (hM1 _ _) (by simp <;> omega)).mono ?_; rintro e w1 ⟨rfl, hbb⟩; have B1 := ((Box.new _ _ _).alloc _).below hbb; have q1 := B1.cell; have f1 := B1.free; have B2 := (Box.new1 _ _ _ _).below hbb; have q2 := B2.cell; have hB := Below.step0 (two _ _) hbb; clear hbb))
      refine bodyPost_ret (v := .tuple #[.agg #[.int .i64 0, .int .i64 0, .int .i64 0, .int .i64 0], .int .i64 5]) (by simp [results, Tryd.results19, go_sem, q1]) rfl ⟨rfl, ?_⟩
      exact (((hB.setCell (by simp) _).setCell (by simp) _).setCell (by simp) _).setCell (by simp) _
  · have ho : outB n 0 8388607 = true := by unfold outB; rw [decide_eq_true_eq]; omega
    rw [if_neg hn]
    go_enter Tryd.func19, Tryd.ntmps19
    go_wp2_with (go_at_call 33; refine (ref_outside _ _ _ _).mono ?_; simp only [ho]; rintro e w' ⟨rfl, rfl⟩)
    refine bodyPost_ret (v := .tuple #[.agg #[.int .i64 0, .int .i64 0, .int .i64 0, .int .i64 0], .int .i64 5]) (by simp [results, Tryd.results19, go_sem]) rfl ⟨rfl, ?_⟩
    exact (Below.refl _ _).alloc (Nat.le_refl _) _
end Go.Proofs.YtekoonpdhadnmaaDoor
