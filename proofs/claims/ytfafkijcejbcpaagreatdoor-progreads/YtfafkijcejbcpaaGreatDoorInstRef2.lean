/- The document's own InstCheck, InstPack and InstRead, in one def each: what chapter 6 says of them; they turn nothing that was in memory. -/
import Derived.Test.YtfafkijcejbcpaaGreatDoorRows
import Derived.Test.YtfafkijcejbcpaaGreatDoorBits
import Derived.Test.YtfafkijcejbcpaaGreatDoorKeyPure
import Derived.Test.YtfafkijcejbcpaaGreatDoorShelf
import Derived.Test.YtfafkijcejbcpaaGreatDoorCardBase
import Derived.Test.YtfafkijcejbcpaaGreatDoorInstTab
import Derived.Test.YtfafkijcejbcpaaGreatDoorStrMap
import Derived.Test.YtfafkijcejbcpaaGreatDoorInstRef
import Derived.WalkKit
import Derived.ProofKit
namespace Go.Proofs.YtfafkijcejbcpaaGreatDoor
open Go.ChangeShapes Go.WideShapes Go.ChangeAt Go.RowKit
set_option linter.unusedSimpArgs false

/-- P12. -/
def chkI (o a b c : Int) : Int := if 0 ≤ o ∧ o ≤ 22 then fin o.toNat a b c else 1
/-- P13. -/
def numI (o a b c : Int) : Int := o + 32 * a + 256 * b + 2048 * (c + 2048)
def packI (o a b c : Int) : Int := if chkI o a b c = 0 then numI o a b c else 0
structure II where
  o : Int
  a : Int
  b : Int
  c : Int
  e : Int
def readI (n : Int) : II :=
  if 0 ≤ n ∧ n ≤ 8388607 then (if chkI (n % 32) (n / 32 % 8) (n / 256 % 8) (n / 2048 - 2048) = 0 then ⟨n % 32, n / 32 % 8, n / 256 % 8, n / 2048 - 2048, 0⟩ else ⟨0, 0, 0, 0, 5⟩) else ⟨0, 0, 0, 0, 5⟩
theorem lims_ok : ∀ n : Nat, n < 23 → (0 ≤ (lims n ((wordsB n).length - 1)).1 ∧ (lims n ((wordsB n).length - 1)).1 ≤ 7) ∧ (0 ≤ (lims n ((wordsB n).length - 1)).2.1 ∧ (lims n ((wordsB n).length - 1)).2.1 ≤ 7) ∧ -2048 ≤ (lims n ((wordsB n).length - 1)).2.2.1 ∧ (lims n ((wordsB n).length - 1)).2.2.2 ≤ 2047 := by decide +kernel
theorem fin_ok {n : Nat} (hn : n < 23) {a b c : Int} (h : fin n a b c = 0) : 0 ≤ a ∧ a ≤ 7 ∧ 0 ≤ b ∧ b ≤ 7 ∧ -2048 ≤ c ∧ c ≤ 2047 := by
  obtain ⟨h1, h2, h3⟩ := lims_ok n hn
  unfold fin at h
  generalize lims n ((wordsB n).length - 1) = X at *
  unfold fin4 at h
  cases ha : outB a 0 X.1
  · cases hb : outB b 0 X.2.1
    · cases hc : outB c X.2.2.1 X.2.2.2
      · simp only [outB, decide_eq_false_iff_not] at ha hb hc
        omega
      · rw [ha, hb, hc] at h; cases h
    · rw [ha, hb] at h; cases h
  · rw [ha] at h; cases h
theorem chk_ok {o a b c : Int} (h : chkI o a b c = 0) : (0 ≤ o ∧ o ≤ 22) ∧ 0 ≤ a ∧ a ≤ 7 ∧ 0 ≤ b ∧ b ≤ 7 ∧ -2048 ≤ c ∧ c ≤ 2047 := by
  unfold chkI at h
  by_cases ho : 0 ≤ o ∧ o ≤ 22
  · rw [if_pos ho] at h
    exact ⟨ho, fin_ok (by omega) h⟩
  · rw [if_neg ho] at h; cases h
theorem ref_instcheck (o a b c : Int) (w : World) (m : Int) (hM : w.cell? ⟨0, 0, none⟩ = some (.int .i64 m)) (zM : 0 < w.heap.size) :
    Calls Tryz.prog 38 #[.agg #[.int .i64 o, .int .i64 a, .int .i64 b, .int .i64 c]] w fun e w' => e = .returned (.int .i64 (chkI o a b c)) ∧ Below w.heap.size w w' := by
  unfold chkI
  by_cases ho : 0 ≤ o ∧ o ≤ 22
  · rw [if_pos ho]
    obtain ⟨n, rfl⟩ := Int.eq_ofNat_of_zero_le ho.1
    exact check_in n (by omega) a b c w m hM zM
  · rw [if_neg ho]
    exact check_out o a b c w m hM zM (by unfold outB; rw [decide_eq_true_eq]; omega)
theorem ref_instpack (o a b c : Int) (w : World) (m : Int) (hM : w.cell? ⟨0, 0, none⟩ = some (.int .i64 m)) (zM : 0 < w.heap.size) :
    Calls Tryz.prog 19 #[.agg #[.int .i64 o, .int .i64 a, .int .i64 b, .int .i64 c]] w fun e w' => e = .returned (.tuple #[.int .i64 (packI o a b c), .int .i64 (chkI o a b c)]) ∧ Below w.heap.size w w' := by
  have hM1 : ∀ x : Obj, (w.alloc x).cell? ⟨0, 0, none⟩ = some (.int .i64 m) := fun x => by rw [cell_old w x 0 0 zM]; exact hM
  by_cases hc : chkI o a b c = 0
  · have hr := chk_ok hc
    have hp : packI o a b c = o + 32 * a + 256 * b + 2048 * (c + 2048) := by unfold packI; rw [if_pos hc]; rfl
    rw [hp, hc]
    clear hp
    go_enter Tryz.func19, Tryz.ntmps19
    go_wp2_with (go_at_call 38; refine (ref_instcheck _ _ _ _ _ m (hM1 _) (by simp <;> omega)).mono ?_; simp only [hc]; rintro e w1 ⟨rfl, hbb⟩; have B1 := (Box.new _ _ _).below hbb; have q1 := B1.cell; have hB := Below.step0 ((Below.refl _ _).alloc (Nat.le_refl _) _) hbb; clear hbb)
    go_ret2
    exact ⟨rfl, hB⟩
  · have hp : packI o a b c = 0 := by unfold packI; rw [if_neg hc]
    have hc' : (chkI o a b c == 0) = false := by simpa using hc
    rw [hp]
    clear hp hc
    go_enter Tryz.func19, Tryz.ntmps19
    go_wp2_with (go_at_call 38; refine (ref_instcheck _ _ _ _ _ m (hM1 _) (by simp <;> omega)).mono ?_; rintro e w1 ⟨rfl, hbb⟩; have B1 := (Box.new _ _ _).below hbb; have q1 := B1.cell; have hB := Below.step0 ((Below.refl _ _).alloc (Nat.le_refl _) _) hbb; clear hbb)
    go_ret2
    exact ⟨rfl, hB⟩
end Go.Proofs.YtfafkijcejbcpaaGreatDoor
