/- The document's own InstCheck, InstPack and InstRead, in one def each: what chapter 6 says of them; they turn nothing that was in memory. -/
import Derived.Test.YtpnmmeaelogmfaaDoorRows
import Derived.Test.YtpnmmeaelogmfaaDoorBits
import Derived.Test.YtpnmmeaelogmfaaDoorKeyPure
import Derived.Test.YtpnmmeaelogmfaaDoorShelf
import Derived.Test.YtpnmmeaelogmfaaDoorCardBase
import Derived.Test.YtpnmmeaelogmfaaDoorInstTab
import Derived.Test.YtpnmmeaelogmfaaDoorStrMap
import Derived.Test.YtpnmmeaelogmfaaDoorInstRef
import Derived.WalkKit
import Derived.ProofKit
namespace Go.Proofs.YtpnmmeaelogmfaaDoor
open Go.ChangeShapes Go.WideShapes Go.ChangeAt Go.RowKit
set_option linter.unusedSimpArgs false

/-- P12. -/
def chkI (o a b c : Int) : Int := if 0 ≤ o ∧ o ≤ 22 then fin o.toNat a b c else 1
/-- P13. -/
def numI (o a b c : Int) : Int := o + 32 * a + 256 * b + 2048 * (c + 2048)
def packI (o a b c : Int) : Int := if chkI o a b c = 0 then numI o a b c else 0
structure II where
  o : Int
  a : Int
  b : Int
  c : Int
  e : Int
def readI (n : Int) : II :=
  if 0 ≤ n ∧ n ≤ 8388607 then (if chkI (n % 32) (n / 32 % 8) (n / 256 % 8) (n / 2048 - 2048) = 0 then ⟨n % 32, n / 32 % 8, n / 256 % 8, n / 2048 - 2048, 0⟩ else ⟨0, 0, 0, 0, 5⟩) else ⟨0, 0, 0, 0, 5⟩
theorem lims_ok : ∀ n : Nat, n < 23 → (0 ≤ (lims n ((wordsB n).length - 1)).1 ∧ (lims n ((wordsB n).length - 1)).1 ≤ 7) ∧ (0 ≤ (lims n ((wordsB n).length - 1)).2.1 ∧ (lims n ((wordsB n).length - 1)).2.1 ≤ 7) ∧ -2048 ≤ (lims n ((wordsB n).length - 1)).2.2.1 ∧ (lims n ((wordsB n).length - 1)).2.2.2 ≤ 2047 := by decide +kernel
theorem fin_ok {n : Nat} (hn : n < 23) {a b c : Int} (h : fin n a b c = 0) : 0 ≤ a ∧ a ≤ 7 ∧ 0 ≤ b ∧ b ≤ 7 ∧ -2048 ≤ c ∧ c ≤ 2047 := by
  obtain ⟨h1, h2, h3⟩ := lims_ok n hn
  unfold fin at h
  generalize lims n ((wordsB n).length - 1) = X at *
  unfold fin4 at h
  cases ha : outB a 0 X.1
  · cases hb : outB b 0 X.2.1
    · cases hc : outB c X.2.2.1 X.2.2.2
      · simp only [outB, decide_eq_false_iff_not] at ha hb hc
        omega
      · rw [ha, hb, hc] at h; cases h
    · rw [ha, hb] at h; cases h
  · rw [ha] at h; cases h
theorem chk_ok {o a b c : Int} (h : chkI o a b c = 0) : (0 ≤ o ∧ o ≤ 22) ∧ 0 ≤ a ∧ a ≤ 7 ∧ 0 ≤ b ∧ b ≤ 7 ∧ -2048 ≤ c ∧ c ≤ 2047 := by
  unfold chkI at h
  by_cases ho : 0 ≤ o ∧ o ≤ 22
  · rw [if_pos ho] at h
    exact ⟨ho, fin_ok (by omega) h⟩
  · rw [if_neg ho] at h; cases h
theorem ref_instcheck (o a b c : Int) (w : World) (m : Int) (hM : w.cell? ⟨1, 0, none⟩ = some (.int .i64 m)) (zM : 1 < w.heap.size) :
    Calls Tryd.prog 25 #[.agg #[.int .i64 o, .int .i64 a, .int .i64 b, .int .i64 c]] w fun e w' => e = .returned (.int .i64 (chkI o a b c)) ∧ Below w.heap.size w w' := by
  unfold chkI
  by_cases ho : 0 ≤ o ∧ o ≤ 22
  · rw [if_pos ho]
    obtain ⟨n, rfl⟩ := Int.eq_ofNat_of_zero_le ho.1
    exact check_in n (by omega) a b c w m hM zM
  · rw [if_neg ho]
    exact check_out o a b c w m hM zM (by unfold outB; rw [decide_eq_true_eq]; omega)
end Go.Proofs.YtpnmmeaelogmfaaDoor
