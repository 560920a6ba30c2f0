/- How many values a list that comes in can hold. -/
import Derived.Test.YtpkmpkbgngbkjaaRows
import Derived.Test.YtpkmpkbgngbkjaaValsArg
import Derived.WalkKit
import Derived.ProofKit
import Derived.OpenShut
import Derived.Deep.Slices
import Derived.SizedLaws
namespace Go.Proofs.Ytpkmpkbgngbkjaa
open Go.ChangeShapes Go.WideShapes Go.ChangeAt Go.RowKit
theorem bytes_val : Try.prog.bytesOf 26 = 56 := by kernel_rfl
section
variable {H : Type} {enc : TypeId × Value → H} {w : World}
theorem vals_sized {a : Option Addr} {len cap : Nat} {d : DataW H} {p : List MemPlace} {ts : List TypeId} {ds : List (DataW H)} {j : Nat} (h : DataW.Trod enc Try.prog w 0 (fun _ => true) true 22 (.slice a len cap) d p)
    (hz : (DataW.weightsEach Try.prog ts ds).all (· ≤ reachBytes) = true) (ht : ts[j]? = some 22) (hd : ds[j]? = some d) : len * 56 ≤ 140737488355328 := by
  obtain ⟨fuel, hf⟩ := h
  rcases Go.Deep.open_slice Try.underlying22 hf with ⟨hcs, _⟩ | ⟨a', len', cap', m, n, D, Pl, hcs, _, hl, hm, hmm, hx, _⟩
  · simp [Value.cells] at hcs
    obtain ⟨rfl, rfl, rfl⟩ := hcs
    omega
  · simp [Value.cells] at hcs
    obtain ⟨rfl, rfl, rfl⟩ := hcs
    simp only [Prod.mk.injEq] at hx
    have := sized_slice hz ht (by rw [hd, hx.1]) Try.underlying22
    rw [bytes_val] at this
    simp only [List.length_map, List.length_range] at this
    have hr : reachBytes ≤ 140737488355328 := Nat.le_of_lt reachBytes_lt
    have h2 : len * 56 ≤ (len + (m - len)) * 56 := Nat.mul_le_mul_right _ (by omega)
    omega
end
end Go.Proofs.Ytpkmpkbgngbkjaa
