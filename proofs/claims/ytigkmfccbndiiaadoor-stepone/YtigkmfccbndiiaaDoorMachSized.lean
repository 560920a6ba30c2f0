/- How long the lists of a machine that comes in can be. -/
import Derived.Test.YtigkmfccbndiiaaDoorRows
import Derived.Test.YtigkmfccbndiiaaDoorMachArg
import Derived.WalkKit
import Derived.ProofKit
import Derived.OpenShut
import Derived.Deep.Slices
import Derived.SizedLaws
namespace Go.Proofs.YtigkmfccbndiiaaDoor
open Go.ChangeShapes Go.WideShapes Go.ChangeAt Go.RowKit
set_option linter.unusedSimpArgs false
theorem bytes_mval : Tryd.prog.bytesOf 25 = 56 := by kernel_rfl
theorem bytes_mframe : Tryd.prog.bytesOf 58 = 96 := by kernel_rfl
theorem bytes_mint : Tryd.prog.bytesOf 3 = 8 := by kernel_rfl
section
variable {H : Type} {enc : TypeId × Value → H} {w : World}
theorem row_sized {T E : TypeId} {b n : Nat} {c : Option Addr} {len cap : Nat} {y : DataW H × List MemPlace} (hu : Tryd.prog.underlying T = some (.slice E)) (hb : Tryd.prog.bytesOf E = b)
    (g : DataW.trod enc Tryd.prog w 0 (fun _ => true) true n T [.slice c len cap] = some y) (hz : ∀ m ∈ y.1.weights Tryd.prog T, m ≤ reachBytes) : len * b ≤ 140737488355328 := by
  rcases Go.Deep.open_slice hu g with ⟨hcs, _⟩ | ⟨a', len', cap', m, n, D, Pl, hcs, _, hl, hm, hmm, hx, _⟩
  · simp at hcs
    obtain ⟨rfl, rfl, rfl⟩ := hcs
    omega
  · simp at hcs
    obtain ⟨rfl, rfl, rfl⟩ := hcs
    rw [hx] at hz
    have := hz ((((List.range len).map D).length + ((List.range (m - len)).map fun j => D (len + j)).length) * Tryd.prog.bytesOf E) (by simp [DataW.weights, hu])
    rw [hb] at this
    simp only [List.length_map, List.length_range] at this
    have hr : reachBytes ≤ 140737488355328 := Nat.le_of_lt reachBytes_lt
    have h2 : len * b ≤ (len + (m - len)) * b := Nat.mul_le_mul_right _ (by omega)
    omega
theorem mach_sized {x : MC} {q : MA} {d : DataW H} {p : List MemPlace} {ts : List TypeId} {ds : List (DataW H)} {j : Nat} (h8 : x.r.length = 8)
    (h : DataW.Trod enc Tryd.prog w 0 (fun _ => true) true 31 (.agg (mcC x q).toArray) d p)
    (hz : (DataW.weightsEach Tryd.prog ts ds).all (· ≤ reachBytes) = true) (ht : ts[j]? = some 31) (hd : ds[j]? = some d) :
    x.m.length * 56 ≤ 140737488355328 ∧ x.s.length * 96 ≤ 140737488355328 ∧ x.o.length * 8 ≤ 140737488355328 := by
  obtain ⟨fuel, hf⟩ := h
  obtain ⟨xs, n, _, hx, _, hlen, hg⟩ := DataW.trod_struct Tryd.underlying31 hf
  obtain ⟨y0, y1, y2, y3, y4, rfl⟩ := list5 hlen
  simp only [Prod.mk.injEq] at hx
  obtain ⟨rfl, _⟩ := hx
  have hl : (x.r.flatMap mvC).length = 56 := by rw [mv_len, h8]
  have dr : ∀ i, ((mcC x q).drop (56 + i)).take 1 = ((mcT x q).drop i).take 1 := fun i => by
    unfold mcC
    rw [List.drop_append, List.drop_eq_nil_of_le (by omega), hl, Nat.add_sub_cancel_left]
    rfl
  have g2 : DataW.trod enc Tryd.prog w 0 (fun _ => true) true n 27 [.slice q.m x.m.length q.cm] = some y2 := by have := hg 2 _ rfl; have e := dr 5; simpa [Value.cells, cells_svals, e, mcT] using this
  have g3 : DataW.trod enc Tryd.prog w 0 (fun _ => true) true n 28 [.slice q.s x.s.length q.cs] = some y3 := by have := hg 3 _ rfl; have e := dr 6; simpa [Value.cells, cells_sframes, e, mcT] using this
  have g4 : DataW.trod enc Tryd.prog w 0 (fun _ => true) true n 29 [.slice q.o x.o.length q.co] = some y4 := by have := hg 4 _ rfl; have e := dr 7; simpa [Value.cells, cells_sints, e, mcT] using this
  have hW : ∀ m, m ∈ DataW.weights Tryd.prog 31 (DataW.agg ([y0, y1, y2, y3, y4].map (·.1))) → m ≤ reachBytes := fun m hm => by
    have := List.all_eq_true.1 hz m (DataW.weights_mem_each ht hd m hm)
    simpa using this
  refine ⟨row_sized Tryd.underlying27 bytes_mval g2 fun m hm => hW m ?_, row_sized Tryd.underlying28 bytes_mframe g3 fun m hm => hW m ?_, row_sized Tryd.underlying29 bytes_mint g4 fun m hm => hW m ?_⟩
  · simp only [DataW.weights, Tryd.underlying31]
    exact DataW.weights_mem_each (j := 2) rfl rfl m hm
  · simp only [DataW.weights, Tryd.underlying31]
    exact DataW.weights_mem_each (j := 3) rfl rfl m hm
  · simp only [DataW.weights, Tryd.underlying31]
    exact DataW.weights_mem_each (j := 4) rfl rfl m hm
end
end Go.Proofs.YtigkmfccbndiiaaDoor
