/- Maps keyed by texts, at the level of one operation: a new key, a key that is there, a look-up; whatever the elements are. -/
import Derived.Test.YtfafkijcejbcpaaGreatDoorRows
import Derived.WalkKit
import Derived.MapKept
import Derived.WideMake
import Derived.Laws.AppendOwn
import Derived.Below
namespace Go.Proofs.YtfafkijcejbcpaaGreatDoor
open Go.RowKit Go.MapKept

section
variable {P : Program} {w : World} {mty kt et : TypeId} {r clock : Nat} {es : Array MapEntry} {s : ByteArray} {v : Value}
theorem upd_new (hm : P.underlying mty = some (.map kt et)) (hk : P.underlying kt = some .string) (hb : w.heap[r]? = some (.map es clock)) (hf : Instr.findNow .string (.string s) es.toList 0 = some none) :
    (Instr.mapUpdate mty (.map (some r)) (.string s) v).run P w = .ok () { w with heap := w.heap.setIfInBounds r (.map (es.push { key := .string s, val := v, born := clock }) (clock + 1)) } := by
  have hc : (Instr.checkKey false 10000 kt (.string s)).run P w = .ok () w := MapKept.run_checkKey (k := .string s) hk (by simp [IsKey]) false 9999
  simp [Instr.mapUpdate, run_underlying hm, MapKept.run_getObj_map hb, hc, MapKept.run_findKey hk hf, MapKept.run_setObj_map _ hb, Result.andThen]
theorem upd_old {i : Nat} {v0 : Value} (hm : P.underlying mty = some (.map kt et)) (hk : P.underlying kt = some .string) (hb : w.heap[r]? = some (.map es clock)) (hf : Instr.findNow .string (.string s) es.toList 0 = some (some (i, v0)))
    (hi : ((es[i]?).map (·.key)).getD (.string s) = .string s) :
    (Instr.mapUpdate mty (.map (some r)) (.string s) v).run P w = .ok () { w with heap := w.heap.setIfInBounds r (.map (es.modify i fun e => { e with key := .string s, val := v }) clock) } := by
  have hc : (Instr.checkKey false 10000 kt (.string s)).run P w = .ok () w := MapKept.run_checkKey (k := .string s) hk (by simp [IsKey]) false 9999
  have hs : (Instr.keyThatStays (.string s) (.string s)).run P w = .ok (.string s) w := MapKept.run_keyThatStays (d := .string) (k := .string s) (by simp [IsKey])
  simp only [Instr.mapUpdate, Sem.run_bind, run_underlying hm, MapKept.run_getObj_map hb, hc, MapKept.run_findKey hk hf, Result.andThen, hi, hs, MapKept.run_setObj_map _ hb]
theorem look_old {i : Nat} (hm : P.underlying mty = some (.map kt et)) (hk : P.underlying kt = some .string) (hb : w.heap[r]? = some (.map es clock)) (hf : Instr.findNow .string (.string s) es.toList 0 = some (some (i, v))) :
    (Instr.lookup mty (.map (some r)) (.string s) false).run P w = .ok v w := by
  have hc : (Instr.checkKey es.isEmpty 10000 kt (.string s)).run P w = .ok () w := MapKept.run_checkKey (k := .string s) hk (by simp [IsKey]) _ 9999
  simp [Instr.lookup, run_underlying hm, MapKept.run_getObj_map hb, hc, MapKept.run_findKey hk hf, Result.andThen]
end
theorem set_last (w : World) (o o' : Obj) : ({ w.alloc o with heap := (w.alloc o).heap.setIfInBounds w.heap.size o' } : World) = w.alloc o' := by
  have e : (w.alloc o).heap = w.heap.push o := rfl
  have e' : (w.heap.push o).setIfInBounds w.heap.size o' = w.heap.push o' := by
    apply Array.ext_getElem?
    intro i
    rw [Array.getElem?_setIfInBounds, Array.getElem?_push, Array.getElem?_push]
    by_cases h : w.heap.size = i
    · subst h; simp
    · simp [h, Ne.symm h]
  rw [e, e']
  rfl
theorem set_drew (w : World) (h : Array Obj) : ({ w.drew with heap := h } : World) = ({ w with heap := h } : World).drew := rfl
/-- A new key in a map that was laid last. -/
theorem ins_last {P : Program} {mty kt et : TypeId} (W : World) (es : Array MapEntry) (clock : Nat) (s : ByteArray) (v : Value) (hm : P.underlying mty = some (.map kt et)) (hk : P.underlying kt = some .string) (hf : Instr.findNow .string (.string s) es.toList 0 = some none) :
    (Instr.mapUpdate mty (.map (some W.heap.size)) (.string s) v).run P (W.alloc (.map es clock)) = .ok () (W.alloc (.map (es.push { key := .string s, val := v, born := clock }) (clock + 1))) := by
  rw [upd_new hm hk (heap_alloc_new W (.map es clock)) hf, set_last]
theorem ins_last_drew {P : Program} {mty kt et : TypeId} (W : World) (es : Array MapEntry) (clock : Nat) (s : ByteArray) (v : Value) (hm : P.underlying mty = some (.map kt et)) (hk : P.underlying kt = some .string) (hf : Instr.findNow .string (.string s) es.toList 0 = some none) :
    (Instr.mapUpdate mty (.map (some W.heap.size)) (.string s) v).run P (W.alloc (.map es clock)).drew = .ok () (W.alloc (.map (es.push { key := .string s, val := v, born := clock }) (clock + 1))).drew := by
  have hb : (W.alloc (.map es clock)).drew.heap[W.heap.size]? = some (.map es clock) := heap_alloc_new W (.map es clock)
  rw [upd_new hm hk hb hf]
  exact congrArg (fun x : World => Result.ok () x.drew) (set_last W (.map es clock) _)
/-- A map's block turned: all else is as it was. -/
theorem set_grown {w : World} {r : Nat} {es : Array MapEntry} {c : Nat} (o : Obj) (hb : w.heap[r]? = some (.map es c)) : w.grownBy { w with heap := w.heap.setIfInBounds r o } (some r) ∧ ({ w with heap := w.heap.setIfInBounds r o } : World).heap[r]? = some o := by
  refine ⟨⟨rfl, rfl, rfl, by simp, fun k hk hne => ?_⟩, (MapKept.heap_set hb).1⟩
  exact (MapKept.heap_set hb).2 k (fun e => hne (by rw [e]))
end Go.Proofs.YtfafkijcejbcpaaGreatDoor
