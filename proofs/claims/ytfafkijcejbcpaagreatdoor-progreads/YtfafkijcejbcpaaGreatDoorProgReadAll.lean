/- A map from the names of labels to their places. The document's own ProgRead answers what chapter 7 says, for whatever text, and turns nothing that was in memory. -/
import Derived.Test.YtfafkijcejbcpaaGreatDoorRows
import Derived.Test.YtfafkijcejbcpaaGreatDoorKeyPure
import Derived.Test.YtfafkijcejbcpaaGreatDoorTextPure
import Derived.Test.YtfafkijcejbcpaaGreatDoorSplitPure
import Derived.Test.YtfafkijcejbcpaaGreatDoorProgPure
import Derived.Test.YtfafkijcejbcpaaGreatDoorStrMap
import Derived.Test.YtfafkijcejbcpaaGreatDoorIntsArg
import Derived.Test.YtfafkijcejbcpaaGreatDoorEqInt
import Derived.WalkKit
import Derived.ProofKit
import Derived.MapKept
import Derived.WideMake
import Derived.Test.YtfafkijcejbcpaaGreatDoorBoxSet
import Derived.Test.YtfafkijcejbcpaaGreatDoorShelf
import Derived.Test.YtfafkijcejbcpaaGreatDoorParsePure
import Derived.Test.YtfafkijcejbcpaaGreatDoorInstParse2
import Derived.Test.YtfafkijcejbcpaaGreatDoorNamePure
import Derived.Test.YtfafkijcejbcpaaGreatDoorProgFacts
import Derived.Test.YtfafkijcejbcpaaGreatDoorProgState
import Derived.Test.YtfafkijcejbcpaaGreatDoorProgLabel
import Derived.Test.YtfafkijcejbcpaaGreatDoorProgRead
import Derived.Test.YtfafkijcejbcpaaGreatDoorGoSplit
import Derived.Test.YtfafkijcejbcpaaGreatDoorLinesAll
import Derived.Test.YtfafkijcejbcpaaGreatDoorInstRef
import Derived.Test.YtfafkijcejbcpaaGreatDoorInstRef2
import Derived.Test.YtfafkijcejbcpaaGreatDoorInstEq
import Derived.Test.YtfafkijcejbcpaaGreatDoorInstParseRef
import Derived.Test.YtfafkijcejbcpaaGreatDoorJumpAll
import Derived.Test.YtfafkijcejbcpaaGreatDoorLineRef2
import Derived.Deep.CutBlock
import Derived.Deep.AppendLies
namespace Go.Proofs.YtfafkijcejbcpaaGreatDoor
section
open Go.ChangeShapes Go.WideShapes Go.ChangeAt Go.RowKit Go.MapKept

def ents : List LB → Nat → List MapEntry
  | [], _ => []
  | b :: bs, n => ⟨.string (bL b.nm), .int .i64 b.at_, n⟩ :: ents bs (n + 1)
theorem ents_app : ∀ (bs : List LB) (b : LB) (n : Nat), ents (bs ++ [b]) n = ents bs n ++ [⟨.string (bL b.nm), .int .i64 b.at_, n + bs.length⟩]
  | [], b, n => rfl
  | x :: bs, b, n => by
    rw [List.cons_append, ents, ents, ents_app bs b (n + 1), List.cons_append, List.length_cons, show n + 1 + bs.length = n + (bs.length + 1) by omega]
theorem bytes_beq (a b : ByteArray) : (a == b) = (a.data == b.data) := by
  cases a
  cases b
  rfl
theorem bL_beq (x y : List UInt8) : (bL x == bL y) = decide (x = y) := by
  rw [bytes_beq]
  by_cases h : x = y
  · subst h
    rw [decide_eq_true rfl]
    exact beq_self_eq_true _
  · rw [decide_eq_false h]
    cases hb : ((bL x).data == (bL y).data)
    · rfl
    · exfalso
      have e := eq_of_beq hb
      exact h (bL_inj (ByteArray.ext e))
theorem find_place : ∀ (bs : List LB) (nm : List UInt8) (n i : Nat), (placeL bs nm = none ∧ Instr.findNow .string (.string (bL nm)) (ents bs n) i = some none) ∨ (∃ p j, placeL bs nm = some p ∧ Instr.findNow .string (.string (bL nm)) (ents bs n) i = some (some (j, .int .i64 p)))
  | [], nm, n, i => .inl ⟨rfl, rfl⟩
  | b :: bs, nm, n, i => by
    rw [ents, placeL]
    by_cases h : b.nm = nm
    · rw [if_pos h]
      refine .inr ⟨b.at_, i, rfl, ?_⟩
      simp [Instr.findNow, Instr.sameNow, bL_beq, h]
    · rw [if_neg h]
      have hne : ¬ nm = b.nm := fun e => h e.symm
      have e : Instr.findNow .string (.string (bL nm)) (⟨.string (bL b.nm), .int .i64 b.at_, n⟩ :: ents bs (n + 1)) i = Instr.findNow .string (.string (bL nm)) (ents bs (n + 1)) (i + 1) := by
        simp [Instr.findNow, Instr.sameNow, bL_beq, hne]
      rw [e]
      exact find_place bs nm (n + 1) (i + 1)
section
variable {P : Program} {w : World} {mty kt et : TypeId} {r clock : Nat} {es : Array MapEntry} {s : ByteArray} {v : Value}
theorem look2_old {i : Nat} (hm : P.underlying mty = some (.map kt et)) (hk : P.underlying kt = some .string) (hb : w.heap[r]? = some (.map es clock)) (hf : Instr.findNow .string (.string s) es.toList 0 = some (some (i, v))) :
    (Instr.lookup mty (.map (some r)) (.string s) true).run P w = .ok (.tuple #[v, .bool true]) w := by
  have hc : (Instr.checkKey es.isEmpty 10000 kt (.string s)).run P w = .ok () w := MapKept.run_checkKey (k := .string s) hk (by simp [IsKey]) _ 9999
  simp [Instr.lookup, run_underlying hm, MapKept.run_getObj_map hb, hc, MapKept.run_findKey hk hf, Result.andThen]
theorem look2_new {z : Value} {i0 : TypeInfo} (hm : P.underlying mty = some (.map kt et)) (hk : P.underlying kt = some .string) (hb : w.heap[r]? = some (.map es clock)) (hf : Instr.findNow .string (.string s) es.toList 0 = some none) (hi : P.info? et = some i0) (hz : i0.zero = some z) :
    (Instr.lookup mty (.map (some r)) (.string s) true).run P w = .ok (.tuple #[z, .bool false]) w := by
  have hc : (Instr.checkKey es.isEmpty 10000 kt (.string s)).run P w = .ok () w := MapKept.run_checkKey (k := .string s) hk (by simp [IsKey]) _ 9999
  simp [Instr.lookup, run_underlying hm, MapKept.run_getObj_map hb, hc, MapKept.run_findKey hk hf, zeroValue, typeInfo, hi, hz, Result.andThen]
end
end
section
open Go.ChangeShapes Go.WideShapes Go.ChangeAt Go.RowKit
set_option linter.unusedSimpArgs false

/-- What is known at the head of the first loop. -/
structure LI (w2 wr : World) (r : Nat) (st : PS) (u : Value) : Prop where
  row : wr.ownsRow r 30 2 u st.labels.length (st.labels.flatMap lbC)
  mp : wr.heap[r]? = some (.map (ents st.labels 0).toArray st.labels.length)
  bl : Below r w2 wr
theorem LI.call {w2 wr w' : World} {r : Nat} {st : PS} {u : Value} (h : LI w2 wr r st u) (hb : Below wr.heap.size wr w') : LI w2 w' r st u := by
  have hr : r < wr.heap.size := (Array.getElem?_eq_some_iff.1 h.mp).1
  refine ⟨own_below h.row hb, ?_, h.bl.trans (hb.mono (Nat.le_of_lt hr))⟩
  rw [hb.block r hr]
  exact h.mp
theorem LI.alloc {w2 wr : World} {r : Nat} {st : PS} {u : Value} (h : LI w2 wr r st u) (o : Obj) : LI w2 (wr.alloc o) r st u := h.call ((Below.refl _ _).alloc (Nat.le_refl _) _)
theorem LI.lab {w2 wr : World} {r : Nat} {st st' : PS} {u : Value} (h : LI w2 wr r st u) (e : st'.labels = st.labels) : LI w2 wr r st' u := ⟨by rw [e]; exact h.row, by rw [e]; exact h.mp, h.bl⟩
theorem own_not_map {w : World} {base r n c : Nat} {e : TypeId} {size : Nat} {v : Value} {xs : List Value} {es : Array MapEntry} (h : w.ownsRow base e size v n xs) (hm : w.heap[r]? = some (.map es c)) : some r ≠ v.ownBlock := by
  intro he
  obtain ⟨_, h⟩ := h
  rcases h with ⟨rfl, _⟩ | ⟨g, cap, cur, rfl, _, hg, _⟩
  · cases he
  · have : r = g := by simpa [Value.ownBlock] using he
    subst this
    rw [hm] at hg
    cases hg
/-- A new name in the map. -/
theorem LI.put {w2 wr : World} {r : Nat} {st : PS} {u : Value} (h : LI w2 wr r st u) (nm : List UInt8) (a : Int) (hn : placeL st.labels nm = none) : ∃ w', (Instr.mapUpdate 41 (.map (some r)) (.string (bL nm)) (.int .i64 a)).run Tryz.prog wr = .ok () w' ∧
    w'.heap[r]? = some (.map (ents (st.labels ++ [⟨nm, a⟩]) 0).toArray (st.labels.length + 1)) ∧ w'.ownsRow r 30 2 u st.labels.length (st.labels.flatMap lbC) ∧ Below r w2 w' ∧ wr.heap.size ≤ w'.heap.size := by
  have hf : Instr.findNow .string (.string (bL nm)) (ents st.labels 0).toArray.toList 0 = some none := by
    rcases find_place st.labels nm 0 0 with ⟨_, h2⟩ | ⟨p, j, h1, _⟩
    · simpa using h2
    · rw [hn] at h1; cases h1
  have hu := upd_new (v := .int .i64 a) Tryz.underlying41 Tryz.underlying9 h.mp hf
  obtain ⟨hg, hh⟩ := set_grown (.map ((ents st.labels 0).toArray.push ⟨.string (bL nm), .int .i64 a, st.labels.length⟩) (st.labels.length + 1)) h.mp
  refine ⟨_, hu, ?_, h.row.kept hg (.inr (Ne.symm (own_not_map h.row h.mp))), Below.grown h.bl hg (by have := (Array.getElem?_eq_some_iff.1 h.mp).1; omega) (fun k e => by injection e with e; omega), hg.size⟩
  rw [hh, ents_app, Nat.zero_add]
  simp
theorem one2 (T : ByteArray) (a : Int) : ∀ u ∈ ([.string T, .int .i64 a] : List Value), u.oneCell' = true := fun u hu => by
  simp only [List.mem_cons, List.not_mem_nil, or_false] at hu
  rcases hu with rfl | rfl <;> rfl
/-- Behind the new label's row. -/
theorem put_row {w2 w8 w9 : World} {r g9 cap9 : Nat} {st : PS} {u : Value} {nm : List UInt8} {NM : ByteArray} {a : Int} {o : Obj} (hm8 : w8.heap[r]? = some (.map (ents (st.labels ++ [⟨nm, a⟩]) 0).toArray (st.labels.length + 1))) (hb8 : Below r w2 w8) (r8 : some r ≠ u.ownBlock) (hg : (w8.alloc o).grownBy w9 u.ownBlock)
    (ho : w9.ownsRow r 30 2 (.slice (some ⟨g9, 0, none⟩) (st.labels.length + 1) cap9) (st.labels.length + 1) (st.labels.flatMap lbC ++ [.string NM, .int .i64 a])) (hNM : bL nm = NM) (hk : ∀ k, u.ownBlock = some k → r ≤ k) : LI w2 w9 r ⟨st.cells, st.labels ++ [⟨nm, a⟩], st.leads⟩ (.slice (some ⟨g9, 0, none⟩) (st.labels.length + 1) cap9) := by
  have hr : r < w8.heap.size := (Array.getElem?_eq_some_iff.1 hm8).1
  refine ⟨?_, ?_, Below.grown (hb8.alloc (Nat.le_of_lt hr) o) hg (by rw [World.size_alloc]; omega) hk⟩
  · show w9.ownsRow r 30 2 _ (st.labels ++ [(⟨nm, a⟩ : LB)]).length ((st.labels ++ [(⟨nm, a⟩ : LB)]).flatMap lbC)
    rw [List.length_append, List.flatMap_append]
    rw [← hNM] at ho
    exact ho
  · show w9.heap[r]? = some (.map (ents (st.labels ++ [⟨nm, a⟩]) 0).toArray (st.labels ++ [(⟨nm, a⟩ : LB)]).length)
    rw [hg.block r (by rw [World.size_alloc]; omega) r8, Below.heap_alloc w8 o r hr, hm8, List.length_append]
    rfl
theorem onei (v : Int) : ∀ u ∈ ([.int .i64 v] : List Value), u.oneCell' = true := fun u hu => by
  rw [List.mem_singleton] at hu
  subst hu
  rfl
theorem pack_num {o a b c : Int} (h : chkD o a b c = 0) : packI o a b c = numD o a b c := by
  unfold packI
  rw [← chk_eq, if_pos h]
  rfl
theorem parse_chk {x : List UInt8} (h : (parseD x).e = 0) : chkD (parseD x).o (parseD x).a (parseD x).b (parseD x).c = 0 := by
  rcases parse_cases x with ⟨h1, _⟩ | ⟨_, h1, _⟩
  · rw [h1] at h; cases h
  · exact h1
theorem below_set4 (w : World) (b : Nat) (u0 u1 u2 u3 : Value) : Below b w ((((w.setCell ⟨b, 0, none⟩ u0).setCell ⟨b, 1, none⟩ u1).setCell ⟨b, 2, none⟩ u2).setCell ⟨b, 3, none⟩ u3) :=
  ((((Below.refl b w).setCell (p := ⟨b, 0, none⟩) (Nat.le_refl _) u0).setCell (p := ⟨b, 1, none⟩) (Nat.le_refl _) u1).setCell (p := ⟨b, 2, none⟩) (Nat.le_refl _) u2).setCell (p := ⟨b, 3, none⟩) (Nat.le_refl _) u3
theorem box_set4 {w : World} {b : Nat} {c0 c1 c2 c3 : Value} (h : Box w b #[c0, c1, c2, c3]) (u0 u1 u2 u3 : Value) : Box ((((w.setCell ⟨b, 0, none⟩ u0).setCell ⟨b, 1, none⟩ u1).setCell ⟨b, 2, none⟩ u2).setCell ⟨b, 3, none⟩ u3) b #[u0, u1, u2, u3] :=
  (((h.set 0 u0 (by simp)).set 1 u1 (by simp)).set 2 u2 (by simp)).set 3 u3 (by simp)
theorem own_low {w w' : World} {B base : Nat} {e : TypeId} {size : Nat} {v : Value} {n : Nat} {xs : List Value} (h : w.ownsRow base e size v n xs) (hb : Below B w w') (hk : ∀ k, v.ownBlock = some k → k < B) : w'.ownsRow base e size v n xs := by
  obtain ⟨h1, h⟩ := h
  refine ⟨h1, ?_⟩
  rcases h with h | ⟨g, cap, cur, rfl, h2, h3, h4⟩
  · exact .inl h
  · exact .inr ⟨g, cap, cur, rfl, h2, by rw [hb.block g (hk g rfl)]; exact h3, h4⟩
theorem go_wf : ∀ (ls : List (List UInt8)) (st : PS) (n k : Nat), WFK st k → WFK (goS st n ls).1 (k + ls.length)
  | [], st, n, k, h => h
  | l :: ls, st, n, k, h => by
    rw [goS]
    split
    · have := go_wf ls _ (n + 1) (k + 1) (takeS_wf h (n : Int) l)
      rw [List.length_cons, show k + (ls.length + 1) = k + 1 + ls.length by omega]
      exact this
    · exact h.mono (by omega)
theorem place_mem2 : ∀ {bs : List LB} {nm : List UInt8} {p : Int}, placeL bs nm = some p → ∃ b ∈ bs, b.at_ = p
  | [], _, _, h => by cases h
  | b :: bs, nm, p, h => by
    rw [placeL] at h
    split at h
    · injection h with h
      exact ⟨b, List.mem_cons_self, h⟩
    · obtain ⟨c, hc, e⟩ := place_mem2 h
      exact ⟨c, List.mem_cons_of_mem _ hc, e⟩
/-- The look into the map. -/
theorem LI.look {w2 wr : World} {r : Nat} {st : PS} {u : Value} (h : LI w2 wr r st u) (nm : List UInt8) : ∃ z : Int, (Instr.lookup 41 (.map (some r)) (.string (bL nm)) true).run Tryz.prog wr = .ok (.tuple #[.int .i64 z, .bool (placeL st.labels nm).isSome]) wr ∧ ∀ p, placeL st.labels nm = some p → z = p := by
  obtain ⟨i0, hi, hz0, _⟩ := info_int
  rcases find_place st.labels nm 0 0 with ⟨h1, h2⟩ | ⟨p, j, h1, h2⟩
  · refine ⟨0, ?_, fun p hp => by rw [h1] at hp; cases hp⟩
    rw [h1]
    exact look2_new Tryz.underlying41 Tryz.underlying9 h.mp (by simpa using h2) hi hz0
  · refine ⟨p, ?_, fun q hq => by rw [h1] at hq; injection hq⟩
    rw [h1]
    exact look2_old Tryz.underlying41 Tryz.underlying9 h.mp (by simpa using h2)
set_option maxRecDepth 100000 in
set_option maxHeartbeats 8000000 in
theorem ref_progread (l : List UInt8) (w : World) (m : Int) (hM : w.cell? ⟨0, 0, none⟩ = some (.int .i64 m)) (zM : 0 < w.heap.size) (hl : l.length ≤ 1048576) :
    Calls Tryz.prog 5 #[.string (bL l)] w fun e w' => ∃ V1 V2, e = .returned (.tuple #[V1, V2, .int .i64 (readS l).n, .int .i64 (readS l).e]) ∧ Left w w' V1 V2 (readS l) := by
  have cS := fun w m hM => go_split l 10 w m hM (by omega)
  have cl : l.count 10 ≤ 1048576 := Nat.le_trans List.count_le_length hl
  have HM : Hid (∀ w', Below w.heap.size w w' → w'.cell? ⟨0, 0, none⟩ = some (.int .i64 m) ∧ 0 < w'.heap.size) := fun w' hb => ⟨by rw [hb.cell (p := ⟨0, 0, none⟩) zM]; exact hM, Nat.lt_of_lt_of_le zM hb.size⟩
  clear hM
  by_cases h150 : 150 ≤ l.count 10
  · rw [readS_large h150]
    have g : (150 : Int) < (l.count 10 : Int) + 1 := by omega
    generalize bL l = TXT at *
    generalize l.count 10 = cn at *
    go_enter Tryz.func5, Tryz.ntmps5
    go_wp2_with (go_at_call 9; refine (cS _ m (HM.out _ (Below.refl _ _)).1).mono ?_; rintro e w1 ⟨rfl, rfl⟩; clear cS)
    exact bodyPost_ret (v := .tuple #[.slice none 0 0, .slice none 0 0, .int .i64 0, .int .i64 2]) (by simp [results, Tryz.results5, go_sem]) rfl ⟨_, _, rfl, left_nil ((Below.refl _ _).alloc (Nat.le_refl _) _) _ _⟩
  · have g : ¬ (150 : Int) < (l.count 10 : Int) + 1 := by omega
    have hmm := @run_makeMap_plain Tryz.prog
    rw [← sp_len] at cS
    have g' : ¬ (150 : Int) < ((sp 10 l).length : Int) := by rw [sp_len]; omega
    have ls150 : (sp 10 l).length ≤ 150 := by rw [sp_len]; omega
    have lx : ∀ x ∈ sp 10 l, x.length ≤ 1048576 := fun x hx => Nat.le_trans (sp_le 10 l x hx) hl
    obtain ⟨LS, hLS⟩ : ∃ LS, sp 10 l = LS := ⟨_, rfl⟩
    rw [hLS] at cS g' ls150 lx
    have HLS : Hid (sp 10 l = LS) := hLS
    clear g hLS
    generalize hTX : bL l = TXT at *
    clear hTX
    go_enter Tryz.func5, Tryz.ntmps5
    go_upto_region 8 with (go_at_call 9; refine (cS _ m (HM.out _ (Below.refl _ _)).1).mono ?_; rintro e w1 ⟨rfl, rfl⟩; clear cS)
    obtain ⟨w2, hw2⟩ : ∃ w2, w2 = (w.alloc (.cells (LS.map fun x => Value.string (bL x)).toArray 9)).alloc (.map #[] 0) := ⟨_, rfl⟩
    rw [← hw2]
    have hB2 : Below w.heap.size w w2 := by rw [hw2]; exact two _ _
    have hmp : w2.heap[w.heap.size + 1]? = some (.map #[] 0) := by
      rw [hw2]
      have := heap_alloc_new (w.alloc (.cells (LS.map fun x => Value.string (bL x)).toArray 9)) (.map #[] 0)
      rwa [World.size_alloc] at this
    have HC : Hid (∀ (k : Nat) (x : List UInt8), LS[k]? = some x → w2.cell? ⟨w.heap.size, k, none⟩ = some (.string (bL x))) := fun k x hx => by
      rw [hw2, cell_old _ _ _ _ (by simp), cell_new]
      simp [hx]
    have lt2 : w.heap.size + 1 < w2.heap.size := (Array.getElem?_eq_some_iff.1 hmp).1
    have hmp' : w2.heap[w.heap.size + 1]? = some (.map (ents [] 0).toArray ([] : List LB).length) := hmp
    obtain ⟨r, hr⟩ : ∃ r, w.heap.size + 1 = r := ⟨_, rfl⟩
    rw [hr] at hmp' lt2 ⊢
    have HR : Hid (w.heap.size + 1 = r) := hr
    clear hw2 hmp hr
    go_loopw [7, 9, 43] (fun u a i wr => ∃ (k : Nat) (st : PS), k ≤ LS.length ∧ i = .int .i64 (k : Int) ∧ a = .int .i64 (st.cells.length : Int) ∧ LI w2 wr r st u ∧ goS ⟨[], [], []⟩ 1 LS = goS st (k + 1) (LS.drop k) ∧ st.cells.length ≤ k ∧ st.labels.length ≤ 20) (fun _ _ i _ => LS.length - (intOf i).toNat)
    case atStart => exact ⟨0, ⟨[], [], []⟩, Nat.zero_le _, rfl, rfl, ⟨World.ownsRow_nil _ _ _ _, hmp', Below.refl _ _⟩, rfl, Nat.le_refl _, by decide⟩
    case round =>
      obtain ⟨k, st, hk, rfl, rfl, I, hgo0, hck, h20⟩ := hrel
      have hgo : goS ⟨[], [], []⟩ 1 (sp 10 l) = goS st (k + 1) (LS.drop k) := by rw [HLS.out]; exact hgo0
      clear hgo0
      have hBr : Below w.heap.size w wr := hB2.trans (I.bl.mono (by have := HR.out; omega))
      by_cases hlt : k < LS.length
      · have gk : (k : Int) < (LS.length : Int) := by omega
        obtain ⟨x, hx⟩ : ∃ x, LS[k]? = some x := ⟨_, List.getElem?_eq_getElem hlt⟩
        have hcell := HC.out k x hx
        rw [← I.bl.cell (p := ⟨w.heap.size, k, none⟩) (by have := HR.out; show w.heap.size < r; omega)] at hcell
        have hdr : LS.drop k = x :: LS.drop (k + 1) := by
          rw [List.drop_eq_getElem_cons hlt]
          rw [List.getElem?_eq_getElem hlt] at hx
          injection hx with hx
          rw [hx]
        have hxl := lx x (List.mem_of_getElem? hx)
        obtain ⟨U, q, hJf, cJ⟩ := ref_jump x hxl
        have cW := fun w => ref_word x w hxl
        have cP := fun w m hM zM => ref_instparse x w m hM zM (by omega)
        have cT := fun w => Tryz.strings_TrimSuffix (bL x) ⟨#[58]⟩ w (by rw [bL_size]; omega)
        rw [bL_list] at cT
        obtain ⟨nm, hnm⟩ : ∃ nm, Lib.trimSuffix x [58] = nm := ⟨_, rfl⟩
        change ∀ w, Calls _ _ _ _ fun e w' => e = .returned (.string (bL (Lib.trimSuffix x [58]))) ∧ w' = w at cT
        rw [hnm] at cT
        have HN0 : Hid (Lib.trimSuffix x [58] = nm) := hnm
        clear hnm
        obtain ⟨NM, hNM⟩ : ∃ NM, bL nm = NM := ⟨_, rfl⟩
        have HNM : Hid (bL nm = NM) := hNM
        rw [hNM] at cT
        obtain ⟨tw, htw⟩ : ∃ tw, (placeL st.labels nm).isSome = tw := ⟨_, rfl⟩
        have HTW : Hid ((placeL st.labels nm).isSome = tw) := htw
        clear htw
        have hz : ((bL x).size : Int) = (x.length : Int) := by rw [bL_size]
        have kk1 : IntKind.i64.wrap ((k : Int) + 1) = (k : Int) + 1 := by rw [IntKind.wrap_i64]; omega
        by_cases h80 : 80 < x.length
        · have g80 : (80 : Int) < ((bL x).size : Int) := by omega
          have htk : takeS st ((k + 1 : Nat) : Int) x = (st, 2) := by unfold takeS; rw [if_pos h80]
          obtain ⟨PO, PA, PB, PC, PE, hPD⟩ : ∃ o a b c e, parseD x = ⟨o, a, b, c, e⟩ := ⟨_, _, _, _, _, rfl⟩
          rw [hPD] at cP
          dsimp only at cP
          generalize wordV x = WV at *
          generalize (jumpL x).isSome = HO at *
          generalize bL q = QQ at *
          generalize bL x = T at *
          clear hz hNM hPD
          have hrd : readS l = ⟨[], [], (k : Int) + 1, 2⟩ := readS_bad h150 (by rw [hgo, hdr, goS, if_neg (by rw [htk]; show ¬ (2 : Int) = 0; decide)]; rw [htk]; rfl) (by decide)
          have HRD : Hid (readS l = ⟨[], [], (k : Int) + 1, 2⟩) := hrd
          clear hrd hgo hdr htk hx hJf h80
          go_wp2_with (first | (go_at_call 12; refine (cJ _ m (HM.out _ hBr).1 (HM.out _ hBr).2).mono ?_; rintro e w3 ⟨rfl, hbb⟩; have I3 := I.call hbb; have hB3 := Below.step0 hBr hbb; clear hbb cJ) | (go_at_call 13; refine (cW _).mono ?_; rintro e w4 ⟨rfl, hbb⟩; have I4 := (I3.alloc _).call hbb; have hB4 := Below.step0 (hB3.alloc hB3.size _) hbb; clear hbb cW I3) | (go_at_call 14; refine (cP _ m (HM.out _ hB4).1 (HM.out _ hB4).2).mono ?_; rintro e w5 ⟨rfl, hbb⟩; have I5 := (I4.call hbb).alloc (.cells #[.int .i64 PO, .int .i64 PA, .int .i64 PB, .int .i64 PC] 43); have hB5 := Below.step0 hB4 hbb; obtain ⟨zl, hlk, hzl⟩ := I5.look nm; rw [HNM.out] at hlk; rw [HTW.out] at hlk; clear hbb cP I4) | (go_at_call 15; refine (cT _).mono ?_; rintro e w6 ⟨rfl, hw6⟩; rw [hw6]; clear hw6 cT w6) | (go_at_call 16; refine (cN _).mono ?_; rintro e w6 ⟨rfl, hw6⟩; rw [hw6]; clear hw6 w6))
          exact bodyPost_ret (v := .tuple #[.slice none 0 0, .slice none 0 0, .int .i64 ((k : Int) + 1), .int .i64 2]) (by simp [results, Tryz.results5, go_sem]) rfl (by rw [HRD.out]; exact ⟨_, _, rfl, left_nil (hB5.alloc hB5.size _) _ _⟩)
        · have g80 : ¬ (80 : Int) < ((bL x).size : Int) := by omega
          obtain ⟨a7, c7, e7⟩ := own_slice I.row
          subst e7
          by_cases hx0 : x = []
          · have hie : (bL x).toList.isEmpty = true := by rw [ByteArray.toList_eq, bL_list, hx0]; rfl
            have htk : takeS st ((k + 1 : Nat) : Int) x = (st, 0) := by rw [hx0]; exact take_nil _ _
            obtain ⟨PO, PA, PB, PC, PE, hPD⟩ : ∃ o a b c e, parseD x = ⟨o, a, b, c, e⟩ := ⟨_, _, _, _, _, rfl⟩
            rw [hPD] at cP
            dsimp only at cP
            generalize wordV x = WV at *
            generalize (jumpL x).isSome = HO at *
            generalize bL q = QQ at *
            generalize bL x = T at *
            clear hz hNM hPD
            have hgo2 : goS ⟨[], [], []⟩ 1 LS = goS st (k + 1 + 1) (LS.drop (k + 1)) := by have h := hgo; rw [HLS.out, hdr, goS, htk] at h; exact h.trans (if_pos rfl)
            have HGO : Hid (goS ⟨[], [], []⟩ 1 LS = goS st (k + 1 + 1) (LS.drop (k + 1))) := hgo2
            clear hgo2 hgo hdr htk hx hJf h80 hx0
            go_wp2_with (first | (go_at_call 12; refine (cJ _ m (HM.out _ hBr).1 (HM.out _ hBr).2).mono ?_; rintro e w3 ⟨rfl, hbb⟩; have I3 := I.call hbb; have hB3 := Below.step0 hBr hbb; clear hbb cJ) | (go_at_call 13; refine (cW _).mono ?_; rintro e w4 ⟨rfl, hbb⟩; have I4 := (I3.alloc _).call hbb; have hB4 := Below.step0 (hB3.alloc hB3.size _) hbb; clear hbb cW I3) | (go_at_call 14; refine (cP _ m (HM.out _ hB4).1 (HM.out _ hB4).2).mono ?_; rintro e w5 ⟨rfl, hbb⟩; have I5 := (I4.call hbb).alloc (.cells #[.int .i64 PO, .int .i64 PA, .int .i64 PB, .int .i64 PC] 43); have hB5 := Below.step0 hB4 hbb; obtain ⟨zl, hlk, hzl⟩ := I5.look nm; rw [HNM.out] at hlk; rw [HTW.out] at hlk; clear hbb cP I4) | (go_at_call 15; refine (cT _).mono ?_; rintro e w6 ⟨rfl, hw6⟩; rw [hw6]; clear hw6 cT w6) | (go_at_call 16; refine (cN _).mono ?_; rintro e w6 ⟨rfl, hw6⟩; rw [hw6]; clear hw6 w6))
            go_roundw
            case rel => exact ⟨k + 1, st, by omega, rfl, rfl, I5.lab rfl, HGO.out, by first | omega | (simp; omega), h20⟩
            case measure => simp [intOf]; omega
          · have hie : (bL x).toList.isEmpty = false := by
              rw [ByteArray.toList_eq, bL_list]
              cases x with
              | nil => exact absurd rfl hx0
              | cons a rr => rfl
            cases hlb : isLb x
            · have hnx : nm = x := by
                rw [← HN0.out]
                unfold Lib.trimSuffix Lib.hasSuffix
                rw [if_neg (by have h : ([58] : List UInt8).isSuffixOf x = false := hlb; rw [h]; simp)]
              have es := str_same (show NM = bL x by rw [← hNM, hnx])
              have hlb' : ¬ ([58] : List UInt8).isSuffixOf x = true := by have h : ([58] : List UInt8).isSuffixOf x = false := hlb; rw [h]; simp
              have htc : takeS st ((k + 1 : Nat) : Int) x = takeCl st ((k + 1 : Nat) : Int) x := by unfold takeS; rw [if_neg h80, if_neg hx0, if_neg hlb']
              have wcl : IntKind.i64.wrap ((st.cells.length : Int) + 1) = (st.cells.length : Int) + 1 := by rw [IntKind.wrap_i64]; omega
              rcases cell_kinds x with ⟨v, hwv, hcl, hjn⟩ | ⟨hwv, hpe, hcl, hjn⟩ | ⟨hwv, hpe, hcl⟩
              · have htk : takeS st ((k + 1 : Nat) : Int) x = (⟨st.cells ++ [v], st.labels, st.leads⟩, 0) := by rw [htc]; unfold takeCl; rw [hcl]
                rw [hjn] at cJ
                rw [hwv] at cW
                dsimp only at cW
                simp only [Option.isSome_none] at cJ
                obtain ⟨PO, PA, PB, PC, PE, hPD⟩ : ∃ o a b c e, parseD x = ⟨o, a, b, c, e⟩ := ⟨_, _, _, _, _, rfl⟩
                rw [hPD] at cP
                dsimp only at cP
                generalize bL q = QQ at *
                generalize bL x = T at *
                clear hz hNM hPD
                have hgo2 : goS ⟨[], [], []⟩ 1 LS = goS ⟨st.cells ++ [v], st.labels, st.leads⟩ (k + 1 + 1) (LS.drop (k + 1)) := by have h := hgo; rw [HLS.out, hdr, goS, htk] at h; exact h.trans (if_pos rfl)
                have HGO : Hid (goS ⟨[], [], []⟩ 1 LS = goS ⟨st.cells ++ [v], st.labels, st.leads⟩ (k + 1 + 1) (LS.drop (k + 1))) := hgo2
                clear hgo2 hgo hdr htk hx hJf h80 hx0 hlb hlb' htc hnx hwv hcl hjn
                go_wp2_with (first | (go_at_call 12; refine (cJ _ m (HM.out _ hBr).1 (HM.out _ hBr).2).mono ?_; rintro e w3 ⟨rfl, hbb⟩; have I3 := I.call hbb; have hB3 := Below.step0 hBr hbb; clear hbb cJ) | (go_at_call 13; refine (cW _).mono ?_; rintro e w4 ⟨rfl, hbb⟩; have I4 := (I3.alloc _).call hbb; have hB4 := Below.step0 (hB3.alloc hB3.size _) hbb; clear hbb cW I3) | (go_at_call 14; refine (cP _ m (HM.out _ hB4).1 (HM.out _ hB4).2).mono ?_; rintro e w5 ⟨rfl, hbb⟩; have I5 := (I4.call hbb).alloc (.cells #[.int .i64 PO, .int .i64 PA, .int .i64 PB, .int .i64 PC] 43); have hB5 := Below.step0 hB4 hbb; obtain ⟨zl, hlk, hzl⟩ := I5.look nm; rw [HNM.out] at hlk; rw [HTW.out] at hlk; clear hbb cP I4) | (go_at_call 15; refine (cT _).mono ?_; rintro e w6 ⟨rfl, hw6⟩; rw [hw6]; clear hw6 cT w6) | (go_at_call 16; refine (cN _).mono ?_; rintro e w6 ⟨rfl, hw6⟩; rw [hw6]; clear hw6 w6))
                go_roundw
                case rel => exact ⟨k + 1, ⟨st.cells ++ [v], st.labels, st.leads⟩, by omega, rfl, by simp, I5.lab rfl, HGO.out, by first | omega | (simp; omega), h20⟩
                case measure => simp [intOf]; omega
              · have htk : takeS st ((k + 1 : Nat) : Int) x = (⟨st.cells ++ [numD (parseD x).o (parseD x).a (parseD x).b (parseD x).c], st.labels, st.leads⟩, 0) := by rw [htc]; unfold takeCl; rw [hcl]
                generalize numD (parseD x).o (parseD x).a (parseD x).b (parseD x).c = v at *
                rw [hjn] at cJ
                simp only [Option.isSome_none] at cJ
                generalize hWV : wordV x = WV at *
                obtain ⟨wv1, wv2⟩ := WV
                obtain rfl : wv2 = false := hwv
                dsimp only at cW
                clear hWV
                obtain ⟨PO, PA, PB, PC, PE, hPD⟩ : ∃ o a b c e, parseD x = ⟨o, a, b, c, e⟩ := ⟨_, _, _, _, _, rfl⟩
                rw [hPD] at cP
                dsimp only at cP
                generalize bL q = QQ at *
                generalize bL x = T at *
                obtain rfl : PE = 0 := by rw [hPD] at hpe; exact hpe
                clear hz hNM hPD
                have hgo2 : goS ⟨[], [], []⟩ 1 LS = goS ⟨st.cells ++ [v], st.labels, st.leads⟩ (k + 1 + 1) (LS.drop (k + 1)) := by have h := hgo; rw [HLS.out, hdr, goS, htk] at h; exact h.trans (if_pos rfl)
                have HGO : Hid (goS ⟨[], [], []⟩ 1 LS = goS ⟨st.cells ++ [v], st.labels, st.leads⟩ (k + 1 + 1) (LS.drop (k + 1))) := hgo2
                clear hgo2 hgo hdr htk hx hJf h80 hx0 hlb hlb' htc hnx hcl hjn hpe
                go_wp2_with (first | (go_at_call 12; refine (cJ _ m (HM.out _ hBr).1 (HM.out _ hBr).2).mono ?_; rintro e w3 ⟨rfl, hbb⟩; have I3 := I.call hbb; have hB3 := Below.step0 hBr hbb; clear hbb cJ) | (go_at_call 13; refine (cW _).mono ?_; rintro e w4 ⟨rfl, hbb⟩; have I4 := (I3.alloc _).call hbb; have hB4 := Below.step0 (hB3.alloc hB3.size _) hbb; clear hbb cW I3) | (go_at_call 14; refine (cP _ m (HM.out _ hB4).1 (HM.out _ hB4).2).mono ?_; rintro e w5 ⟨rfl, hbb⟩; have I5 := (I4.call hbb).alloc (.cells #[.int .i64 PO, .int .i64 PA, .int .i64 PB, .int .i64 PC] 43); have hB5 := Below.step0 hB4 hbb; obtain ⟨zl, hlk, hzl⟩ := I5.look nm; rw [HNM.out] at hlk; rw [HTW.out] at hlk; clear hbb cP I4) | (go_at_call 15; refine (cT _).mono ?_; rintro e w6 ⟨rfl, hw6⟩; rw [hw6]; clear hw6 cT w6) | (go_at_call 16; refine (cN _).mono ?_; rintro e w6 ⟨rfl, hw6⟩; rw [hw6]; clear hw6 w6))
                go_roundw
                case rel => exact ⟨k + 1, ⟨st.cells ++ [v], st.labels, st.leads⟩, by omega, rfl, by simp, I5.lab rfl, HGO.out, by first | omega | (simp; omega), h20⟩
                case measure => simp [intOf]; omega
              · cases hjm : jumpL x with
                | some J =>
                  have htk : takeS st ((k + 1 : Nat) : Int) x = (⟨st.cells ++ [0], st.labels, st.leads ++ [⟨((k + 1 : Nat) : Int), st.cells.length, J⟩]⟩, 0) := by rw [htc]; unfold takeCl; rw [hcl, hjm]
                  rw [hjm] at cJ
                  simp only [Option.isSome_some] at cJ
                  obtain ⟨PO, PA, PB, PC, PE, hPD⟩ : ∃ o a b c e, parseD x = ⟨o, a, b, c, e⟩ := ⟨_, _, _, _, _, rfl⟩
                  rw [hPD] at cP
                  dsimp only at cP
                  generalize wordV x = WV at *
                  generalize bL q = QQ at *
                  generalize bL x = T at *
                  clear hz hNM hPD
                  have hgo2 : goS ⟨[], [], []⟩ 1 LS = goS ⟨st.cells ++ [0], st.labels, st.leads ++ [⟨((k + 1 : Nat) : Int), st.cells.length, J⟩]⟩ (k + 1 + 1) (LS.drop (k + 1)) := by have h := hgo; rw [HLS.out, hdr, goS, htk] at h; exact h.trans (if_pos rfl)
                  have HGO : Hid (goS ⟨[], [], []⟩ 1 LS = goS ⟨st.cells ++ [0], st.labels, st.leads ++ [⟨((k + 1 : Nat) : Int), st.cells.length, J⟩]⟩ (k + 1 + 1) (LS.drop (k + 1))) := hgo2
                  clear hgo2 hgo hdr htk hx hJf h80 hx0 hlb hlb' htc hnx hwv hcl hpe hjm
                  go_wp2_with (first | (go_at_call 12; refine (cJ _ m (HM.out _ hBr).1 (HM.out _ hBr).2).mono ?_; rintro e w3 ⟨rfl, hbb⟩; have I3 := I.call hbb; have hB3 := Below.step0 hBr hbb; clear hbb cJ) | (go_at_call 13; refine (cW _).mono ?_; rintro e w4 ⟨rfl, hbb⟩; have I4 := (I3.alloc _).call hbb; have hB4 := Below.step0 (hB3.alloc hB3.size _) hbb; clear hbb cW I3) | (go_at_call 14; refine (cP _ m (HM.out _ hB4).1 (HM.out _ hB4).2).mono ?_; rintro e w5 ⟨rfl, hbb⟩; have I5 := (I4.call hbb).alloc (.cells #[.int .i64 PO, .int .i64 PA, .int .i64 PB, .int .i64 PC] 43); have hB5 := Below.step0 hB4 hbb; obtain ⟨zl, hlk, hzl⟩ := I5.look nm; rw [HNM.out] at hlk; rw [HTW.out] at hlk; clear hbb cP I4) | (go_at_call 15; refine (cT _).mono ?_; rintro e w6 ⟨rfl, hw6⟩; rw [hw6]; clear hw6 cT w6) | (go_at_call 16; refine (cN _).mono ?_; rintro e w6 ⟨rfl, hw6⟩; rw [hw6]; clear hw6 w6))
                  go_roundw
                  case rel => exact ⟨k + 1, ⟨st.cells ++ [0], st.labels, st.leads ++ [⟨((k + 1 : Nat) : Int), st.cells.length, J⟩]⟩, by omega, rfl, by simp, I5.lab rfl, HGO.out, by first | omega | (simp; omega), h20⟩
                  case measure => simp [intOf]; omega
                | none =>
                  have htk : takeS st ((k + 1 : Nat) : Int) x = (st, 3) := by rw [htc]; unfold takeCl; rw [hcl, hjm]
                  rw [hjm] at cJ
                  simp only [Option.isSome_none] at cJ
                  generalize hWV : wordV x = WV at *
                  obtain ⟨wv1, wv2⟩ := WV
                  obtain rfl : wv2 = false := hwv
                  dsimp only at cW
                  obtain ⟨PO, PA, PB, PC, PE, hPD⟩ : ∃ o a b c e, parseD x = ⟨o, a, b, c, e⟩ := ⟨_, _, _, _, _, rfl⟩
                  rw [hPD] at cP
                  dsimp only at cP
                  generalize bL q = QQ at *
                  generalize bL x = T at *
                  have gpe : (PE != 0) = true := by rw [hPD] at hpe; simpa using hpe
                  clear hz hNM hPD hWV
                  have hrd : readS l = ⟨[], [], (k : Int) + 1, 3⟩ := readS_bad h150 (by rw [hgo, hdr, goS, if_neg (by rw [htk]; show ¬ (3 : Int) = 0; decide)]; rw [htk]; rfl) (by decide)
                  have HRD : Hid (readS l = ⟨[], [], (k : Int) + 1, 3⟩) := hrd
                  clear hrd hgo hdr htk hx hJf h80 hx0 hlb hlb' htc hnx hcl hpe hjm
                  go_wp2_with (first | (go_at_call 12; refine (cJ _ m (HM.out _ hBr).1 (HM.out _ hBr).2).mono ?_; rintro e w3 ⟨rfl, hbb⟩; have I3 := I.call hbb; have hB3 := Below.step0 hBr hbb; clear hbb cJ) | (go_at_call 13; refine (cW _).mono ?_; rintro e w4 ⟨rfl, hbb⟩; have I4 := (I3.alloc _).call hbb; have hB4 := Below.step0 (hB3.alloc hB3.size _) hbb; clear hbb cW I3) | (go_at_call 14; refine (cP _ m (HM.out _ hB4).1 (HM.out _ hB4).2).mono ?_; rintro e w5 ⟨rfl, hbb⟩; have I5 := (I4.call hbb).alloc (.cells #[.int .i64 PO, .int .i64 PA, .int .i64 PB, .int .i64 PC] 43); have hB5 := Below.step0 hB4 hbb; obtain ⟨zl, hlk, hzl⟩ := I5.look nm; rw [HNM.out] at hlk; rw [HTW.out] at hlk; clear hbb cP I4) | (go_at_call 15; refine (cT _).mono ?_; rintro e w6 ⟨rfl, hw6⟩; rw [hw6]; clear hw6 cT w6) | (go_at_call 16; refine (cN _).mono ?_; rintro e w6 ⟨rfl, hw6⟩; rw [hw6]; clear hw6 w6))
                  exact bodyPost_ret (v := .tuple #[.slice none 0 0, .slice none 0 0, .int .i64 ((k : Int) + 1), .int .i64 3]) (by simp [results, Tryz.results5, go_sem]) rfl (by rw [HRD.out]; exact ⟨_, _, rfl, left_nil (hB5.alloc hB5.size _) _ _⟩)
            · have hlb' : ([58] : List UInt8).isSuffixOf x = true := hlb
              have hnx : nm = x.take (x.length - 1) := by
                rw [← HN0.out]
                unfold Lib.trimSuffix Lib.hasSuffix
                rw [if_pos hlb']
                rfl
              have hxp : 0 < x.length := List.length_pos_iff.2 hx0
              have hne : ¬ nm = x := fun e => by
                have h1 := congrArg List.length (hnx.symm.trans e)
                rw [List.length_take] at h1
                omega
              have es := str_differ (fun h : NM = bL x => hne (bL_inj (hNM.trans h)))
              have htc : takeS st ((k + 1 : Nat) : Int) x = takeLb st nm := by unfold takeS; rw [if_neg h80, if_neg hx0, if_pos hlb', hnx]
              have cN := fun w => ref_isname nm w (by rw [hnx, List.length_take]; omega)
              rw [hNM] at cN
              cases hna : nameL nm
              · have htk : takeS st ((k + 1 : Nat) : Int) x = (st, 3) := by rw [htc]; unfold takeLb; rw [if_pos hna]
                rw [hna] at cN
                obtain ⟨PO, PA, PB, PC, PE, hPD⟩ : ∃ o a b c e, parseD x = ⟨o, a, b, c, e⟩ := ⟨_, _, _, _, _, rfl⟩
                rw [hPD] at cP
                dsimp only at cP
                generalize wordV x = WV at *
                generalize (jumpL x).isSome = HO at *
                generalize bL q = QQ at *
                generalize bL x = T at *
                clear hz hNM hPD
                have hrd : readS l = ⟨[], [], (k : Int) + 1, 3⟩ := readS_bad h150 (by rw [hgo, hdr, goS, if_neg (by rw [htk]; show ¬ (3 : Int) = 0; decide)]; rw [htk]; rfl) (by decide)
                have HRD : Hid (readS l = ⟨[], [], (k : Int) + 1, 3⟩) := hrd
                clear hrd hgo hdr htk hx hJf h80 hx0 hlb hlb' htc hnx hna hne hxp
                go_wp2_with (first | (go_at_call 12; refine (cJ _ m (HM.out _ hBr).1 (HM.out _ hBr).2).mono ?_; rintro e w3 ⟨rfl, hbb⟩; have I3 := I.call hbb; have hB3 := Below.step0 hBr hbb; clear hbb cJ) | (go_at_call 13; refine (cW _).mono ?_; rintro e w4 ⟨rfl, hbb⟩; have I4 := (I3.alloc _).call hbb; have hB4 := Below.step0 (hB3.alloc hB3.size _) hbb; clear hbb cW I3) | (go_at_call 14; refine (cP _ m (HM.out _ hB4).1 (HM.out _ hB4).2).mono ?_; rintro e w5 ⟨rfl, hbb⟩; have I5 := (I4.call hbb).alloc (.cells #[.int .i64 PO, .int .i64 PA, .int .i64 PB, .int .i64 PC] 43); have hB5 := Below.step0 hB4 hbb; obtain ⟨zl, hlk, hzl⟩ := I5.look nm; rw [HNM.out] at hlk; rw [HTW.out] at hlk; clear hbb cP I4) | (go_at_call 15; refine (cT _).mono ?_; rintro e w6 ⟨rfl, hw6⟩; rw [hw6]; clear hw6 cT w6) | (go_at_call 16; refine (cN _).mono ?_; rintro e w6 ⟨rfl, hw6⟩; rw [hw6]; clear hw6 w6))
                exact bodyPost_ret (v := .tuple #[.slice none 0 0, .slice none 0 0, .int .i64 ((k : Int) + 1), .int .i64 3]) (by simp [results, Tryz.results5, go_sem]) rfl (by rw [HRD.out]; exact ⟨_, _, rfl, left_nil (hB5.alloc hB5.size _) _ _⟩)
              · rw [hna] at cN
                cases tw
                · have hpn : placeL st.labels nm = none := by
                    have h := HTW.out
                    cases hp : placeL st.labels nm with
                    | none => rfl
                    | some p => rw [hp] at h; cases h
                  by_cases hf20 : 20 ≤ st.labels.length
                  · have g20 : ((st.labels.length : Int) == 20) = true := by rw [beq_iff_eq]; omega
                    have htk : takeS st ((k + 1 : Nat) : Int) x = (st, 9) := by rw [htc]; unfold takeLb; rw [if_neg (by rw [hna]; simp), if_neg (by rw [hpn]; simp), if_pos hf20]
                    obtain ⟨PO, PA, PB, PC, PE, hPD⟩ : ∃ o a b c e, parseD x = ⟨o, a, b, c, e⟩ := ⟨_, _, _, _, _, rfl⟩
                    rw [hPD] at cP
                    dsimp only at cP
                    generalize wordV x = WV at *
                    generalize (jumpL x).isSome = HO at *
                    generalize bL q = QQ at *
                    generalize bL x = T at *
                    clear hz hNM hPD
                    have hrd : readS l = ⟨[], [], (k : Int) + 1, 9⟩ := readS_bad h150 (by rw [hgo, hdr, goS, if_neg (by rw [htk]; show ¬ (9 : Int) = 0; decide)]; rw [htk]; rfl) (by decide)
                    have HRD : Hid (readS l = ⟨[], [], (k : Int) + 1, 9⟩) := hrd
                    clear hrd hgo hdr htk hx hJf h80 hx0 hlb hlb' htc hnx hna hne hxp hpn hf20
                    go_wp2_with (first | (go_at_call 12; refine (cJ _ m (HM.out _ hBr).1 (HM.out _ hBr).2).mono ?_; rintro e w3 ⟨rfl, hbb⟩; have I3 := I.call hbb; have hB3 := Below.step0 hBr hbb; clear hbb cJ) | (go_at_call 13; refine (cW _).mono ?_; rintro e w4 ⟨rfl, hbb⟩; have I4 := (I3.alloc _).call hbb; have hB4 := Below.step0 (hB3.alloc hB3.size _) hbb; clear hbb cW I3) | (go_at_call 14; refine (cP _ m (HM.out _ hB4).1 (HM.out _ hB4).2).mono ?_; rintro e w5 ⟨rfl, hbb⟩; have I5 := (I4.call hbb).alloc (.cells #[.int .i64 PO, .int .i64 PA, .int .i64 PB, .int .i64 PC] 43); have hB5 := Below.step0 hB4 hbb; obtain ⟨zl, hlk, hzl⟩ := I5.look nm; rw [HNM.out] at hlk; rw [HTW.out] at hlk; clear hbb cP I4) | (go_at_call 15; refine (cT _).mono ?_; rintro e w6 ⟨rfl, hw6⟩; rw [hw6]; clear hw6 cT w6) | (go_at_call 16; refine (cN _).mono ?_; rintro e w6 ⟨rfl, hw6⟩; rw [hw6]; clear hw6 w6))
                    exact bodyPost_ret (v := .tuple #[.slice none 0 0, .slice none 0 0, .int .i64 ((k : Int) + 1), .int .i64 9]) (by simp [results, Tryz.results5, go_sem]) rfl (by rw [HRD.out]; exact ⟨_, _, rfl, left_nil (hB5.alloc hB5.size _) _ _⟩)
                  · have g20 : ((st.labels.length : Int) == 20) = false := by rw [beq_eq_false_iff_ne]; omega
                    have htk : takeS st ((k + 1 : Nat) : Int) x = (⟨st.cells, st.labels ++ [⟨nm, st.cells.length⟩], st.leads⟩, 0) := by rw [htc]; unfold takeLb; rw [if_neg (by rw [hna]; simp), if_neg (by rw [hpn]; simp), if_neg hf20]
                    obtain ⟨i0, hi, hz0, hz1, hz2⟩ := info_lb
                    obtain ⟨PO, PA, PB, PC, PE, hPD⟩ : ∃ o a b c e, parseD x = ⟨o, a, b, c, e⟩ := ⟨_, _, _, _, _, rfl⟩
                    rw [hPD] at cP
                    dsimp only at cP
                    generalize wordV x = WV at *
                    generalize (jumpL x).isSome = HO at *
                    generalize bL q = QQ at *
                    generalize bL x = T at *
                    clear hz hPD
                    have HPN : Hid (placeL st.labels nm = none) := hpn
                    have h20' : st.labels.length + 1 ≤ 20 := by omega
                    have mxl : st.labels.length + 1 ≤ maxLen := by unfold maxLen; omega
                    have hgo2 : goS ⟨[], [], []⟩ 1 LS = goS ⟨st.cells, st.labels ++ [⟨nm, st.cells.length⟩], st.leads⟩ (k + 1 + 1) (LS.drop (k + 1)) := by have h := hgo; rw [HLS.out, hdr, goS, htk] at h; exact h.trans (if_pos rfl)
                    have HGO : Hid (goS ⟨[], [], []⟩ 1 LS = goS ⟨st.cells, st.labels ++ [⟨nm, st.cells.length⟩], st.leads⟩ (k + 1 + 1) (LS.drop (k + 1))) := hgo2
                    clear hgo2 hgo hdr htk hx hJf h80 hx0 hlb hlb' htc hnx hna hne hpn hf20 hxp hNM
                    go_wp2_with (first | (go_at_call 12; refine (cJ _ m (HM.out _ hBr).1 (HM.out _ hBr).2).mono ?_; rintro e w3 ⟨rfl, hbb⟩; have I3 := I.call hbb; have hB3 := Below.step0 hBr hbb; clear hbb cJ) | (go_at_call 13; refine (cW _).mono ?_; rintro e w4 ⟨rfl, hbb⟩; have I4 := (I3.alloc _).call hbb; have hB4 := Below.step0 (hB3.alloc hB3.size _) hbb; clear hbb cW I3) | (go_at_call 14; refine (cP _ m (HM.out _ hB4).1 (HM.out _ hB4).2).mono ?_; rintro e w5 ⟨rfl, hbb⟩; have I5 := (I4.call hbb).alloc (.cells #[.int .i64 PO, .int .i64 PA, .int .i64 PB, .int .i64 PC] 43); have hB5 := Below.step0 hB4 hbb; obtain ⟨zl, hlk, hzl⟩ := I5.look nm; rw [HNM.out] at hlk; rw [HTW.out] at hlk; obtain ⟨w8, hup, hm8, ho8, hb8, hs8⟩ := I5.put nm (st.cells.length : Int) HPN.out; rw [HNM.out] at hup; have r8 := own_not_map ho8 hm8; clear hbb cP I4) | (go_at_call 15; refine (cT _).mono ?_; rintro e w6 ⟨rfl, hw6⟩; rw [hw6]; clear hw6 cT w6) | (go_at_call 16; refine (cN _).mono ?_; rintro e w6 ⟨rfl, hw6⟩; rw [hw6]; clear hw6 w6) | (at_builtin; refine wpList_append_lies _ rfl _ _ _ rfl r 30 i0 _ 2 24 Tryz.underlying23 hi hz0 hz1 hz2 rfl (by decide) (.slice a7 st.labels.length c7) st.labels.length (st.labels.flatMap lbC) rfl (ho8.alloc _) ⟨w8.heap.size, 0, none⟩ 1 1 [.string NM, .int .i64 (st.cells.length : Int)] rfl rfl (World.news_of_block (cs := #[.string NM, .int .i64 (st.cells.length : Int)]) (t := 30) (fr := (0, 0)) (heap_alloc_new w8 (.cells #[.string NM, .int .i64 (st.cells.length : Int)] 30))) (one2 NM _) (by decide) mxl (by omega) (by rw [World.size_alloc]; have := (Array.getElem?_eq_some_iff.1 hm8).1; omega) _ rfl ?_; intro g9 cap9 w9 hown9 hgrow9 hat9 hlt9; have I9 : Hid (LI w2 w9 r ⟨st.cells, st.labels ++ [⟨nm, (st.cells.length : Int)⟩], st.leads⟩ (.slice (some ⟨g9, 0, none⟩) (st.labels.length + 1) cap9)) := put_row hm8 hb8 r8 hgrow9 hown9 HNM.out (fun k e => (ho8.lt k e).1); clear hown9 hgrow9 hat9))
                    go_roundw
                    case rel => exact ⟨k + 1, ⟨st.cells, st.labels ++ [⟨nm, st.cells.length⟩], st.leads⟩, by omega, rfl, rfl, I9.out, HGO.out, by show st.cells.length ≤ k + 1; omega, by simp; omega⟩
                    case measure => simp [intOf]; omega
                · have htk : takeS st ((k + 1 : Nat) : Int) x = (st, 8) := by rw [htc]; unfold takeLb; rw [if_neg (by rw [hna]; simp), if_pos HTW.out]
                  obtain ⟨PO, PA, PB, PC, PE, hPD⟩ : ∃ o a b c e, parseD x = ⟨o, a, b, c, e⟩ := ⟨_, _, _, _, _, rfl⟩
                  rw [hPD] at cP
                  dsimp only at cP
                  generalize wordV x = WV at *
                  generalize (jumpL x).isSome = HO at *
                  generalize bL q = QQ at *
                  generalize bL x = T at *
                  clear hz hNM hPD
                  have hrd : readS l = ⟨[], [], (k : Int) + 1, 8⟩ := readS_bad h150 (by rw [hgo, hdr, goS, if_neg (by rw [htk]; show ¬ (8 : Int) = 0; decide)]; rw [htk]; rfl) (by decide)
                  have HRD : Hid (readS l = ⟨[], [], (k : Int) + 1, 8⟩) := hrd
                  clear hrd hgo hdr htk hx hJf h80 hx0 hlb hlb' htc hnx hna hne hxp
                  go_wp2_with (first | (go_at_call 12; refine (cJ _ m (HM.out _ hBr).1 (HM.out _ hBr).2).mono ?_; rintro e w3 ⟨rfl, hbb⟩; have I3 := I.call hbb; have hB3 := Below.step0 hBr hbb; clear hbb cJ) | (go_at_call 13; refine (cW _).mono ?_; rintro e w4 ⟨rfl, hbb⟩; have I4 := (I3.alloc _).call hbb; have hB4 := Below.step0 (hB3.alloc hB3.size _) hbb; clear hbb cW I3) | (go_at_call 14; refine (cP _ m (HM.out _ hB4).1 (HM.out _ hB4).2).mono ?_; rintro e w5 ⟨rfl, hbb⟩; have I5 := (I4.call hbb).alloc (.cells #[.int .i64 PO, .int .i64 PA, .int .i64 PB, .int .i64 PC] 43); have hB5 := Below.step0 hB4 hbb; obtain ⟨zl, hlk, hzl⟩ := I5.look nm; rw [HNM.out] at hlk; rw [HTW.out] at hlk; clear hbb cP I4) | (go_at_call 15; refine (cT _).mono ?_; rintro e w6 ⟨rfl, hw6⟩; rw [hw6]; clear hw6 cT w6) | (go_at_call 16; refine (cN _).mono ?_; rintro e w6 ⟨rfl, hw6⟩; rw [hw6]; clear hw6 w6))
                  exact bodyPost_ret (v := .tuple #[.slice none 0 0, .slice none 0 0, .int .i64 ((k : Int) + 1), .int .i64 8]) (by simp [results, Tryz.results5, go_sem]) rfl (by rw [HRD.out]; exact ⟨_, _, rfl, left_nil (hB5.alloc hB5.size _) _ _⟩)
      · obtain rfl : k = LS.length := by omega
        have gk : ¬ (LS.length : Int) < (LS.length : Int) := by omega
        have hgo3 : goS ⟨[], [], []⟩ 1 (sp 10 l) = (st, 0, 0) := by rw [hgo, List.drop_length]; rfl
        obtain ⟨rd1, rd2⟩ := read_two_ways h150 hgo3
        have hwf := go_wf (sp 10 l) ⟨[], [], []⟩ 1 0 ⟨by simp, by simp, by simp, fun b hb => by simp at hb, fun d hd => by simp at hd⟩
        rw [hgo3, HLS.out] at hwf
        have HWF : Hid (∀ nm p, placeL st.labels nm = some p → 0 ≤ p ∧ p ≤ 150) := fun nm p hp => by
          obtain ⟨b, hb, e⟩ := place_mem2 hp
          have h1 := hwf.lb b hb
          have h2 := hwf.n1
          dsimp only at h1 h2
          omega
        clear hwf
        have hok := go_ok (sp 10 l) ⟨[], [], []⟩ 1 (by rw [hgo3])
        rw [HLS.out] at rd1 rd2 hok
        have HOK : Hid (∀ x ∈ LS, isCl x = true → cellL x = none → ∃ J, jumpL x = some J) := hok
        have R1 : Hid ((go2 st.labels [] 1 LS).2.2 = 0 → readS l = ⟨(go2 st.labels [] 1 LS).1, st.labels, 0, 0⟩) := rd1
        have R2 : Hid (¬ (go2 st.labels [] 1 LS).2.2 = 0 → readS l = ⟨[], [], (go2 st.labels [] 1 LS).2.1, (go2 st.labels [] 1 LS).2.2⟩) := rd2
        obtain ⟨w3, hw3⟩ : ∃ w3, w3 = wr := ⟨_, rfl⟩
        rw [← hw3] at I hBr ⊢
        clear hw3 hgo hgo3 rd1 rd2 hok hck
        obtain ⟨ii, hii, hzi0, hzi1, hzi2⟩ := info_int
        go_upto_region 36 with fail
        go_loopw [23, 138] (fun u i wr => ∃ (k : Nat) (acc : List Int), k ≤ LS.length ∧ i = .int .i64 (k : Int) ∧ wr.ownsRow w3.heap.size 3 1 u acc.length (acc.map inC) ∧ Below w3.heap.size w3 wr ∧ go2 st.labels [] 1 LS = go2 st.labels acc (k + 1) (LS.drop k) ∧ acc.length ≤ k) (fun _ i _ => LS.length - (intOf i).toNat)
        case atStart => exact ⟨0, [], Nat.zero_le _, rfl, World.ownsRow_nil _ _ _ _, Below.refl _ _, rfl, Nat.le_refl _⟩
        case round =>
          obtain ⟨k, acc, hk, rfl, ho, hR, hg2, hak⟩ := hrel
          by_cases hlt : k < LS.length
          · have gk2 : (k : Int) < (LS.length : Int) := by omega
            obtain ⟨x, hx⟩ : ∃ x, LS[k]? = some x := ⟨_, List.getElem?_eq_getElem hlt⟩
            have hBw := Below.step0 hBr hR
            have hcell := HC.out k x hx
            rw [← (I.call hR).bl.cell (p := ⟨w.heap.size, k, none⟩) (by have := HR.out; show w.heap.size < r; omega)] at hcell
            have hdr : LS.drop k = x :: LS.drop (k + 1) := by
              rw [List.drop_eq_getElem_cons hlt]
              rw [List.getElem?_eq_getElem hlt] at hx
              injection hx with hx
              rw [hx]
            have hmem := List.mem_of_getElem? hx
            have hxl := lx x hmem
            rw [hdr, go2] at hg2
            have kk1 : IntKind.i64.wrap ((k : Int) + 1) = (k : Int) + 1 := by rw [IntKind.wrap_i64]; omega
            have mxa : acc.length + 1 ≤ maxLen := by unfold maxLen; omega
            have cH := fun w => Tryz.strings_HasSuffix (bL x) ⟨#[58]⟩ w (by rw [bL_size]; omega)
            rw [bL_list] at cH
            change ∀ w, Calls _ _ _ _ fun e w' => e = .returned (.bool (isLb x)) ∧ w' = w at cH
            by_cases hx0 : x = []
            · have hie : (bL x).toList.isEmpty = true := by rw [ByteArray.toList_eq, bL_list, hx0]; rfl
              rw [if_pos (by rw [hx0]; rfl)] at hg2
              have HG : Hid (go2 st.labels [] 1 LS = go2 st.labels acc (k + 1 + 1) (LS.drop (k + 1))) := hg2
              generalize bL x = T at *
              clear hg2 hdr hx hmem hx0 R1 R2 cH
              go_wp2
              go_roundw
              case rel => exact ⟨k + 1, acc, by omega, rfl, ho, hR, HG.out, by omega⟩
              case measure => simp [intOf]; omega
            · have hie : (bL x).toList.isEmpty = false := by
                rw [ByteArray.toList_eq, bL_list]
                cases x with
                | nil => exact absurd rfl hx0
                | cons a rr => rfl
              cases hlb : isLb x
              · have hc : isCl x = true := by
                  unfold isCl
                  rw [hlb]
                  cases x with
                  | nil => exact absurd rfl hx0
                  | cons a rr => rfl
                rw [if_neg (by rw [hc]; simp)] at hg2
                rw [hlb] at cH
                obtain ⟨U, q, hJf, cJ⟩ := ref_jump x hxl
                have cW := fun w => ref_word x w hxl
                have cP := fun w m hM zM => ref_instparse x w m hM zM (by omega)
                rcases cell_kinds x with ⟨v, hwv, hcl, hjn⟩ | ⟨hwv, hpe, hcl, hjn⟩ | ⟨hwv, hpe, hcl⟩
                · rw [hjn, hcl] at hg2
                  dsimp only at hg2
                  have HG : Hid (go2 st.labels [] 1 LS = go2 st.labels (acc ++ [v]) (k + 1 + 1) (LS.drop (k + 1))) := hg2
                  rw [hjn] at cJ
                  simp only [Option.isSome_none] at cJ
                  rw [hwv] at cW
                  dsimp only at cW
                  generalize parseD x = PD at *
                  generalize bL q = QQ at *
                  generalize bL x = T at *
                  clear hg2 hdr hx hmem hx0 R1 R2 hJf hc hlb hwv hcl hjn
                  go_wp2_with (first | (go_at_call 17; refine (cH _).mono ?_; rintro e w4 ⟨rfl, hw4⟩; rw [hw4]; clear hw4 cH w4) | (go_at_call 13; refine (cW _).mono ?_; rintro e w4 ⟨rfl, hbb⟩; have o4 := own_below ho hbb; have hR4 := Below.step0 hR hbb; have hB4 := Below.step0 hBw hbb; clear hbb cW) | (go_at_call 14; refine (cP _ m (HM.out _ hB4).1 (HM.out _ hB4).2).mono ?_; rintro e w5 ⟨rfl, hbb⟩; have o5 := own_below o4 hbb; have hR5 := Below.step0 hR4 hbb; have hB5 := Below.step0 hB4 hbb; clear hbb cP o4 hR4 hB4) | (go_at_call 12; refine (cJ _ m (HM.out _ (hB5.alloc hB5.size _)).1 (HM.out _ (hB5.alloc hB5.size _)).2).mono ?_; rintro e w6 ⟨rfl, hbb⟩; have B28 := (Box.new _ _ _).below hbb; have o6 := own_below (o5.alloc _) hbb; have hR6 := Below.step0 (hR5.alloc hR5.size _) hbb; have hB6 := Below.step0 (hB5.alloc hB5.size _) hbb; have z6 := hB6.size; have q28 := B28.cell; have t28 := B28.lt; clear hbb cJ o5 hR5 hB5) | (at_builtin; refine wpList_append_lies _ rfl _ _ _ rfl w3.heap.size 3 ii _ 1 8 Tryz.underlying22 hii hzi0 hzi1 hzi2 rfl (by decide) _ acc.length (acc.map inC) rfl ((o6.alloc _).alloc _) ⟨w6.heap.size + 1, 0, none⟩ 1 1 [.int .i64 v] rfl rfl (World.news_of_block (cs := #[.int .i64 v]) (t := 3) (fr := (0, 0)) (heap_alloc2_new w6 (.cells #[.int .i64 U.o, .int .i64 U.a, .int .i64 U.b, .int .i64 U.c] 43) (.cells #[.int .i64 v] 3))) (onei v) (by decide) mxa (by omega) (by rw [World.size_alloc]; have := (hR6.alloc hR6.size (.cells #[.int .i64 U.o, .int .i64 U.a, .int .i64 U.b, .int .i64 U.c] 43)).size; omega) _ rfl ?_; intro g9 cap9 w9 hown9 hgrow9 hat9 hlt9; have HB9 : Hid (Below w3.heap.size w3 w9) := Below.grown ((hR6.alloc hR6.size (.cells #[.int .i64 U.o, .int .i64 U.a, .int .i64 U.b, .int .i64 U.c] 43)).alloc (hR6.alloc hR6.size (.cells #[.int .i64 U.o, .int .i64 U.a, .int .i64 U.b, .int .i64 U.c] 43)).size _) hgrow9 (by rw [World.size_alloc]; have := (hR6.alloc hR6.size (.cells #[.int .i64 U.o, .int .i64 U.a, .int .i64 U.b, .int .i64 U.c] 43)).size; omega) (fun j hj => (o6.lt j hj).1); have HO9 : Hid (w9.ownsRow w3.heap.size 3 1 (.slice (some ⟨g9, 0, none⟩) (acc.length + 1) cap9) (acc ++ [v]).length ((acc ++ [v]).map inC)) := (by show World.ownsRow _ _ _ _ _ _ _; rw [List.length_append, List.map_append]; exact hown9); clear hown9 hgrow9 hat9))
                  go_roundw
                  case rel => exact ⟨k + 1, acc ++ [v], by omega, rfl, HO9.out, HB9.out, HG.out, by simp; omega⟩
                  case measure => simp [intOf]; omega
                · rw [hjn, hcl] at hg2
                  dsimp only at hg2
                  have hck := parse_chk hpe
                  obtain ⟨v, hv⟩ : ∃ v, numD (parseD x).o (parseD x).a (parseD x).b (parseD x).c = v := ⟨_, rfl⟩
                  rw [hv] at hg2
                  have cK := fun w m hM zM => ref_instpack (parseD x).o (parseD x).a (parseD x).b (parseD x).c w m hM zM
                  rw [pack_num hck, hv, ← chk_eq, hck] at cK
                  have HG : Hid (go2 st.labels [] 1 LS = go2 st.labels (acc ++ [v]) (k + 1 + 1) (LS.drop (k + 1))) := hg2
                  rw [hjn] at cJ
                  simp only [Option.isSome_none] at cJ
                  rw [hpe] at cP
                  generalize wordV x = WV at *
                  obtain ⟨wv1, wv2⟩ := WV
                  obtain rfl : wv2 = false := hwv
                  dsimp only at cW
                  generalize parseD x = PD at *
                  generalize bL q = QQ at *
                  generalize bL x = T at *
                  clear hg2 hdr hx hmem hx0 R1 R2 hJf hc hlb hcl hjn hck hv
                  go_wp2_with (first | (go_at_call 17; refine (cH _).mono ?_; rintro e w4 ⟨rfl, hw4⟩; rw [hw4]; clear hw4 cH w4) | (go_at_call 13; refine (cW _).mono ?_; rintro e w4 ⟨rfl, hbb⟩; have o4 := own_below ho hbb; have hR4 := Below.step0 hR hbb; have hB4 := Below.step0 hBw hbb; clear hbb cW) | (go_at_call 14; refine (cP _ m (HM.out _ hB4).1 (HM.out _ hB4).2).mono ?_; rintro e w5 ⟨rfl, hbb⟩; have o5 := own_below o4 hbb; have hR5 := Below.step0 hR4 hbb; have hB5 := Below.step0 hB4 hbb; clear hbb cP o4 hR4 hB4) | (go_at_call 12; refine (cJ _ m (HM.out _ (hB5.alloc hB5.size _)).1 (HM.out _ (hB5.alloc hB5.size _)).2).mono ?_; rintro e w6 ⟨rfl, hbb⟩; have B28 := (Box.new _ _ _).below hbb; have o6 := own_below (o5.alloc _) hbb; have hR6 := Below.step0 (hR5.alloc hR5.size _) hbb; have hB6 := Below.step0 (hB5.alloc hB5.size _) hbb; have z6 := hB6.size; have q28 := B28.cell; have t28 := B28.lt; clear hbb cJ o5 hR5 hB5) | (go_at_call 19; refine (cK _ m (HM.out _ (hB6.alloc hB6.size _)).1 (HM.out _ (hB6.alloc hB6.size _)).2).mono ?_; rintro e w7 ⟨rfl, hbb⟩; have o7 := own_below (o6.alloc _) hbb; have hR7 := Below.step0 (hR6.alloc hR6.size _) hbb; clear hbb cK) | (at_builtin; refine wpList_append_lies _ rfl _ _ _ rfl w3.heap.size 3 ii _ 1 8 Tryz.underlying22 hii hzi0 hzi1 hzi2 rfl (by decide) _ acc.length (acc.map inC) rfl (o7.alloc _) ⟨w7.heap.size, 0, none⟩ 1 1 [.int .i64 v] rfl rfl (World.news_of_block (cs := #[.int .i64 v]) (t := 3) (fr := (0, 0)) (heap_alloc_new _ (.cells #[.int .i64 v] 3))) (onei v) (by decide) mxa (by omega) (by rw [World.size_alloc]; have := hR7.size; omega) _ rfl ?_; intro g9 cap9 w9 hown9 hgrow9 hat9 hlt9; have HB9 : Hid (Below w3.heap.size w3 w9) := Below.grown (hR7.alloc hR7.size _) hgrow9 (by rw [World.size_alloc]; have := hR7.size; omega) (fun j hj => (o7.lt j hj).1); have HO9 : Hid (w9.ownsRow w3.heap.size 3 1 (.slice (some ⟨g9, 0, none⟩) (acc.length + 1) cap9) (acc ++ [v]).length ((acc ++ [v]).map inC)) := (by show World.ownsRow _ _ _ _ _ _ _; rw [List.length_append, List.map_append]; exact hown9); clear hown9 hgrow9 hat9))
                  go_roundw
                  case rel => exact ⟨k + 1, acc ++ [v], by omega, rfl, HO9.out, HB9.out, HG.out, by simp; omega⟩
                  case measure => simp [intOf]; omega
                · obtain ⟨J, hjm⟩ := HOK.out x hmem hc hcl
                  obtain ⟨u1, u2, u3, u4⟩ := hJf (by rw [hjm]; rfl) J hjm
                  obtain ⟨_, _, hchk, ho89⟩ := jump_is hjm
                  rw [hjm] at hg2 cJ
                  dsimp only at hg2
                  simp only [Option.isSome_some] at cJ
                  rw [← u1, ← u2, ← u3, ← u4] at hg2
                  have hrng := jump_chk hchk ho89
                  rw [← u1, ← u2, ← u3] at hrng
                  generalize wordV x = WV at *
                  obtain ⟨wv1, wv2⟩ := WV
                  obtain rfl : wv2 = false := hwv
                  dsimp only at cW
                  obtain ⟨QQ, hQQ⟩ : ∃ QQ, bL q = QQ := ⟨_, rfl⟩
                  rw [hQQ] at cJ
                  have HQ : Hid (bL q = QQ) := hQQ
                  generalize parseD x = PD at *
                  generalize bL x = T at *
                  have cO := fun n w => ref_outside n (-2048) 2047 w
                  cases hpl : placeL st.labels q with
                  | none =>
                    rw [hpl] at hg2
                    dsimp only at hg2
                    have hrd := R2.out (by rw [hg2]; show ¬ (7 : Int) = 0; decide)
                    rw [hg2] at hrd
                    have HRD : Hid (readS l = ⟨[], [], ((k + 1 : Nat) : Int), 7⟩) := hrd
                    have HPL : Hid (placeL st.labels q = none) := hpl
                    clear hg2 hdr hx hmem hx0 R1 R2 hJf hc hlb hcl hjm u1 u2 u3 u4 hchk ho89 hrng hrd hQQ hpl cO
                    go_wp2_with (first | (go_at_call 17; refine (cH _).mono ?_; rintro e w4 ⟨rfl, hw4⟩; rw [hw4]; clear hw4 cH w4) | (go_at_call 13; refine (cW _).mono ?_; rintro e w4 ⟨rfl, hbb⟩; have o4 := own_below ho hbb; have hR4 := Below.step0 hR hbb; have hB4 := Below.step0 hBw hbb; clear hbb cW) | (go_at_call 14; refine (cP _ m (HM.out _ hB4).1 (HM.out _ hB4).2).mono ?_; rintro e w5 ⟨rfl, hbb⟩; have o5 := own_below o4 hbb; have hR5 := Below.step0 hR4 hbb; have hB5 := Below.step0 hB4 hbb; clear hbb cP o4 hR4 hB4) | (go_at_call 12; refine (cJ _ m (HM.out _ (hB5.alloc hB5.size _)).1 (HM.out _ (hB5.alloc hB5.size _)).2).mono ?_; rintro e w6 ⟨rfl, hbb⟩; have B28 := (Box.new _ _ _).below hbb; have o6 := own_below (o5.alloc _) hbb; have hR6 := Below.step0 (hR5.alloc hR5.size _) hbb; have hB6 := Below.step0 (hB5.alloc hB5.size _) hbb; have z6 := hB6.size; have q28 := B28.cell; have t28 := B28.lt; have f28 := B28.free; have I6 := I.call (hR6.alloc hR6.size (.cells #[.int .i64 U.o, .int .i64 U.a, .int .i64 U.b, .int .i64 U.c] 43)); obtain ⟨zl, hlk, hzl⟩ := I6.look q; rw [HQ.out] at hlk; rw [HPL.out] at hlk; simp only [Option.isSome_none] at hlk; clear hbb cJ o5 hR5 hB5))
                    exact bodyPost_ret (v := .tuple #[.slice none 0 0, .slice none 0 0, .int .i64 ((k : Int) + 1), .int .i64 7]) (by simp [results, Tryz.results5, go_sem]) rfl (by rw [HRD.out]; exact ⟨_, _, rfl, left_nil (hB6.alloc hB6.size _) _ _⟩)
                  | some p =>
                    rw [hpl] at hg2
                    dsimp only at hg2
                    have hp := HWF.out q p hpl
                    have HPL : Hid (placeL st.labels q = some p) := hpl
                    have hwp : IntKind.i64.wrap (p - (acc.length : Int)) = p - (acc.length : Int) := by rw [IntKind.wrap_i64]; omega
                    obtain ⟨a23, c23, e23⟩ := own_slice ho
                    subst e23
                    by_cases hr : -2048 ≤ p - (acc.length : Int) ∧ p - (acc.length : Int) ≤ 2047
                    · rw [if_pos hr] at hg2
                      have hck := (hrng _).2 hr
                      obtain ⟨v, hv⟩ : ∃ v, numD U.o U.a U.b (p - (acc.length : Int)) = v := ⟨_, rfl⟩
                      rw [hv] at hg2
                      have hob : outB (p - (acc.length : Int)) (-2048) 2047 = false := by unfold outB; rw [decide_eq_false_iff_not]; omega
                      have cK := fun w m hM zM => ref_instpack U.o U.a U.b (p - (acc.length : Int)) w m hM zM
                      rw [pack_num hck, hv, ← chk_eq, hck] at cK
                      have HG : Hid (go2 st.labels [] 1 LS = go2 st.labels (acc ++ [v]) (k + 1 + 1) (LS.drop (k + 1))) := hg2
                      obtain ⟨pc, hpc⟩ : ∃ pc, p - (acc.length : Int) = pc := ⟨_, rfl⟩
                      rw [hpc] at cK hob hwp
                      have cO' := fun w => cO pc w
                      rw [hob] at cO'
                      clear hg2 hdr hx hmem hx0 R1 R2 hJf hc hlb hcl hjm u1 u2 u3 u4 hchk ho89 hrng hQQ hpl cO hck hv hr hob
                      go_upto_region 50 with (first | (go_at_call 17; refine (cH _).mono ?_; rintro e w4 ⟨rfl, hw4⟩; rw [hw4]; clear hw4 cH w4) | (go_at_call 13; refine (cW _).mono ?_; rintro e w4 ⟨rfl, hbb⟩; have o4 := own_below ho hbb; have hR4 := Below.step0 hR hbb; have hB4 := Below.step0 hBw hbb; clear hbb cW) | (go_at_call 14; refine (cP _ m (HM.out _ hB4).1 (HM.out _ hB4).2).mono ?_; rintro e w5 ⟨rfl, hbb⟩; have o5 := own_below o4 hbb; have hR5 := Below.step0 hR4 hbb; have hB5 := Below.step0 hB4 hbb; clear hbb cP o4 hR4 hB4) | (go_at_call 12; refine (cJ _ m (HM.out _ (hB5.alloc hB5.size _)).1 (HM.out _ (hB5.alloc hB5.size _)).2).mono ?_; rintro e w6 ⟨rfl, hbb⟩; have B28 := (Box.new _ _ _).below hbb; have o6 := own_below (o5.alloc _) hbb; have hR6 := Below.step0 (hR5.alloc hR5.size _) hbb; have hB6 := Below.step0 (hB5.alloc hB5.size _) hbb; have z6 := hB6.size; have q28 := B28.cell; have t28 := B28.lt; have f28 := B28.free; have I6 := I.call (hR6.alloc hR6.size (.cells #[.int .i64 U.o, .int .i64 U.a, .int .i64 U.b, .int .i64 U.c] 43)); obtain ⟨zl, hlk, hzl⟩ := I6.look q; rw [HQ.out] at hlk; rw [HPL.out] at hlk; simp only [Option.isSome_some] at hlk; rw [hzl p HPL.out] at hlk; have k5 := (fun k e => (o5.lt k e).2 : ∀ k, (Value.slice a23 acc.length c23).ownBlock = some k → k < w5.heap.size); have s35 := hR5.size; have s05 := hB5.size; clear hbb cJ o5 hR5 hB5) | (go_at_call 18; refine (cO' _).mono ?_; rintro e w8 ⟨rfl, hw8⟩; rw [hw8]; clear hw8 w8 cO'))
                      obtain ⟨w7, hw7⟩ : ∃ w7, w7 = ((((w6.setCell ⟨w5.heap.size, 0, none⟩ (.int .i64 U.o)).setCell ⟨w5.heap.size, 1, none⟩ (.int .i64 U.a)).setCell ⟨w5.heap.size, 2, none⟩ (.int .i64 U.b)).setCell ⟨w5.heap.size, 3, none⟩ (.int .i64 pc)) := ⟨_, rfl⟩
                      rw [← hw7]
                      have Bx : Below w5.heap.size w6 w7 := by rw [hw7]; exact below_set4 w6 w5.heap.size _ _ _ _
                      have B7 : Box w7 w5.heap.size #[.int .i64 U.o, .int .i64 U.a, .int .i64 U.b, .int .i64 pc] := by rw [hw7]; exact box_set4 B28 _ _ _ _
                      have q7 := B7.cell
                      have t7 := B7.lt
                      have o7 := own_low o6 Bx k5
                      have hR7 := hR6.trans (Bx.mono s35)
                      have hB7 := hB6.trans (Bx.mono s05)
                      clear hw7 Bx B7 B28 q28 f28 t28 o6 hR6 hB6 I6 hlk
                      generalize w5.heap.size = b28 at *
                      generalize w6.heap.size = b30 at *
                      go_wp2_with (first | (go_at_call 19; refine (cK _ m (HM.out _ (hB7.alloc hB7.size _)).1 (HM.out _ (hB7.alloc hB7.size _)).2).mono ?_; rintro e w8 ⟨rfl, hbb⟩; have o8 := own_below (o7.alloc _) hbb; have hR8 := Below.step0 (hR7.alloc hR7.size _) hbb; clear hbb cK) | (at_builtin; refine wpList_append_lies _ rfl _ _ _ rfl w3.heap.size 3 ii _ 1 8 Tryz.underlying22 hii hzi0 hzi1 hzi2 rfl (by decide) _ acc.length (acc.map inC) rfl (o8.alloc _) ⟨w8.heap.size, 0, none⟩ 1 1 [.int .i64 v] rfl rfl (World.news_of_block (cs := #[.int .i64 v]) (t := 3) (fr := (0, 0)) (heap_alloc_new w8 (.cells #[.int .i64 v] 3))) (onei v) (by decide) mxa (by omega) (by rw [World.size_alloc]; have := hR8.size; omega) _ rfl ?_; intro g9 cap9 w9 hown9 hgrow9 hat9 hlt9; have HB9 : Hid (Below w3.heap.size w3 w9) := Below.grown (hR8.alloc hR8.size _) hgrow9 (by rw [World.size_alloc]; have := hR8.size; omega) (fun j hj => (o8.lt j hj).1); have HO9 : Hid (w9.ownsRow w3.heap.size 3 1 (.slice (some ⟨g9, 0, none⟩) (acc.length + 1) cap9) (acc ++ [v]).length ((acc ++ [v]).map inC)) := (by show World.ownsRow _ _ _ _ _ _ _; rw [List.length_append, List.map_append]; exact hown9); clear hown9 hgrow9 hat9))
                      go_roundw
                      case rel => exact ⟨k + 1, acc ++ [v], by omega, rfl, HO9.out, HB9.out, HG.out, by simp; omega⟩
                      case measure => simp [intOf]; omega
                    · rw [if_neg hr] at hg2
                      have hrd := R2.out (by rw [hg2]; show ¬ (13 : Int) = 0; decide)
                      rw [hg2] at hrd
                      have HRD : Hid (readS l = ⟨[], [], ((k + 1 : Nat) : Int), 13⟩) := hrd
                      have hob : outB (p - (acc.length : Int)) (-2048) 2047 = true := by unfold outB; rw [decide_eq_true_eq]; omega
                      obtain ⟨pc, hpc⟩ : ∃ pc, p - (acc.length : Int) = pc := ⟨_, rfl⟩
                      rw [hpc] at hob hwp
                      have cO' := fun w => cO pc w
                      rw [hob] at cO'
                      clear hg2 hdr hx hmem hx0 R1 R2 hJf hc hlb hcl hjm u1 u2 u3 u4 hchk ho89 hrng hQQ hpl cO hr hob hrd
                      go_wp2_with (first | (go_at_call 17; refine (cH _).mono ?_; rintro e w4 ⟨rfl, hw4⟩; rw [hw4]; clear hw4 cH w4) | (go_at_call 13; refine (cW _).mono ?_; rintro e w4 ⟨rfl, hbb⟩; have o4 := own_below ho hbb; have hR4 := Below.step0 hR hbb; have hB4 := Below.step0 hBw hbb; clear hbb cW) | (go_at_call 14; refine (cP _ m (HM.out _ hB4).1 (HM.out _ hB4).2).mono ?_; rintro e w5 ⟨rfl, hbb⟩; have o5 := own_below o4 hbb; have hR5 := Below.step0 hR4 hbb; have hB5 := Below.step0 hB4 hbb; clear hbb cP o4 hR4 hB4) | (go_at_call 12; refine (cJ _ m (HM.out _ (hB5.alloc hB5.size _)).1 (HM.out _ (hB5.alloc hB5.size _)).2).mono ?_; rintro e w6 ⟨rfl, hbb⟩; have B28 := (Box.new _ _ _).below hbb; have o6 := own_below (o5.alloc _) hbb; have hR6 := Below.step0 (hR5.alloc hR5.size _) hbb; have hB6 := Below.step0 (hB5.alloc hB5.size _) hbb; have z6 := hB6.size; have q28 := B28.cell; have t28 := B28.lt; have f28 := B28.free; have I6 := I.call (hR6.alloc hR6.size (.cells #[.int .i64 U.o, .int .i64 U.a, .int .i64 U.b, .int .i64 U.c] 43)); obtain ⟨zl, hlk, hzl⟩ := I6.look q; rw [HQ.out] at hlk; rw [HPL.out] at hlk; simp only [Option.isSome_some] at hlk; rw [hzl p HPL.out] at hlk; have k5 := (fun k e => (o5.lt k e).2 : ∀ k, (Value.slice a23 acc.length c23).ownBlock = some k → k < w5.heap.size); have s35 := hR5.size; have s05 := hB5.size; clear hbb cJ o5 hR5 hB5) | (go_at_call 18; refine (cO' _).mono ?_; rintro e w8 ⟨rfl, hw8⟩; rw [hw8]; clear hw8 w8 cO'))
                      exact bodyPost_ret (v := .tuple #[.slice none 0 0, .slice none 0 0, .int .i64 ((k : Int) + 1), .int .i64 13]) (by simp [results, Tryz.results5, go_sem]) rfl (by rw [HRD.out]; exact ⟨_, _, rfl, left_nil (hB6.alloc hB6.size _) _ _⟩)
              · rw [if_pos (by unfold isCl; rw [hlb]; simp)] at hg2
                rw [hlb] at cH
                have HG : Hid (go2 st.labels [] 1 LS = go2 st.labels acc (k + 1 + 1) (LS.drop (k + 1))) := hg2
                generalize bL x = T at *
                clear hg2 hdr hx hmem hx0 R1 R2 hlb
                go_wp2_with (go_at_call 17; refine (cH _).mono ?_; rintro e w4 ⟨rfl, hw4⟩; rw [hw4]; clear hw4 cH w4)
                go_roundw
                case rel => exact ⟨k + 1, acc, by omega, rfl, ho, hR, HG.out, by omega⟩
                case measure => simp [intOf]; omega
          · obtain rfl : k = LS.length := by omega
            have gk : ¬ (LS.length : Int) < (LS.length : Int) := by omega
            have hg3 : go2 st.labels [] 1 LS = (acc, 0, 0) := by rw [hg2, List.drop_length]; rfl
            have hrd := R1.out (by rw [hg3])
            rw [hg3] at hrd
            have HRD : Hid (readS l = ⟨acc, st.labels, 0, 0⟩) := hrd
            have I2 := I.call hR
            clear hg2 hg3 hrd R1 R2
            obtain ⟨a7, c7, e7⟩ := own_slice I.row
            subst e7
            obtain ⟨a23, c23, e23⟩ := own_slice ho
            subst e23
            go_wp2
            exact bodyPost_ret (v := .tuple #[.slice a23 acc.length c23, .slice a7 st.labels.length c7, .int .i64 0, .int .i64 0]) (by simp [results, Tryz.results5, go_sem]) rfl (by rw [HRD.out]; exact ⟨_, _, rfl, own_mono ho (by have := hBr.size; omega), own_mono I2.row (by have := HR.out; omega), Below.step0 hBr hR⟩)
end
end Go.Proofs.YtfafkijcejbcpaaGreatDoor
