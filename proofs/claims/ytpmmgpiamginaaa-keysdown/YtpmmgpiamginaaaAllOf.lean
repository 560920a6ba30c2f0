/- What is gathered of a key by all calls but Open (allOf): just what came without an error, in the calls' order, in new memory. -/
import Derived.Test.YtpmmgpiamginaaaRows
import Derived.Test.YtpmmgpiamginaaaBits
import Derived.Test.YtpmmgpiamginaaaWithin
import Derived.Test.YtpmmgpiamginaaaKeyPure
import Derived.Test.YtpmmgpiamginaaaKeys
import Derived.Test.YtpmmgpiamginaaaKeyMore
import Derived.WalkKit
import Derived.ProofKit
import Derived.OpenShut
import Derived.Deep.AppendLies
namespace Go.Proofs.Ytpmmgpiamginaaa
open Go.ChangeShapes Go.WideShapes Go.ChangeAt Go.RowKit

theorem info_key : (Try.prog.info? 23).map (fun i => (i.zero, i.size, i.bytes)) = some (some (.agg #[.int .i64 0, .int .i64 0, .int .i64 0, .int .i64 0, .int .i64 0]), 5, 40) := by kernel_rfl
/-- A key's five cells. -/
def kc (k : KK) : List Value := [.int .i64 k.p, .int .i64 k.b, .int .i64 k.l, .int .i64 k.a, .int .i64 k.s]
/-- What comes without an error is told. -/
def gl (k : KK) : List KK := if k.e = 0 then [k] else []
theorem kc_len (l : List KK) : (l.flatMap kc).length = l.length * 5 := by
  induction l with
  | nil => rfl
  | cons k l ih => simp only [List.flatMap_cons, List.length_append, ih, List.length_cons]; show 5 + _ = _; omega

theorem Box.grown {W w1 : World} {row : Option Nat} {k : Nat} {c : Array Value} (h : Box W k c) (hg : W.grownBy w1 row) (hne : some k ≠ row) : Box w1 k c :=
  ⟨Nat.lt_of_lt_of_le h.1 hg.size, fun o => by rw [hg.cell_far ⟨k, o, none⟩ h.1 hne]; exact h.2.1 o, fun o => by rw [hg.frozen_far ⟨k, o, none⟩ h.1 hne]; exact h.2.2 o⟩
theorem Box.low {B k : Nat} {w w' : World} {c : Array Value} (h : Box w k c) (hb : Below B w w') (hk : k < B) : Box w' k c :=
  ⟨Nat.lt_of_lt_of_le h.1 hb.size, fun o => by rw [hb.cell (p := ⟨k, o, none⟩) hk]; exact h.2.1 o, fun o => by rw [hb.frozen (p := ⟨k, o, none⟩) hk]; exact h.2.2 o⟩
theorem add_no (k : KK) (B : Nat) (w : World) (he : ¬ k.e = 0) :
    Calls Try.prog 32 #[.agg #[.int .i64 k.p, .int .i64 k.b, .int .i64 k.l, .int .i64 k.a, .int .i64 k.s], .int .i64 k.e, .pointer (some ⟨B, 0, none⟩)] w
      fun e w' => e = .returned (.tuple #[]) ∧ Below w.heap.size w w' := by
  have he' : (k.e == 0) = false := by simpa using he
  clear he
  go_enter Try.func32, Try.ntmps32
  go_wp2
  go_end0
  exact ⟨rfl, (Below.refl _ _).alloc (Nat.le_refl _) _⟩
theorem add_yes (k : KK) (B n : Nat) (v : Value) (xs : List Value) (w : World) (he : k.e = 0) (hB : Box w B #[v]) (hown : w.ownsRow (B + 1) 23 5 v n xs) (hn : n ≤ 10) :
    Calls Try.prog 32 #[.agg #[.int .i64 k.p, .int .i64 k.b, .int .i64 k.l, .int .i64 k.a, .int .i64 k.s], .int .i64 k.e, .pointer (some ⟨B, 0, none⟩)] w
      fun e w' => e = .returned (.tuple #[]) ∧ ∃ v', Box w' B #[v'] ∧ w'.ownsRow (B + 1) 23 5 v' (n + 1) (xs ++ kc k) ∧ Below B w w' := by
  have he' : (k.e == 0) = true := by simpa using he
  obtain ⟨i0, hi, hz⟩ : ∃ i, Try.prog.info? 23 = some i ∧ (i.zero, i.size, i.bytes) = (some (.agg #[.int .i64 0, .int .i64 0, .int .i64 0, .int .i64 0, .int .i64 0]), 5, 40) := by
    have := info_key
    cases h : Try.prog.info? 23 with
    | none => rw [h] at this; cases this
    | some i => rw [h] at this; exact ⟨i, rfl, by simpa using this⟩
  simp only [Prod.mk.injEq] at hz
  obtain ⟨hz0, hz1, hz2⟩ := hz
  have q1 := hB.cell
  have z1 := hB.lt
  have f1 := hB.free
  have hox : w.ownsRow (B + 1) 23 5 v n xs := hown
  go_enter Try.func32, Try.ntmps32
  go_wp2_with (at_builtin; refine wpList_append_lies _ rfl _ _ _ rfl (B + 1) 23 i0 _ 5 40 Try.underlying35 hi hz0 hz1 hz2 rfl (by omega) v n xs rfl ((hox.alloc _).alloc _) ⟨w.heap.size + 1, 0, none⟩ 1 1 (kc k) rfl rfl ?c1 ?c2 (by omega) ?c3 ?c4 ?c5 _ rfl ?_)
  case c1 =>
    refine World.news_of_block (cs := #[.int .i64 k.p, .int .i64 k.b, .int .i64 k.l, .int .i64 k.a, .int .i64 k.s]) (t := 23) (fr := (0, 0)) ?_
    have := heap_alloc_new (w.alloc (.cells #[.int .i64 k.p, .int .i64 k.b, .int .i64 k.l, .int .i64 k.a, .int .i64 k.s] 23)) (.cells #[.int .i64 k.p, .int .i64 k.b, .int .i64 k.l, .int .i64 k.a, .int .i64 k.s] 23)
    rwa [World.size_alloc] at this
  case c2 =>
    intro u hu
    simp only [kc, List.mem_cons, List.not_mem_nil, or_false] at hu
    rcases hu with rfl | rfl | rfl | rfl | rfl <;> rfl
  case c3 => unfold maxLen; omega
  case c4 => omega
  case c5 => simp; omega
  intro g cap w1 hown1 hgrow hat hlt
  have hvb : some B ≠ v.ownBlock := fun e => by have := (hox.lt B e.symm).1; omega
  have B1 : Box w1 B #[v] := ((hB.alloc _).alloc _).grown hgrow hvb
  have hbel : Below B w w1 := Below.grown ((two _ _).mono (Nat.le_of_lt z1)) hgrow (by simp; omega) (fun j hj => by have := (hox.lt j hj).1; omega)
  have HO : Hid (w1.ownsRow (B + 1) 23 5 (.slice (some ⟨g, 0, none⟩) (n + 1) cap) (n + 1) (xs ++ kc k)) := hown1
  have HB : Hid (Below B w w1) := hbel
  have HX : Hid (Box w1 B #[v]) := B1
  clear q1 f1 hox hown hown1 hgrow hat hB hbel hvb
  have q1 := B1.cell
  have f1 := B1.free
  clear B1
  go_wp2
  go_end0
  exact ⟨rfl, _, HX.out.set 0 _ (by simp), ownsRow_setCell_below HO.out (by simp) _, HB.out.setCell (by simp) _⟩
/-- Both at once. -/
theorem add_any (k : KK) (B n : Nat) (v : Value) (xs : List Value) (w : World) (hB : Box w B #[v]) (hown : w.ownsRow (B + 1) 23 5 v n xs) (hn : n ≤ 10) :
    Calls Try.prog 32 #[.agg #[.int .i64 k.p, .int .i64 k.b, .int .i64 k.l, .int .i64 k.a, .int .i64 k.s], .int .i64 k.e, .pointer (some ⟨B, 0, none⟩)] w
      fun e w' => e = .returned (.tuple #[]) ∧ ∃ v', Box w' B #[v'] ∧ w'.ownsRow (B + 1) 23 5 v' (n + (gl k).length) (xs ++ (gl k).flatMap kc) ∧ Below B w w' := by
  unfold gl
  by_cases he : k.e = 0
  · rw [if_pos he]
    refine (add_yes k B n v xs w he hB hown hn).mono ?_
    rintro e w' ⟨rfl, v', h1, h2, h3⟩
    exact ⟨rfl, v', h1, by simpa using h2, h3⟩
  · rw [if_neg he]
    refine (add_no k B w he).mono ?_
    rintro e w' ⟨rfl, hb⟩
    refine ⟨rfl, v, hB.below hb, ?_, hb.mono (Nat.le_of_lt hB.lt)⟩
    have : w'.ownsRow (B + 1) 23 5 v n xs := by
      obtain ⟨h1, h2⟩ := hown
      refine ⟨h1, ?_⟩
      rcases h2 with h2 | ⟨g, cap, cur, e1, e2, e3, e4⟩
      · exact .inl h2
      · exact .inr ⟨g, cap, cur, e1, e2, by rw [hb.block g (Array.getElem?_eq_some_iff.1 e3).1]; exact e3, e4⟩
    simpa using this
theorem own_below {w w' : World} {base : Nat} {e : TypeId} {size : Nat} {v : Value} {n : Nat} {xs : List Value} (h : w.ownsRow base e size v n xs) (hb : Below w.heap.size w w') : w'.ownsRow base e size v n xs := by
  obtain ⟨h1, h2⟩ := h
  refine ⟨h1, ?_⟩
  rcases h2 with h2 | ⟨g, cap, cur, e1, e2, e3, e4⟩
  · exact .inl h2
  · exact .inr ⟨g, cap, cur, e1, e2, by rw [hb.block g (Array.getElem?_eq_some_iff.1 e3).1]; exact e3, e4⟩
theorem own_mono {w : World} {base base' : Nat} {e : TypeId} {size : Nat} {v : Value} {n : Nat} {xs : List Value} (h : w.ownsRow base e size v n xs) (hb : base' ≤ base) : w.ownsRow base' e size v n xs := by
  obtain ⟨h1, h2⟩ := h
  refine ⟨h1, ?_⟩
  rcases h2 with h2 | ⟨g, cap, cur, e1, e2, e3⟩
  · exact .inl h2
  · exact .inr ⟨g, cap, cur, e1, Nat.le_trans hb e2, e3⟩
theorem gl_le (k : KK) : (gl k).length ≤ 1 := by unfold gl; split <;> simp
def allK (p b l a s p' b' l' a' s' n : Int) : List KK := gl (moveK p b l a s n) ++ gl (narrowK p b l a s n) ++ gl (dropK p b l a s n) ++ gl (sealK p b l a s p' b' l' a' s')
set_option maxHeartbeats 4000000 in
theorem all_of (p b l a s p' b' l' a' s' n : Int) (w : World) (K0 : kb p b l a s) (K1 : kb p' b' l' a' s') :
    Calls Try.prog 23 #[.agg #[.int .i64 p, .int .i64 b, .int .i64 l, .int .i64 a, .int .i64 s], .agg #[.int .i64 p', .int .i64 b', .int .i64 l', .int .i64 a', .int .i64 s'], .int .i64 n] w
      fun e w' => ∃ v, e = .returned v ∧ w'.ownsRow w.heap.size 23 5 v (allK p b l a s p' b' l' a' s' n).length ((allK p b l a s p' b' l' a' s' n).flatMap kc) ∧ Below w.heap.size w w' := by
  have hmf : ∀ (fn : Fn) (first cap : Array Value) (w : World), (Instr.makeFunc fn first cap).run Try.prog w = .ok (.func fn first cap) w := fun _ _ _ _ => rfl
  have g1 := gl_le (moveK p b l a s n)
  have g2 := gl_le (narrowK p b l a s n)
  have g3 := gl_le (dropK p b l a s n)
  have g4 := gl_le (sealK p b l a s p' b' l' a' s')
  go_enter Try.func23, Try.ntmps23
  go_wp2_with (first | (go_at_call 15; refine (keys_move _ _ _ _ _ _ _ K0).mono ?_; rintro e w1 ⟨rfl, hbb⟩; have B1 := (((Box.new _ _ _).alloc _).alloc _).below hbb; have B2 := ((Box.new1 _ _ _ _).alloc _).below hbb; have B3 := (Box.new2 _ _ _ _ _).below hbb; have OW := World.ownsRow_nil w1 (w.heap.size + 2 + 1) 23 5; have q1 := B1.cell; have q2 := B2.cell; have q3 := B3.cell; have hB := Below.step0 (three _ _ _) hbb; clear hbb) | (go_at_call 17; refine (keys_narrow _ _ _ _ _ _ _ K0).mono ?_; rintro e w1 ⟨rfl, hbb⟩; replace B1 := B1.below hbb; replace B2 := B2.below hbb; replace B3 := B3.below hbb; replace OW := own_below OW hbb; clear q1 q2 q3; have q1 := B1.cell; have q2 := B2.cell; have q3 := B3.cell; replace hB := Below.step0 hB hbb; clear hbb) | (go_at_call 18; refine (keys_drop _ _ _ _ _ _ _ K0).mono ?_; rintro e w1 ⟨rfl, hbb⟩; replace B1 := B1.below hbb; replace B2 := B2.below hbb; replace B3 := B3.below hbb; replace OW := own_below OW hbb; clear q1 q2 q3; have q1 := B1.cell; have q2 := B2.cell; have q3 := B3.cell; replace hB := Below.step0 hB hbb; clear hbb) | (go_at_call 19; refine (keys_seal _ _ _ _ _ _ _ _ _ _ _ K0 K1).mono ?_; rintro e w1 ⟨rfl, hbb⟩; replace B1 := B1.below hbb; replace B2 := B2.below hbb; replace B3 := B3.below hbb; replace OW := own_below OW hbb; clear q1 q2 q3; have q1 := B1.cell; have q2 := B2.cell; have q3 := B3.cell; replace hB := Below.step0 hB hbb; clear hbb) | (go_at_call 32; refine (add_any _ _ _ _ _ _ B3 OW (by omega)).mono ?_; rintro e w1 ⟨rfl, v1, hX, hO, hbb⟩; replace B1 := B1.low hbb (by omega); replace B2 := B2.low hbb (by omega); clear B3 OW q1 q2 q3; have B3 := hX; have OW := hO; clear hX hO; have q1 := B1.cell; have q2 := B2.cell; have q3 := B3.cell; replace hB := hB.trans (hbb.mono (by omega)); clear hbb))
  go_ret
  refine ⟨_, rfl, ?_, hB⟩
  have h := own_mono OW (show w.heap.size ≤ w.heap.size + 2 + 1 by omega)
  have e1 : (allK p b l a s p' b' l' a' s' n).length = 0 + (gl (moveK p b l a s n)).length + (gl (narrowK p b l a s n)).length + (gl (dropK p b l a s n)).length + (gl (sealK p b l a s p' b' l' a' s')).length := by
    unfold allK; simp only [List.length_append]; omega
  have e2 : (allK p b l a s p' b' l' a' s' n).flatMap kc = [] ++ (gl (moveK p b l a s n)).flatMap kc ++ (gl (narrowK p b l a s n)).flatMap kc ++ (gl (dropK p b l a s n)).flatMap kc ++ (gl (sealK p b l a s p' b' l' a' s')).flatMap kc := by
    unfold allK; simp only [List.flatMap_append, List.nil_append]
  rw [e1, e2]
  exact h
end Go.Proofs.Ytpmmgpiamginaaa
