/- For whatever key and list of turns, the law KeysNever returns true: by whatever is done again and again a key comes to allow no more; no condition. -/
import Derived.Test.YtpmmgpiamginaacRows
import Derived.Test.YtpmmgpiamginaacKeyArg
import Derived.Test.YtpmmgpiamginaacTurnArg
import Derived.Test.YtpmmgpiamginaacBits
import Derived.Test.YtpmmgpiamginaacWithin
import Derived.Test.YtpmmgpiamginaacKeyPure
import Derived.Test.YtpmmgpiamginaacKeys
import Derived.Test.YtpmmgpiamginaacKeyMore
import Derived.Test.YtpmmgpiamginaacKeyed
import Derived.Test.YtpmmgpiamginaacNum
import Derived.Deep.CutRange
import Derived.Deep.CutBlock
import Derived.Deep.RegionHeld3
import Derived.WalkKit
import Derived.ProofKit
import Derived.OpenShut
namespace Go.Proofs.Ytpmmgpiamginaac.keysNever
open Go.ChangeShapes Go.WideShapes Go.ChangeAt Go.RowKit
set_option linter.unusedVariables false

theorem own : ownKnob Try.prog.godebug = none := by kernel_rfl
theorem laidOut : laidOutB Try.prog = true := by kernel_rfl

theorem und_refl (p b l s : Int) : undB p b l s p b l s = true := by
  unfold undB cwB; rw [in_refl]; simp
theorem und_of {p b l s p' b' l' s' : Int} (h1 : l ≤ 0 ∨ (b' ≤ b ∧ b + l ≤ b' + l')) (h2 : inB p p' = true) (h3 : s' = 0 ∨ s = s') : undB p b l s p' b' l' s' = true := by
  unfold undB cwB
  rw [h2, decide_eq_true h1]
  rcases h3 with rfl | rfl <;> simp
theorem und_trans {p b l s p' b' l' s' p2 b2 l2 s2 : Int} (h : undB p b l s p' b' l' s' = true) (k : undB p' b' l' s' p2 b2 l2 s2 = true) : undB p b l s p2 b2 l2 s2 = true := by
  simp only [undB, cwB, Bool.and_eq_true, Bool.or_eq_true, beq_iff_eq, decide_eq_true_eq] at *
  refine ⟨⟨by omega, in_trans _ _ _ h.1.2 k.1.2⟩, by omega⟩
theorem move_down {p b l a s n P B L : Int} (ho : ok p b l a s) (hu : undB p b l 0 P B L 0 = true) (he : (moveK p b l a s n).e = 0) :
    ok (moveK p b l a s n).p (moveK p b l a s n).b (moveK p b l a s n).l (moveK p b l a s n).a (moveK p b l a s n).s ∧ undB (moveK p b l a s n).p (moveK p b l a s n).b (moveK p b l a s n).l 0 P B L 0 = true := by
  rcases move_cases p b l a s n with ⟨E, hm, hE⟩ | ⟨_, _, hn, hm⟩
  · rw [hm] at he; simp at he hE; exact absurd he hE
  · rw [hm]; exact ⟨ok_at ho hn, hu⟩
theorem narrow_down {p b l a s n P B L : Int} (ho : ok p b l a s) (hu : undB p b l 0 P B L 0 = true) (he : (narrowK p b l a s n).e = 0) :
    ok (narrowK p b l a s n).p (narrowK p b l a s n).b (narrowK p b l a s n).l (narrowK p b l a s n).a (narrowK p b l a s n).s ∧ undB (narrowK p b l a s n).p (narrowK p b l a s n).b (narrowK p b l a s n).l 0 P B L 0 = true := by
  rcases narrow_cases p b l a s n with ⟨E, hm, hE⟩ | ⟨_, _, hn, hm⟩
  · rw [hm] at he; simp at he hE; exact absurd he hE
  · rw [hm]; exact ⟨by unfold ok at *; simp only; omega, und_trans (und_of (by simp only; omega) (in_refl _) (.inr rfl)) hu⟩
theorem drop_down {p b l a s n P B L : Int} (ho : ok p b l a s) (hu : undB p b l 0 P B L 0 = true) (he : (dropK p b l a s n).e = 0) :
    ok (dropK p b l a s n).p (dropK p b l a s n).b (dropK p b l a s n).l (dropK p b l a s n).a (dropK p b l a s n).s ∧ undB (dropK p b l a s n).p (dropK p b l a s n).b (dropK p b l a s n).l 0 P B L 0 = true := by
  rcases drop_cases p b l a s n with ⟨E, hm, hE⟩ | ⟨_, _, hm⟩
  · rw [hm] at he; simp at he hE; exact absurd he hE
  · rw [hm]; exact ⟨ok_and ho, und_trans (und_of (by simp only; omega) (in_and_l _ _) (.inr rfl)) hu⟩
theorem seal_down {p b l a s p' b' l' a' s' P B L : Int} (ho : ok p b l a s) (hu : undB p b l 0 P B L 0 = true) (he : (sealK p b l a s p' b' l' a' s').e = 0) :
    ok (sealK p b l a s p' b' l' a' s').p (sealK p b l a s p' b' l' a' s').b (sealK p b l a s p' b' l' a' s').l (sealK p b l a s p' b' l' a' s').a (sealK p b l a s p' b' l' a' s').s ∧ undB (sealK p b l a s p' b' l' a' s').p (sealK p b l a s p' b' l' a' s').b (sealK p b l a s p' b' l' a' s').l 0 P B L 0 = true := by
  rcases seal_cases p b l a s p' b' l' a' s' with ⟨E, hm, hE⟩ | ⟨_, _, _, _, _, _, ha, hm⟩
  · rw [hm] at he; simp at he hE; exact absurd he hE
  · rw [hm]; exact ⟨by unfold ok at *; simp only; omega, hu⟩
theorem open_down {p b l a s p' b' l' a' s' P B L : Int} (ho : ok p b l a s) (hu : undB p b l 0 P B L 0 = true) (he : (openK p b l a s p' b' l' a' s').e = 0) :
    ok (openK p b l a s p' b' l' a' s').p (openK p b l a s p' b' l' a' s').b (openK p b l a s p' b' l' a' s').l (openK p b l a s p' b' l' a' s').a (openK p b l a s p' b' l' a' s').s ∧ undB (openK p b l a s p' b' l' a' s').p (openK p b l a s p' b' l' a' s').b (openK p b l a s p' b' l' a' s').l 0 P B L 0 = true := by
  rcases open_cases p b l a s p' b' l' a' s' with ⟨E, hm, hE⟩ | ⟨_, _, _, _, _, _, _, hm⟩
  · rw [hm] at he; simp at he hE; exact absurd he hE
  · rw [hm]; exact ⟨by unfold ok at *; simp only; omega, hu⟩
theorem box_drew {w : World} {k : Nat} {c : Array Value} (h : Box w k c) : Box w.drew k c := ⟨h.1, h.2.1, h.2.2⟩
theorem box_set5 {w : World} {k : Nat} {c0 c1 c2 c3 c4 v0 v1 v2 v3 v4 : Value} (h : Box w k #[c0, c1, c2, c3, c4]) :
    Box (((((w.setCell ⟨k, 0, none⟩ v0).setCell ⟨k, 1, none⟩ v1).setCell ⟨k, 2, none⟩ v2).setCell ⟨k, 3, none⟩ v3).setCell ⟨k, 4, none⟩ v4) k #[v0, v1, v2, v3, v4] :=
  ((((h.set 0 v0 (by simp)).set 1 v1 (by simp)).set 2 v2 (by simp)).set 3 v3 (by simp)).set 4 v4 (by simp)
theorem box_other5 {w : World} {k k' : Nat} {c : Array Value} {v0 v1 v2 v3 v4 : Value} (h : Box w k c) (hk : k ≠ k') :
    Box (((((w.setCell ⟨k', 0, none⟩ v0).setCell ⟨k', 1, none⟩ v1).setCell ⟨k', 2, none⟩ v2).setCell ⟨k', 3, none⟩ v3).setCell ⟨k', 4, none⟩ v4) k c :=
  ((((h.setOther hk).setOther hk).setOther hk).setOther hk).setOther hk
theorem below_set5 {w w1 : World} {k : Nat} {v0 v1 v2 v3 v4 : Value} (h : Below w.heap.size w w1) (hk : w.heap.size ≤ k) :
    Below w.heap.size w (((((w1.setCell ⟨k, 0, none⟩ v0).setCell ⟨k, 1, none⟩ v1).setCell ⟨k, 2, none⟩ v2).setCell ⟨k, 3, none⟩ v3).setCell ⟨k, 4, none⟩ v4) :=
  ((((h.setCell (p := ⟨k, 0, none⟩) hk _).setCell (p := ⟨k, 1, none⟩) hk _).setCell (p := ⟨k, 2, none⟩) hk _).setCell (p := ⟨k, 3, none⟩) hk _).setCell (p := ⟨k, 4, none⟩) hk _
theorem turn_of (x y z : Int) (w : World) (hx : -9223372036854775808 ≤ x ∧ x ≤ 9223372036854775807) :
    Calls Try.prog 9 #[.agg #[.int .i64 x, .int .i64 y, .int .i64 z], .int .i64 5] w fun e w' => e = .returned (.int .i64 (x % 5)) ∧ Below w.heap.size w w' := by
  go_enter Try.func9, Try.ntmps9
  go_wp2_with (go_at_call 13; refine (ref_rest _ _ _ hx (by omega)).mono ?_; rintro e w' ⟨rfl, rfl⟩)
  go_ret
  exact ⟨rfl, (Below.refl _ _).alloc (Nat.le_refl _) _⟩

set_option maxHeartbeats 4000000 in
set_option maxRecDepth 1000000 in
theorem walk (a0p a0b a0l a0a a0s : Int) (a1 : Option Addr) (len1 cap1 : Nat) (K0 : kb a0p a0b a0l a0a a0s) (w : World) (T1 : IsTurns w a1 len1) :
    Calls Try.prog 4 #[.agg #[.int .i64 a0p, .int .i64 a0b, .int .i64 a0l, .int .i64 a0a, .int .i64 a0s], .slice a1 len1 cap1] w fun e w' => e = .returned (.bool true) ∧ Below w.heap.size w w' := by
  by_cases ho : ok a0p a0b a0l a0a a0s
  case neg =>
    have k0 := chk_no ho
    clear ho
    go_enter Try.func4, Try.ntmps4
    go_wp2_with (first | (go_at_call 5; refine (keyed_true _).mono ?_; rintro e w1 ⟨rfl, hbb⟩; first | (replace B2 := (B2.alloc _).below hbb; replace B1 := (B1.alloc _).below hbb; have B3 := (Box.new _ _ _).below hbb; clear q1 z1 f1 q2 z2; have q1 := B1.cell; have z1 := B1.lt; have f1 := B1.free; have q2 := B2.cell; have z2 := B2.lt; have q3 := B3.cell; have z3 := B3.lt; replace hB := Below.step0 (hB.alloc hB.size _) hbb; clear hbb) | (replace B2 := B2.below hbb; replace B1 := B1.below hbb; clear q1 z1 f1 q2 z2; have q1 := B1.cell; have z1 := B1.lt; have f1 := B1.free; have q2 := B2.cell; have z2 := B2.lt; replace hB := Below.step0 hB hbb; clear hbb) | (replace B1 := (B1.alloc _).below hbb; have B2 := (Box.new _ _ _).below hbb; clear q1 z1 f1; have q1 := B1.cell; have z1 := B1.lt; have f1 := B1.free; have q2 := B2.cell; have z2 := B2.lt; replace hB := Below.step0 (hB.alloc hB.size _) hbb; clear hbb) | (replace B1 := B1.below hbb; clear q1 z1 f1; have q1 := B1.cell; have z1 := B1.lt; have f1 := B1.free; replace hB := Below.step0 hB hbb; clear hbb) | (have B1 := (Box.new _ _ _).below hbb; have q1 := B1.cell; have z1 := B1.lt; have f1 := B1.free; have hB := Below.step0 ((Below.refl _ _).alloc (Nat.le_refl _) _) hbb; clear hbb)) | (go_at_call 8; refine (keys_check _ _ _ _ _ _ K0).mono ?_; rintro e w1 ⟨rfl, hbb⟩; first | (replace B2 := (B2.alloc _).below hbb; replace B1 := (B1.alloc _).below hbb; have B3 := (Box.new _ _ _).below hbb; clear q1 z1 f1 q2 z2; have q1 := B1.cell; have z1 := B1.lt; have f1 := B1.free; have q2 := B2.cell; have z2 := B2.lt; have q3 := B3.cell; have z3 := B3.lt; replace hB := Below.step0 (hB.alloc hB.size _) hbb; clear hbb) | (replace B2 := B2.below hbb; replace B1 := B1.below hbb; clear q1 z1 f1 q2 z2; have q1 := B1.cell; have z1 := B1.lt; have f1 := B1.free; have q2 := B2.cell; have z2 := B2.lt; replace hB := Below.step0 hB hbb; clear hbb) | (replace B1 := (B1.alloc _).below hbb; have B2 := (Box.new _ _ _).below hbb; clear q1 z1 f1; have q1 := B1.cell; have z1 := B1.lt; have f1 := B1.free; have q2 := B2.cell; have z2 := B2.lt; replace hB := Below.step0 (hB.alloc hB.size _) hbb; clear hbb) | (replace B1 := B1.below hbb; clear q1 z1 f1; have q1 := B1.cell; have z1 := B1.lt; have f1 := B1.free; replace hB := Below.step0 hB hbb; clear hbb) | (have B1 := (Box.new _ _ _).below hbb; have q1 := B1.cell; have z1 := B1.lt; have f1 := B1.free; have hB := Below.step0 ((Below.refl _ _).alloc (Nat.le_refl _) _) hbb; clear hbb)))
    go_ret
    exact ⟨rfl, hB⟩
  have k0 := chk_yes ho
  have hu0 : undB a0p a0b a0l 0 a0p a0b a0l 0 = true := und_refl _ _ _ _
  obtain ⟨hml, T⟩ := T1
  unfold maxLen at hml
  have HO : Hid (ok a0p a0b a0l a0a a0s) := ho
  clear ho
  go_enter Try.func4, Try.ntmps4
  go_wp2_with (first | (go_at_call 5; refine (keyed_true _).mono ?_; rintro e w1 ⟨rfl, hbb⟩; first | (replace B2 := (B2.alloc _).below hbb; replace B1 := (B1.alloc _).below hbb; have B3 := (Box.new _ _ _).below hbb; clear q1 z1 f1 q2 z2; have q1 := B1.cell; have z1 := B1.lt; have f1 := B1.free; have q2 := B2.cell; have z2 := B2.lt; have q3 := B3.cell; have z3 := B3.lt; replace hB := Below.step0 (hB.alloc hB.size _) hbb; clear hbb) | (replace B2 := B2.below hbb; replace B1 := B1.below hbb; clear q1 z1 f1 q2 z2; have q1 := B1.cell; have z1 := B1.lt; have f1 := B1.free; have q2 := B2.cell; have z2 := B2.lt; replace hB := Below.step0 hB hbb; clear hbb) | (replace B1 := (B1.alloc _).below hbb; have B2 := (Box.new _ _ _).below hbb; clear q1 z1 f1; have q1 := B1.cell; have z1 := B1.lt; have f1 := B1.free; have q2 := B2.cell; have z2 := B2.lt; replace hB := Below.step0 (hB.alloc hB.size _) hbb; clear hbb) | (replace B1 := B1.below hbb; clear q1 z1 f1; have q1 := B1.cell; have z1 := B1.lt; have f1 := B1.free; replace hB := Below.step0 hB hbb; clear hbb) | (have B1 := (Box.new _ _ _).below hbb; have q1 := B1.cell; have z1 := B1.lt; have f1 := B1.free; have hB := Below.step0 ((Below.refl _ _).alloc (Nat.le_refl _) _) hbb; clear hbb)) | (go_at_call 8; refine (keys_check _ _ _ _ _ _ K0).mono ?_; rintro e w1 ⟨rfl, hbb⟩; first | (replace B2 := (B2.alloc _).below hbb; replace B1 := (B1.alloc _).below hbb; have B3 := (Box.new _ _ _).below hbb; clear q1 z1 f1 q2 z2; have q1 := B1.cell; have z1 := B1.lt; have f1 := B1.free; have q2 := B2.cell; have z2 := B2.lt; have q3 := B3.cell; have z3 := B3.lt; replace hB := Below.step0 (hB.alloc hB.size _) hbb; clear hbb) | (replace B2 := B2.below hbb; replace B1 := B1.below hbb; clear q1 z1 f1 q2 z2; have q1 := B1.cell; have z1 := B1.lt; have f1 := B1.free; have q2 := B2.cell; have z2 := B2.lt; replace hB := Below.step0 hB hbb; clear hbb) | (replace B1 := (B1.alloc _).below hbb; have B2 := (Box.new _ _ _).below hbb; clear q1 z1 f1; have q1 := B1.cell; have z1 := B1.lt; have f1 := B1.free; have q2 := B2.cell; have z2 := B2.lt; replace hB := Below.step0 (hB.alloc hB.size _) hbb; clear hbb) | (replace B1 := B1.below hbb; clear q1 z1 f1; have q1 := B1.cell; have z1 := B1.lt; have f1 := B1.free; replace hB := Below.step0 hB hbb; clear hbb) | (have B1 := (Box.new _ _ _).below hbb; have q1 := B1.cell; have z1 := B1.lt; have f1 := B1.free; have hB := Below.step0 ((Below.refl _ _).alloc (Nat.le_refl _) _) hbb; clear hbb)))
  go_loopw [20] (fun i wr => ∃ (k : Nat) (p b l a s : Int), k ≤ len1 ∧ i = .int .i64 k ∧ Below w.heap.size w wr ∧ Box wr w.heap.size #[.int .i64 p, .int .i64 b, .int .i64 l, .int .i64 a, .int .i64 s] ∧ Box wr w1.heap.size #[.int .i64 a0p, .int .i64 a0b, .int .i64 a0l, .int .i64 a0a, .int .i64 a0s] ∧ Hid (ok p b l a s) ∧ Hid (undB p b l 0 a0p a0b a0l 0 = true)) (fun i _ => len1 - (intOf i).toNat)
  case atStart => exact ⟨0, a0p, a0b, a0l, a0a, a0s, Nat.zero_le _, rfl, hB.alloc hB.size _, B1.alloc _, Box.new _ _ _, HO, hu0⟩
  case round =>
    have hw1 := B1.lt
    clear B1 hB q1 z1 f1 hu0
    obtain ⟨k, p, b, l, a, s, hk, rfl, hB, B1, B2, HK, HU⟩ := hrel
    have q1 := B1.cell
    have z1 := B1.lt
    have f1 := B1.free
    have q2 := B2.cell
    have z2 := B2.lt
    by_cases hlt : k < len1
    · rcases T with h0 | ⟨B, off, rfl, hBw, hall⟩
      · omega
      obtain ⟨x, y, z, hx0, hy0, hz0, e0, e1, e2⟩ := hall k hlt
      have c0 := (hB.cell (p := ⟨B, off + k * 3, none⟩) hBw).trans e0
      have c1 := (hB.cell (p := ⟨B, off + k * 3 + 1, none⟩) hBw).trans e1
      have c2 := (hB.cell (p := ⟨B, off + k * 3 + 2, none⟩) hBw).trans e2
      clear e0 e1 e2 hall
      have hk1 : (0 : Int) ≤ (k : Int) := by omega
      have hk2 : (k : Int) < (len1 : Int) := by omega
      have hBr := hB.size
      have z2r := z2
      go_upto_block 2 with (go_at_call 9; refine (turn_of _ _ _ _ hx0).mono ?_; rintro e w5 ⟨rfl, hbb⟩; replace B1 := ((B1.alloc _).alloc _).below hbb; replace B2 := ((B2.alloc _).alloc _).below hbb; have B3 := ((Box.new _ _ _).alloc _).below hbb; have B4 := (Box.new1 _ _ _ _).below hbb; have hz1 := B3.lt; clear q1 q2 z1 z2 f1 c0 c1 c2; have q1 := B1.cell; have q2 := B2.cell; have q3 := B3.cell; have q4 := B4.cell; have f4 := B4.free; replace hB := Below.step0 (hB.trans ((two _ _).mono hB.size)) hbb; clear hbb)
      go_cut [9] from 25 to 92 (fun s9 wx => ∃ r : KK, s9 = .int .i64 r.e ∧ Below w.heap.size w wx ∧ Box wx w.heap.size #[.int .i64 p, .int .i64 b, .int .i64 l, .int .i64 a, .int .i64 s] ∧ Box wx w1.heap.size #[.int .i64 a0p, .int .i64 a0b, .int .i64 a0l, .int .i64 a0a, .int .i64 a0s] ∧ Box wx (wr.heap.size + 1) #[.int .i64 r.p, .int .i64 r.b, .int .i64 r.l, .int .i64 r.a, .int .i64 r.s] ∧ Hid (r.e = 0 → ok r.p r.b r.l r.a r.s ∧ undB r.p r.b r.l 0 a0p a0b a0l 0 = true))
      case first =>
        have ht0 : 0 ≤ x % 5 := Int.emod_nonneg _ (by decide)
        have ht1 : x % 5 < 5 := Int.emod_lt_of_pos _ (by decide)
        have KC := kb_of_ok HK.out
        have cs : x % 5 = 0 ∨ x % 5 = 1 ∨ x % 5 = 2 ∨ x % 5 = 3 ∨ x % 5 = 4 := by omega
        clear ht0 ht1
        rcases cs with ht | ht | ht | ht | ht
        · go_wp2_with (first | (go_at_call 10; refine (keys_move _ _ _ _ _ _ _ KC).mono ?_; rintro e w5 ⟨rfl, hbb⟩; replace B1 := B1.below hbb; replace B2 := B2.below hbb; replace B3 := B3.below hbb; replace B4 := B4.below hbb; clear q1 q2 q3 q4 f4; have q1 := B1.cell; have q2 := B2.cell; have q3 := B3.cell; have q4 := B4.cell; have f4 := B4.free; replace hB := Below.step0 hB hbb; clear hbb))
          go_meet
          exact ⟨moveK p b l a s y, rfl, below_set5 hB (by omega), box_other5 B1 (by omega), box_other5 B2 (by omega), box_set5 B4, fun he => move_down HK.out HU.out he⟩
        · go_wp2_with (first | (go_at_call 11; refine (keys_narrow _ _ _ _ _ _ _ KC).mono ?_; rintro e w5 ⟨rfl, hbb⟩; replace B1 := B1.below hbb; replace B2 := B2.below hbb; replace B3 := B3.below hbb; replace B4 := B4.below hbb; clear q1 q2 q3 q4 f4; have q1 := B1.cell; have q2 := B2.cell; have q3 := B3.cell; have q4 := B4.cell; have f4 := B4.free; replace hB := Below.step0 hB hbb; clear hbb))
          go_meet
          exact ⟨narrowK p b l a s y, rfl, below_set5 hB (by omega), box_other5 B1 (by omega), box_other5 B2 (by omega), box_set5 B4, fun he => narrow_down HK.out HU.out he⟩
        · go_wp2_with (first | (go_at_call 6; refine (keys_drop _ _ _ _ _ _ _ KC).mono ?_; rintro e w5 ⟨rfl, hbb⟩; replace B1 := B1.below hbb; replace B2 := B2.below hbb; replace B3 := B3.below hbb; replace B4 := B4.below hbb; clear q1 q2 q3 q4 f4; have q1 := B1.cell; have q2 := B2.cell; have q3 := B3.cell; have q4 := B4.cell; have f4 := B4.free; replace hB := Below.step0 hB hbb; clear hbb))
          go_meet
          exact ⟨dropK p b l a s y, rfl, below_set5 hB (by omega), box_other5 B1 (by omega), box_other5 B2 (by omega), box_set5 B4, fun he => drop_down HK.out HU.out he⟩
        · have hr0 : 0 ≤ z % 3 := Int.emod_nonneg _ (by decide)
          have hr1 : z % 3 < 3 := Int.emod_lt_of_pos _ (by decide)
          have KY : kb 32 0 64 (1 + z % 3) 0 := by unfold kb; omega
          have hne1 : ¬ w.heap.size = wr.heap.size + 1 := by omega
          have hne2 : ¬ wr.heap.size + 1 = w.heap.size := by omega
          have hwz : IntKind.i64.wrap (1 + z % 3) = 1 + z % 3 := by rw [IntKind.wrap_i64]; omega
          clear hy0 hk1 hk2 hlt hml k0 K0
          go_wp2
          go_region_held3 (fun w' => w'.cell? ⟨w.heap.size, 0, none⟩ = some (.int .i64 p) ∧ w'.cell? ⟨w.heap.size, 1, none⟩ = some (.int .i64 b) ∧ w'.cell? ⟨w.heap.size, 2, none⟩ = some (.int .i64 l) ∧ w'.cell? ⟨w.heap.size, 3, none⟩ = some (.int .i64 a) ∧ w'.cell? ⟨w.heap.size, 4, none⟩ = some (.int .i64 s) ∧ w'.cell? ⟨wr.heap.size, 2, none⟩ = some (.int .i64 z)) (go_keep) (first | (go_at_call 13; refine (ref_rest _ _ _ hz0 (by omega)).mono ?_; rintro e w9 ⟨rfl, rfl⟩) | (go_at_call 12; refine (keys_seal _ _ _ _ _ _ _ _ _ _ _ (by with_reducible exact KC) (by with_reducible exact KY)).mono ?_; rintro e w9 ⟨rfl, hbb⟩; replace B1 := (box_drew B1).below hbb; replace B2 := (box_drew B2).below hbb; replace B3 := (box_drew B3).below hbb; replace B4 := (box_drew B4).below hbb; clear q1 q2 q3 q4 f4; have q1 := B1.cell; have q2 := B2.cell; have q3 := B3.cell; have q4 := B4.cell; have f4 := B4.free; replace hB := Below.step0 hB.drew hbb; clear hbb))
          go_wp2
          go_meet
          exact ⟨sealK p b l a s 32 0 64 (1 + z % 3) 0, rfl, below_set5 hB (by omega), box_other5 B1 (by omega), box_other5 B2 (by omega), box_set5 B4, fun he => seal_down HK.out HU.out he⟩
        · have hr0 : 0 ≤ z % 3 := Int.emod_nonneg _ (by decide)
          have hr1 : z % 3 < 3 := Int.emod_lt_of_pos _ (by decide)
          have KY : kb 64 0 64 (1 + z % 3) 0 := by unfold kb; omega
          have hne1 : ¬ w.heap.size = wr.heap.size + 1 := by omega
          have hne2 : ¬ wr.heap.size + 1 = w.heap.size := by omega
          have hwz : IntKind.i64.wrap (1 + z % 3) = 1 + z % 3 := by rw [IntKind.wrap_i64]; omega
          clear hy0 hk1 hk2 hlt hml k0 K0
          go_wp2
          go_region_held3 (fun w' => w'.cell? ⟨w.heap.size, 0, none⟩ = some (.int .i64 p) ∧ w'.cell? ⟨w.heap.size, 1, none⟩ = some (.int .i64 b) ∧ w'.cell? ⟨w.heap.size, 2, none⟩ = some (.int .i64 l) ∧ w'.cell? ⟨w.heap.size, 3, none⟩ = some (.int .i64 a) ∧ w'.cell? ⟨w.heap.size, 4, none⟩ = some (.int .i64 s) ∧ w'.cell? ⟨wr.heap.size, 2, none⟩ = some (.int .i64 z)) (go_keep) (first | (go_at_call 13; refine (ref_rest _ _ _ hz0 (by omega)).mono ?_; rintro e w9 ⟨rfl, rfl⟩) | (go_at_call 14; refine (keys_open _ _ _ _ _ _ _ _ _ _ _ (by with_reducible exact KC) (by with_reducible exact KY)).mono ?_; rintro e w9 ⟨rfl, hbb⟩; replace B1 := (box_drew B1).below hbb; replace B2 := (box_drew B2).below hbb; replace B3 := (box_drew B3).below hbb; replace B4 := (box_drew B4).below hbb; clear q1 q2 q3 q4 f4; have q1 := B1.cell; have q2 := B2.cell; have q3 := B3.cell; have q4 := B4.cell; have f4 := B4.free; replace hB := Below.step0 hB.drew hbb; clear hbb))
          go_wp2
          go_meet
          exact ⟨openK p b l a s 64 0 64 (1 + z % 3) 0, rfl, below_set5 hB (by omega), box_other5 B1 (by omega), box_other5 B2 (by omega), box_set5 B4, fun he => open_down HK.out HU.out he⟩
      case rest =>
        obtain ⟨r, rfl, hBx, X1, X2, X4, HR⟩ := hcut
        clear q1 q2 q3 q4 f4 B1 B2 B3 B4 hB
        go_upto_if 77 with fail
        go_cut [] from 25 to 92 (fun wx => ∃ p2 b2 l2 a2 s2 : Int, Below w.heap.size w wx ∧ Box wx w.heap.size #[.int .i64 p2, .int .i64 b2, .int .i64 l2, .int .i64 a2, .int .i64 s2] ∧ Box wx w1.heap.size #[.int .i64 a0p, .int .i64 a0b, .int .i64 a0l, .int .i64 a0a, .int .i64 a0s] ∧ Hid (ok p2 b2 l2 a2 s2) ∧ Hid (undB p2 b2 l2 0 a0p a0b a0l 0 = true))
        case first =>
          have q1 := X1.cell
          have q4 := X4.cell
          have f1 := X1.free
          cases he : (r.e == 0)
          · go_wp2
            go_meet
            exact ⟨p, b, l, a, s, hBx, X1, X2, HK, HU⟩
          · have hr := HR.out (by simpa using he)
            have HR1 : Hid (ok r.p r.b r.l r.a r.s) := hr.1
            have HR2 : Hid (undB r.p r.b r.l 0 a0p a0b a0l 0 = true) := hr.2
            clear hr HR
            go_wp2
            go_meet
            exact ⟨r.p, r.b, r.l, r.a, r.s, below_set5 hBx (by omega), box_set5 X1, box_other5 X2 (by omega), HR1, HR2⟩
        case rest =>
          clear hBx X1 X2 X4 HR HK HU
          obtain ⟨p2, b2, l2, a2, s2, hB, B1, B2, HK, HU⟩ := hcut
          have q1 := B1.cell
          have z1 := B1.lt
          have q2 := B2.cell
          have z2 := B2.lt
          go_upto_region 22 with fail
          go_region
          all_goals
            have k2 := chk_yes HK.out
            have KC := kb_of_ok HK.out
            have KA : kb p2 b2 l2 a2 0 := ⟨KC.1, KC.2.1, KC.2.2.1, KC.2.2.2.1, by omega⟩
            have KB : kb a0p a0b a0l a0a 0 := ⟨K0.1, K0.2.1, K0.2.2.1, K0.2.2.2.1, by omega⟩
            have hu := HU.out
            go_wp2_with (first | (go_at_call 8; refine (keys_check _ _ _ _ _ _ KC).mono ?_; rintro e w9 ⟨rfl, hbb⟩; replace B1 := (box_drew ((B1.alloc _).alloc _)).below hbb; replace B2 := (box_drew ((B2.alloc _).alloc _)).below hbb; have B3 := (box_drew ((Box.new _ _ _).alloc _)).below hbb; have B4 := (box_drew (Box.new1 _ _ _ _)).below hbb; clear q1 q2 z1 z2; have q1 := B1.cell; have q2 := B2.cell; have q3 := B3.cell; have q4 := B4.cell; replace hB := Below.step0 (hB.trans ((two _ _).mono hB.size)).drew hbb; clear hbb) | (go_at_call 15; refine (keys_under _ _ _ _ _ _ _ _ _ _ _ KA KB).mono ?_; rintro e w9 ⟨rfl, hbb⟩; replace B1 := B1.below hbb; replace B2 := B2.below hbb; replace hB := Below.step0 hB hbb; clear hbb))
            go_roundw
            case rel => exact ⟨k + 1, p2, b2, l2, a2, s2, by omega, by go_num, hB, B1, B2, HK, HU⟩
            case measure => simp [intOf]; omega
    · go_wp2
      go_ret
      exact ⟨rfl, hB⟩

set_option maxRecDepth 100000 in
theorem lifted (os : Os) (started : os.Started) (H : Type) (enc : TypeId × Value → H) :
    ReturnsInHanded {} Try.checked os 4 .any (Rows.keysNeverSpec.pre6 enc Try.prog Try.f4 Rows.keysNeverRow.domain false) (Rows.keysNeverSpec.post enc Try.prog Try.f4 false true false false) := by
  refine returnsInHanded_of_change (C := Try.checked) own started (by kernel_rfl) Try.func4
    (ChangeSpec.witness6 (enc := enc) (C := Try.checked) false ⟨#[], #[.agg #[.int .i64 0, .int .i64 0, .int .i64 0, .int .i64 0, .int .i64 0], .slice none 0 0], []⟩ 8 (by kernel_rfl) (by kernel_rfl) (by kernel_rfl) (by kernel_rfl)) ?_
  intro W base args ds gs before hval0 hW hcnd _
  have hval : ∀ (j : Nat) t v, Try.f4.params[j]? = some t → args[j]? = some v → Value.okWide Try.prog W .any base t v := hval0
  have hW' := hW
  obtain ⟨p, q, hA0, hV, rfl, hfz, hnd⟩ := hW
  have hA : DataW.TrodAll enc Try.prog W 0 (fun _ => true) true Try.f4.params.toList args.toList ds p := hA0
  rw [Try.params4] at hA hval
  obtain ⟨v0, vs0, d0, ds0, p0, q0, hargs, rfl, rfl, h0, r0⟩ := trodAll_cons hA
  obtain ⟨v1, vs1, d1, ds1, p1, q1, rfl, rfl, rfl, h1, r1⟩ := trodAll_cons r0
  obtain ⟨rfl, rfl, rfl⟩ := trodAll_nil r1
  obtain rfl : args = #[v0, v1] := by cases args; simp_all
  obtain ⟨rfl, rfl⟩ := trodVars_none hV
  obtain ⟨a0p, a0b, a0l, a0a, a0s, rfl, rfl, rfl, w0p, w0b, w0l, w0a, w0s⟩ := open_key (hval 0 23 v0 rfl rfl) h0
  obtain ⟨a1, len1, cap1, rfl⟩ := okWide_slice Try.underlying30 (hval 1 30 v1 rfl rfl)
  have k1 := h1
  have lt1 : ∀ x ∈ p1, x.block < W.heap.size := by obtain ⟨m, hm⟩ := k1; exact DataW.trod_lt m _ _ _ hm
  clear hA0 hval0
  refine (walk a0p a0b a0l a0a a0s a1 len1 cap1 ⟨bounds_i64 w0p, bounds_i64 w0b, bounds_i64 w0l, bounds_i64 w0a, bounds_i64 w0s⟩ W (open_turns k1)).mono fun e W' ⟨he, bel⟩ => ?_
  subst he
  exact ⟨_, rfl, _, _, _, [], _, [], hW', trodAll_mk1 (shut_bool Try.underlying4 _), (trodAll_cons_mk (shut_key w0p w0b w0l w0a w0s) (trodAll_cons_mk (Below.trod laidOut (by kernel_rfl) (of_decide_eq_true (by kernel_rfl)) k1 bel lt1) trodAll_mk0)), rfl, bel.frame _, fun h => by cases h⟩

theorem over : Rows.keysNeverRow.holds Try.pinned (OpenSpec.ofChange Rows.keysNeverSpec) :=
  OpenClaim.holds_of_wide 4 Try.f4 rfl rfl rfl rfl rfl rfl rfl ⟨rfl, rfl, rfl, rfl, rfl⟩ rfl rfl rfl rfl rfl (by kernel_rfl) Try.func4 (by kernel_rfl)
    (of_decide_eq_true (by kernel_rfl)) (by unfold Func.isWrapper; first | (rw [if_pos (by decide +kernel)]; kernel_rfl) | (rw [if_neg (by decide +kernel)]; exact ⟨rfl, rfl⟩))
    (fun os started H enc _ => lifted os started H enc)

theorem proved : Rows.KeysNeverSaid :=
  over
#print axioms proved
end Go.Proofs.Ytpmmgpiamginaac.keysNever
