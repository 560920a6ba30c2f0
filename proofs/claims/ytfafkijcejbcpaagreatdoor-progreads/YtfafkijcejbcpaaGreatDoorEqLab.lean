/- custodianref.Eq over two lists of labels: are they the same? -/
import Derived.Test.YtfafkijcejbcpaaGreatDoorRows
import Derived.Test.YtfafkijcejbcpaaGreatDoorKeyPure
import Derived.Test.YtfafkijcejbcpaaGreatDoorInstOp
import Derived.Test.YtfafkijcejbcpaaGreatDoorTextPure
import Derived.Test.YtfafkijcejbcpaaGreatDoorProgPure
import Derived.Test.YtfafkijcejbcpaaGreatDoorProgState
import Derived.Test.YtfafkijcejbcpaaGreatDoorProgLabel
import Derived.WalkKit
import Derived.ProofKit
namespace Go.Proofs.YtfafkijcejbcpaaGreatDoor
open Go.ChangeShapes Go.WideShapes Go.ChangeAt Go.RowKit
set_option linter.unusedSimpArgs false

/-- Where a list of labels lies. -/
def LabsAt (w : World) (a : Option Addr) (bs : List LB) : Prop :=
  bs.length = 0 ∨ ∃ B : Nat, a = some ⟨B, 0, none⟩ ∧ B < w.heap.size ∧ ∀ i b, bs[i]? = some b → w.cell? ⟨B, i * 2, none⟩ = some (.string (bL b.nm)) ∧ w.cell? ⟨B, i * 2 + 1, none⟩ = some (.int .i64 b.at_)
theorem LabsAt.below {w w' : World} {a : Option Addr} {bs : List LB} (h : LabsAt w a bs) (hb : Below w.heap.size w w') : LabsAt w' a bs := by
  rcases h with h | ⟨B, e, hB, hc⟩
  · exact .inl h
  · refine .inr ⟨B, e, Nat.lt_of_lt_of_le hB hb.size, fun i b hi => ?_⟩
    rw [hb.cell (p := ⟨B, i * 2, none⟩) hB, hb.cell (p := ⟨B, i * 2 + 1, none⟩) hB]
    exact hc i b hi
theorem own_labs {w : World} {base : Nat} {v : Value} {bs : List LB} {n : Nat} (hn : n = bs.length) (h : w.ownsRow base 30 2 v n (bs.flatMap lbC)) : ∃ a c, v = .slice a n c ∧ LabsAt w a bs := by
  subst hn
  rcases own_cells h with ⟨h0, _⟩ | ⟨g, cap, rfl, hg, _, hc⟩
  · obtain ⟨a, c, rfl⟩ := own_slice h
    exact ⟨a, c, rfl, .inl h0⟩
  · refine ⟨_, _, rfl, .inr ⟨g, rfl, hg, fun i b hi => ?_⟩⟩
    obtain ⟨h1, h2⟩ := lb_get bs i b hi
    exact ⟨hc _ _ h1, hc _ _ h2⟩
theorem lb_eq {a b : LB} (h1 : a.nm = b.nm) (h2 : a.at_ = b.at_) : a = b := by
  obtain ⟨x, y⟩ := a
  obtain ⟨z, u⟩ := b
  cases h1
  cases h2
  rfl
/-- Are they the same? -/
def lbSame : List LB → List LB → Bool
  | [], [] => true
  | a :: xs, b :: ys => (decide (a.nm = b.nm) && decide (a.at_ = b.at_)) && lbSame xs ys
  | _, _ => false
theorem lbSame_self : ∀ xs : List LB, lbSame xs xs = true
  | [] => rfl
  | x :: xs => by rw [lbSame, lbSame_self xs]; simp
theorem lbSame_eq : ∀ {xs ys : List LB}, lbSame xs ys = true → xs = ys
  | [], [], _ => rfl
  | [], _ :: _, h => by cases h
  | _ :: _, [], h => by cases h
  | a :: xs, b :: ys, h => by
    rw [lbSame] at h
    simp only [Bool.and_eq_true, decide_eq_true_eq] at h
    rw [lb_eq h.1.1 h.1.2, lbSame_eq h.2]
set_option maxRecDepth 100000 in
set_option maxHeartbeats 2000000 in
theorem ref_eqlab (a b : Option Addr) (c d : Nat) (xs ys : List LB) (w : World) (ha : LabsAt w a xs) (hb : LabsAt w b ys) (hm : xs.length ≤ 1000000) :
    Calls Tryz.prog 7 #[.slice a xs.length c, .slice b ys.length d] w fun e w' => e = .returned (.bool (lbSame xs ys)) ∧ Below w.heap.size w w' := by
  by_cases hl : xs.length = ys.length
  · obtain ⟨R, hR⟩ : ∃ R, lbSame xs ys = R := ⟨_, rfl⟩
    rw [hR, ← hl]
    have HR : Hid (lbSame xs ys = R) := hR
    have HA : Hid (LabsAt w a xs) := ha
    have HB : Hid (LabsAt w b ys) := hb
    have HL : Hid (xs.length = ys.length) := hl
    clear hR hl ha hb
    go_enter Tryz.func7, Tryz.ntmps7
    go_wp2
    go_loopw [14] (fun i wr => ∃ k : Nat, k ≤ xs.length ∧ i = .int .i64 (k : Int) ∧ Below w.heap.size w wr ∧ lbSame (xs.drop k) (ys.drop k) = R) (fun i _ => xs.length - (intOf i).toNat)
    case atStart => exact ⟨0, Nat.zero_le _, rfl, Below.refl _ _, HR.out⟩
    case round =>
      obtain ⟨k, hk, rfl, hB, hs⟩ := hrel
      by_cases hlt : k < xs.length
      · have gk : (k : Int) < (xs.length : Int) := by omega
        have hA := HA.out.below hB
        have hBb := HB.out.below hB
        obtain ⟨p, hp⟩ : ∃ p, xs[k]? = some p := ⟨_, List.getElem?_eq_getElem hlt⟩
        obtain ⟨q, hq⟩ : ∃ q, ys[k]? = some q := ⟨_, List.getElem?_eq_getElem (by have := HL.out; omega)⟩
        rcases hA with h0 | ⟨B1, e1, hB1, hc1⟩
        · omega
        rcases hBb with h0 | ⟨B2, e2, hB2, hc2⟩
        · have := HL.out; omega
        subst e1
        subst e2
        obtain ⟨c1, c2⟩ := hc1 k p hp
        obtain ⟨d1, d2⟩ := hc2 k q hq
        have e1 : xs.drop k = p :: xs.drop (k + 1) := by
          rw [List.drop_eq_getElem_cons hlt]
          rw [List.getElem?_eq_getElem hlt] at hp
          injection hp with hp
          rw [hp]
        have e2 : ys.drop k = q :: ys.drop (k + 1) := by
          have h1 : k < ys.length := by have := HL.out; omega
          rw [List.drop_eq_getElem_cons h1]
          rw [List.getElem?_eq_getElem h1] at hq
          injection hq with hq
          rw [hq]
        rw [e1, e2, lbSame] at hs
        have kb : k ≤ 1000000 := by omega
        have HB1 : Hid (Below w.heap.size w (wr.alloc (.cells #[.string (bL p.nm), .int .i64 p.at_] 30)).drew) := (hB.alloc hB.size _).drew
        clear hc1 hc2 e1 e2 hp hq
        by_cases h1 : p.nm = q.nm
        · have es := str_same (show bL p.nm = bL q.nm by rw [h1])
          by_cases h2 : p.at_ = q.at_
          · have ei : (p.at_ == q.at_) = true := by simpa using h2
            rw [decide_eq_true h1, decide_eq_true h2, Bool.true_and, Bool.true_and] at hs
            have HS := hs
            generalize bL p.nm = P at *
            generalize bL q.nm = Q at *
            generalize p.at_ = y at *
            generalize q.at_ = z at *
            subst h2
            have HSS : Hid (lbSame (xs.drop (k + 1)) (ys.drop (k + 1)) = R) := hs
            clear hs HS h1 hB
            go_wp2
            go_region
            all_goals go_wp2
            go_roundw
            case rel => exact ⟨k + 1, by omega, rfl, HB1.out, HSS.out⟩
            case measure => simp [intOf]; omega
          · have ei : (p.at_ == q.at_) = false := by simpa using h2
            rw [decide_eq_false h2, Bool.and_false, Bool.false_and] at hs
            subst hs
            generalize bL p.nm = P at *
            generalize bL q.nm = Q at *
            generalize p.at_ = y at *
            generalize q.at_ = z at *
            clear h1 hB HR
            go_wp2
            go_region
            all_goals go_wp2
            go_ret
            exact ⟨rfl, HB1.out⟩
        · have es := str_differ (fun h : bL p.nm = bL q.nm => h1 (bL_inj h))
          rw [decide_eq_false h1, Bool.false_and, Bool.false_and] at hs
          subst hs
          generalize bL p.nm = P at *
          generalize bL q.nm = Q at *
          generalize p.at_ = y at *
          generalize q.at_ = z at *
          clear h1 hB HR
          go_wp2
          go_region
          all_goals go_wp2
          go_ret
          exact ⟨rfl, HB1.out⟩
      · obtain rfl : k = xs.length := by omega
        have gk : ¬ (xs.length : Int) < (xs.length : Int) := by omega
        rw [List.drop_length, List.drop_of_length_le (by have := HL.out; omega)] at hs
        have hs' : R = true := hs.symm
        subst hs'
        go_wp2
        go_ret
        exact ⟨rfl, hB⟩
  · have gl : ((xs.length : Int) != (ys.length : Int)) = true := by simp; omega
    have hn : lbSame xs ys = false := by
      rw [Bool.eq_false_iff]
      intro h
      exact hl (by rw [lbSame_eq h])
    rw [hn]
    go_enter Tryz.func7, Tryz.ntmps7
    go_wp2
    go_ret
    exact ⟨rfl, Below.refl _ _⟩
end Go.Proofs.YtfafkijcejbcpaaGreatDoor
