/- Chapter 7: one line, as the document looks at it; without any program but for the contract of jumpTo in one form. -/
import Derived.Test.YtfafkijcejbcpaaGreatDoorRows
import Derived.Test.YtfafkijcejbcpaaGreatDoorKeyPure
import Derived.Test.YtfafkijcejbcpaaGreatDoorTextPure
import Derived.Test.YtfafkijcejbcpaaGreatDoorParsePure
import Derived.Test.YtfafkijcejbcpaaGreatDoorInstParse2
import Derived.Test.YtfafkijcejbcpaaGreatDoorSplitPure
import Derived.Test.YtfafkijcejbcpaaGreatDoorNamePure
import Derived.Test.YtfafkijcejbcpaaGreatDoorProgPure
import Derived.Test.YtfafkijcejbcpaaGreatDoorProgFacts
import Derived.Test.YtfafkijcejbcpaaGreatDoorLinesAll
import Derived.Test.YtfafkijcejbcpaaGreatDoorJumpAll
import Derived.WalkKit
namespace Go.Proofs.YtfafkijcejbcpaaGreatDoor
open Go.ChangeShapes Go.WideShapes Go.ChangeAt Go.RowKit
open Go.Lib

/-- A line as jumpTo sees it: the instruction's numbers and the name, where it is one. -/
theorem ref_jump (x : List UInt8) (hx : x.length ≤ 1048576) : ∃ (U : ID) (q : List UInt8), ((jumpL x).isSome = true → ∀ J, jumpL x = some J → U.o = J.o ∧ U.a = J.a ∧ U.b = J.b ∧ q = J.lab) ∧
    ∀ (w : World) (m : Int), w.cell? ⟨0, 0, none⟩ = some (.int .i64 m) → 0 < w.heap.size →
      Calls Tryz.prog 12 #[.string (bL x)] w fun e w' => e = .returned (.tuple #[.agg #[.int .i64 U.o, .int .i64 U.a, .int .i64 U.b, .int .i64 U.c], .string (bL q), .bool (jumpL x).isSome]) ∧ Below w.heap.size w w' := by
  rcases last_cases 32 x with ⟨hli, hno, hs⟩ | ⟨p, q, e, hq, hli, hs⟩
  · refine ⟨parseD [48], x, fun h => ?_, fun w m hM zM => ?_⟩
    · rw [jumpL_none hli] at h; cases h
    · rw [jumpL_none hli]
      have h := ref_jumpto x x [48] [x] 0 w m hM zM hs rfl rfl rfl hx (by decide) _ rfl
      have e : holeB 0 x (parseD [48]) = false := by unfold holeB; rw [decide_eq_false (by omega)]; rfl
      rw [e] at h
      exact h
  · have hj : jn 32 ((sp 32 p ++ [q]).set (sp 32 p).length [48]) = p ++ [32, 48] := by
      rw [List.set_append_right _ _ (Nat.le_refl _), Nat.sub_self]
      show jn 32 (sp 32 p ++ [[48]]) = _
      rw [jn_snoc 32 [48] (sp_ne 32 p), jn_sp]
    have hp : p.length ≤ 1048576 := by rw [e] at hx; simp at hx; omega
    have hpos : 0 < (sp 32 p).length := List.length_pos_iff.2 (sp_ne 32 p)
    have hJ := jumpL_at e hli
    refine ⟨parseD (p ++ [32, 48]), q, fun _ J h => ?_, fun w m hM zM => ?_⟩
    · rw [hJ] at h
      split at h
      · cases h
      · split at h
        · injection h with h
          subst h
          exact ⟨rfl, rfl, rfl, rfl⟩
        · cases h
    · have h := ref_jumpto x q (p ++ [32, 48]) (sp 32 p ++ [q]) (sp 32 p).length w m hM zM hs (by simp) (by rw [List.getElem?_append_right (Nat.le_refl _), Nat.sub_self]; rfl) hj hx (by simp; omega) _ rfl
      have e2 : holeB (sp 32 p).length q (parseD (p ++ [32, 48])) = (jumpL x).isSome := by
        rw [hJ]
        unfold holeB
        rw [decide_eq_true hpos, Bool.true_and]
        cases hn : nameL q
        · rw [if_pos rfl]; rfl
        · rw [if_neg (by simp), Bool.true_and]
          by_cases he : (parseD (p ++ [32, 48])).e = 0
          · by_cases ho : (parseD (p ++ [32, 48])).o = 8 ∨ (parseD (p ++ [32, 48])).o = 9
            · rw [if_pos ⟨he, ho⟩]
              rcases ho with ho | ho <;> simp [he, ho]
            · rw [if_neg (fun h => ho h.2)]
              have h8 : ¬ (parseD (p ++ [32, 48])).o = 8 := fun h => ho (.inl h)
              have h9 : ¬ (parseD (p ++ [32, 48])).o = 9 := fun h => ho (.inr h)
              simp [h8, h9]
          · rw [if_neg (fun h => he h.1)]
            simp [he]
      rw [e2] at h
      exact h
/-- No instruction's word is 'word'. -/
theorem parse_word {x : List UInt8} (h : wd.isPrefixOf x = true) : ¬ (parseD x).e = 0 := by
  intro he
  rcases parse_cases x with ⟨h1, _⟩ | ⟨_, h1, h2⟩
  · rw [h1] at he; cases he
  · have r := chkD_ok h1
    obtain ⟨n, hn⟩ := Int.eq_ofNat_of_zero_le r.1.1
    have hn23 : n < 23 := by omega
    have hc := text_cut n hn23 (parseD x).a (parseD x).b (parseD x).c
    rw [hn] at h2
    have h3 : textL n (parseD x).a (parseD x).b (parseD x).c = x := h2
    rw [h3] at hc
    obtain ⟨r, hr⟩ := List.isPrefixOf_iff_prefix.1 h
    have hw : shW n = [119, 111, 114, 100] := by rw [← hc, ← hr]; rfl
    have e1 := op_word n hn23
    rw [hw] at e1
    have e2 : ¬ ∃ k : Fin 23, opL [119, 111, 114, 100] = k.val := by decide +kernel
    exact e2 ⟨⟨n, hn23⟩, e1⟩
/-- A line that is a cell, in the document's way. -/
theorem cell_kinds (x : List UInt8) : (∃ v, wordV x = (v, true) ∧ cellL x = some v ∧ jumpL x = none) ∨
    ((wordV x).2 = false ∧ (parseD x).e = 0 ∧ cellL x = some (numD (parseD x).o (parseD x).a (parseD x).b (parseD x).c) ∧ jumpL x = none) ∨
    ((wordV x).2 = false ∧ ¬ (parseD x).e = 0 ∧ cellL x = none) := by
  have hj : ∀ {v}, cellL x = some v → jumpL x = none := fun {v} h => by
    cases hjm : jumpL x with
    | none => rfl
    | some J => rw [(jump_is hjm).1] at h; cases h
  by_cases hw : wd.isPrefixOf x = true
  · have e : cellL x = numR (x.drop 5) := by unfold cellL; rw [if_pos hw]
    cases hn : numR (x.drop 5) with
    | some v => exact .inl ⟨v, wordV_some hw hn, e.trans hn, hj (e.trans hn)⟩
    | none => exact .inr (.inr ⟨wordV_none (fun _ => hn), parse_word hw, e.trans hn⟩)
  · have hv : (wordV x).2 = false := wordV_none (fun h => absurd h hw)
    by_cases he : (parseD x).e = 0
    · have e : cellL x = some (numD (parseD x).o (parseD x).a (parseD x).b (parseD x).c) := by unfold cellL; rw [if_neg hw, if_pos he]
      exact .inr (.inl ⟨hv, he, e, hj e⟩)
    · exact .inr (.inr ⟨hv, he, by unfold cellL; rw [if_neg hw, if_neg he]⟩)
theorem go_ok : ∀ (ls : List (List UInt8)) (st : PS) (k : Nat), (goS st k ls).2.2 = 0 → ∀ x ∈ ls, isCl x = true → cellL x = none → ∃ J, jumpL x = some J
  | [], _, _, _ => fun x hx => by simp at hx
  | l :: ls, st, k, h => by
    rw [goS] at h
    by_cases h0 : (takeS st (k : Int) l).2 = 0
    · rw [if_pos h0] at h
      intro x hx hc hn
      rcases List.mem_cons.1 hx with rfl | hx
      · cases hj : jumpL x with
        | some J => exact ⟨J, rfl⟩
        | none =>
          exfalso
          unfold isCl at hc
          rw [Bool.and_eq_true] at hc
          have h1 : ¬ x = [] := fun e => by rw [e] at hc; exact absurd hc.1 (by decide)
          have h2 : ¬ ([58] : List UInt8).isSuffixOf x = true := fun e => by
            have : isLb x = true := e
            rw [this] at hc
            exact absurd hc.2 (by decide)
          unfold takeS at h0
          split at h0
          · cases h0
          · try rw [if_neg h1, if_neg h2] at h0
            unfold takeCl at h0
            rw [hn, hj] at h0
            cases h0
      · exact go_ok ls _ _ h x hx hc hn
    · rw [if_neg h0] at h
      exact absurd h h0
/-- What is read, by the second way. -/
theorem read_two_ways {l : List UInt8} (h150 : ¬ 150 ≤ l.count 10) {st : PS} (hg : goS ⟨[], [], []⟩ 1 (sp 10 l) = (st, 0, 0)) :
    ((go2 st.labels [] 1 (sp 10 l)).2.2 = 0 → readS l = ⟨(go2 st.labels [] 1 (sp 10 l)).1, st.labels, 0, 0⟩) ∧ (¬ (go2 st.labels [] 1 (sp 10 l)).2.2 = 0 → readS l = ⟨[], [], (go2 st.labels [] 1 (sp 10 l)).2.1, (go2 st.labels [] 1 (sp 10 l)).2.2⟩) := by
  have h := go_two st.labels (sp 10 l) ⟨[], [], []⟩ 1 [] (by rw [hg]) (fun d hd => by simp at hd) rfl
  rw [hg] at h
  dsimp only at h
  obtain ⟨cs, n, e, hj⟩ : ∃ cs n e, joinS st.labels st.cells st.leads = (cs, n, e) := ⟨_, _, _, rfl⟩
  rw [hj] at h
  obtain ⟨h1, h2⟩ := h
  have e1 : n = (go2 st.labels [] 1 (sp 10 l)).2.1 := congrArg Prod.fst h1
  have e2 : e = (go2 st.labels [] 1 (sp 10 l)).2.2 := congrArg Prod.snd h1
  constructor
  · intro h0
    rw [← e2] at h0
    subst h0
    rw [readS_ok h150 hg hj]
    have := h2 e2.symm
    dsimp only at this
    rw [this]
  · intro h0
    rw [← e2] at h0
    rw [readS_none h150 hg hj h0, e1, e2]
end Go.Proofs.YtfafkijcejbcpaaGreatDoor
