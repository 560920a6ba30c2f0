/- Chapter 7: a jump to a label leads to its place; without any program. -/
import Derived.Test.YtpggmmnjfofgcaaDoorRows
import Derived.Test.YtpggmmnjfofgcaaDoorInstShape
import Derived.Test.YtpggmmnjfofgcaaDoorInstDev
import Derived.Test.YtpggmmnjfofgcaaDoorTextPure
import Derived.Test.YtpggmmnjfofgcaaDoorParsePure
import Derived.Test.YtpggmmnjfofgcaaDoorInstParse2
import Derived.Test.YtpggmmnjfofgcaaDoorSplitPure
import Derived.Test.YtpggmmnjfofgcaaDoorNamePure
import Derived.Test.YtpggmmnjfofgcaaDoorProgPure
import Derived.Test.YtpggmmnjfofgcaaDoorProgFacts
import Derived.Test.YtpggmmnjfofgcaaDoorLinesPure
import Derived.Test.YtpggmmnjfofgcaaDoorLinesMore
namespace Go.Proofs.YtpggmmnjfofgcaaDoor
open Go.Lib

theorem read_num {o a b c : Int} (h : chkD o a b c = 0) : readD (numD o a b c) = ⟨o, a, b, c, 0⟩ := by
  have r := chkD_ok h
  have e1 : numD o a b c % 32 = o := by unfold numD; omega
  have e2 : numD o a b c / 32 % 8 = a := by unfold numD; omega
  have e3 : numD o a b c / 256 % 8 = b := by unfold numD; omega
  have e4 : numD o a b c / 2048 - 2048 = c := by unfold numD; omega
  unfold readD
  rw [e1, e2, e3, e4, if_pos h]
theorem place_app (bs : List LB) (b : LB) (nm : List UInt8) : placeL (bs ++ [b]) nm = match placeL bs nm with
    | some p => some p
    | none => if b.nm = nm then some b.at_ else none := by
  induction bs with
  | nil => rfl
  | cons x bs ih =>
    rw [List.cons_append, placeL, placeL]
    split
    · rfl
    · exact ih
/-- Names that are names, each once. -/
def LbOk (bs : List LB) : Prop := ∀ b ∈ bs, nameL b.nm = true ∧ placeL bs b.nm = some b.at_
theorem LbOk.add {bs : List LB} (h : LbOk bs) {nm : List UInt8} {p : Int} (hn : nameL nm = true) (hp : placeL bs nm = none) : LbOk (bs ++ [⟨nm, p⟩]) := by
  intro b hb
  rcases List.mem_append.1 hb with hb | hb
  · refine ⟨(h b hb).1, ?_⟩
    rw [place_app, (h b hb).2]
  · simp only [List.mem_cons, List.not_mem_nil, or_false] at hb
    subst hb
    refine ⟨hn, ?_⟩
    rw [place_app]
    dsimp only
    rw [hp]
    exact if_pos rfl
/-- What the state knows of the lines that are cells. -/
structure CInv (st : PS) (cl : List (List UInt8)) : Prop where
  len : st.cells.length = cl.length
  row : ∀ (i : Nat) x, cl[i]? = some x → cellL x = none → ∃ J n, jumpL x = some J ∧ (⟨n, (i : Int), J⟩ : LD) ∈ st.leads
  ld : ∀ d ∈ st.leads, 0 ≤ d.at_ ∧ d.at_ < cl.length
  pw : st.leads.Pairwise (fun a b => a.at_ ≠ b.at_)
  lb : LbOk st.labels
def isCl (l : List UInt8) : Bool := !l.isEmpty && !isLb l
theorem take_inv {st : PS} {cl : List (List UInt8)} (h : CInv st cl) (n : Int) (l : List UInt8) (he : (takeS st n l).2 = 0) : CInv (takeS st n l).1 (cl ++ if isCl l = true then [l] else []) := by
  unfold takeS at he ⊢
  split at he
  · cases he
  · split at he
    · rename_i h1 h2
      rw [if_neg h1, if_pos h2]
      subst h2
      rw [if_neg (by decide), List.append_nil]
      exact h
    · rename_i h1 h2
      rw [if_neg h1, if_neg h2]
      split at he
      · rename_i h3
        rw [if_pos h3]
        have hc : isCl l = false := by unfold isCl isLb; rw [h3]; simp
        rw [hc, if_neg (by simp), List.append_nil]
        unfold takeLb at he ⊢
        split at he
        · cases he
        · split at he
          · cases he
          · split at he
            · cases he
            · rename_i g1 g2 g3
              rw [if_neg g1, if_neg g2, if_neg g3]
              refine ⟨h.len, h.row, h.ld, h.pw, h.lb.add (by simpa using g1) ?_⟩
              cases hp : placeL st.labels (l.take (l.length - 1)) with
              | none => rfl
              | some p => rw [hp] at g2; simp at g2
      · rename_i h3
        rw [if_neg h3]
        have hc : isCl l = true := by
          unfold isCl isLb
          cases hl : ([58] : List UInt8).isSuffixOf l
          · cases l with
            | nil => exact absurd rfl h2
            | cons a r => rfl
          · exact absurd hl h3
        rw [hc, if_pos rfl]
        unfold takeCl at he ⊢
        split at he
        · rename_i v hv
          try rw [hv]
          refine ⟨by simp [h.len], fun i x hx hn => ?_, fun d hd => by have := h.ld d hd; simp; omega, h.pw, h.lb⟩
          rcases Nat.lt_or_ge i cl.length with hi | hi
          · rw [List.getElem?_append_left hi] at hx
            exact h.row i x hx hn
          · rw [List.getElem?_append_right hi] at hx
            rcases Nat.eq_or_lt_of_le hi with e | e
            · rw [e, Nat.sub_self] at hx
              injection hx with hx
              subst hx
              rw [hv] at hn
              cases hn
            · rw [List.getElem?_eq_none (by simp; omega)] at hx
              cases hx
        · rename_i hv
          try rw [hv]
          split at he
          · rename_i J hJ
            try rw [hJ]
            refine ⟨by simp [h.len], fun i x hx hn => ?_, fun d hd => ?_, ?_, h.lb⟩
            · rcases Nat.lt_or_ge i cl.length with hi | hi
              · rw [List.getElem?_append_left hi] at hx
                obtain ⟨J', n', h1, h2⟩ := h.row i x hx hn
                exact ⟨J', n', h1, List.mem_append_left _ h2⟩
              · rw [List.getElem?_append_right hi] at hx
                rcases Nat.eq_or_lt_of_le hi with e | e
                · rw [e, Nat.sub_self] at hx
                  injection hx with hx
                  subst hx
                  refine ⟨J, n, hJ, List.mem_append_right _ ?_⟩
                  rw [h.len, e]
                  exact List.mem_singleton.2 rfl
                · rw [List.getElem?_eq_none (by simp; omega)] at hx
                  cases hx
            · rcases List.mem_append.1 hd with hd | hd
              · have := h.ld d hd
                simp; omega
              · rw [List.mem_singleton] at hd
                subst hd
                have := h.len
                simp; omega
            · rw [List.pairwise_append]
              refine ⟨h.pw, List.pairwise_singleton _ _, fun a ha b hb => ?_⟩
              rw [List.mem_singleton] at hb
              subst hb
              have h1 := (h.ld a ha).2
              have h2 := h.len
              dsimp only
              omega
          · cases he
theorem go_inv : ∀ (ls : List (List UInt8)) (st : PS) (k : Nat) (cl : List (List UInt8)), CInv st cl → (goS st k ls).2.2 = 0 → CInv (goS st k ls).1 (cl ++ ls.filter isCl)
  | [], st, k, cl, h, _ => by rw [List.filter_nil, List.append_nil]; exact h
  | l :: ls, st, k, cl, h, he => by
    rw [goS] at he ⊢
    by_cases h0 : (takeS st (k : Int) l).2 = 0
    · rw [if_pos h0] at he ⊢
      have ih := go_inv ls _ (k + 1) _ (take_inv h (k : Int) l h0) he
      rw [List.append_assoc] at ih
      have e : ((if isCl l = true then [l] else []) ++ ls.filter isCl) = (l :: ls).filter isCl := by
        cases hc : isCl l
        · rw [List.filter_cons_of_neg (by simp [hc]), if_neg (by simp)]; rfl
        · rw [List.filter_cons_of_pos hc, if_pos rfl]; rfl
      rw [e] at ih
      exact ih
    · rw [if_neg h0] at he
      exact absurd he h0
theorem join_keep (bs : List LB) : ∀ (ds : List LD) (cs : List Int) (i : Nat), (∀ d ∈ ds, 0 ≤ d.at_ ∧ d.at_ ≠ (i : Int)) → (joinS bs cs ds).1[i]? = cs[i]?
  | [], _, _, _ => rfl
  | d :: ds, cs, i, h => by
    rw [joinS]
    split
    · rfl
    · split
      · rw [join_keep bs ds _ i (fun x hx => h x (List.mem_cons_of_mem _ hx))]
        have := h d List.mem_cons_self
        rw [List.getElem?_set_ne (by omega)]
      · rfl
theorem join_fill (bs : List LB) : ∀ (ds : List LD) (cs : List Int), (joinS bs cs ds).2.2 = 0 → ds.Pairwise (fun a b => a.at_ ≠ b.at_) → (∀ d ∈ ds, 0 ≤ d.at_ ∧ d.at_ < cs.length) →
    ∀ d ∈ ds, ∃ p, placeL bs d.j.lab = some p ∧ chkD d.j.o d.j.a d.j.b (p - d.at_) = 0 ∧ (joinS bs cs ds).1[d.at_.toNat]? = some (numD d.j.o d.j.a d.j.b (p - d.at_))
  | [], _, _, _, _ => fun d hd => by simp at hd
  | x :: ds, cs, he, hp, hb => by
    rw [List.pairwise_cons] at hp
    rw [joinS] at he ⊢
    split at he
    · cases he
    · rename_i p hpl
      split at he
      · rename_i hc
        intro d hd
        rw [if_pos hc]
        rcases List.mem_cons.1 hd with rfl | hd
        · refine ⟨p, hpl, hc, ?_⟩
          have hx := hb d List.mem_cons_self
          rw [join_keep bs ds _ d.at_.toNat (fun y hy => ⟨(hb y (List.mem_cons_of_mem _ hy)).1, fun e => hp.1 y hy (by omega)⟩), List.getElem?_set_self (by omega)]
        · exact join_fill bs ds _ he hp.2 (fun y hy => by rw [List.length_set]; exact hb y (List.mem_cons_of_mem _ hy)) d hd
      · cases he
/-- A line that is no cell by itself is filled in. -/
theorem read_fills (l : List UInt8) (he : (readS l).e = 0) : LbOk (readS l).labels ∧ (readS l).cells.length = ((sp 10 l).filter isCl).length ∧
    ∀ (i : Nat) x, ((sp 10 l).filter isCl)[i]? = some x → cellL x = none → ∃ J p, jumpL x = some J ∧ placeL (readS l).labels J.lab = some p ∧ chkD J.o J.a J.b (p - i) = 0 ∧ (readS l).cells[i]? = some (numD J.o J.a J.b (p - i)) := by
  by_cases h150 : 150 ≤ l.count 10
  · rw [readS_large h150] at he; cases he
  have hg0 : (goS ⟨[], [], []⟩ 1 (sp 10 l)).2.2 = 0 := by
    by_cases h : (goS ⟨[], [], []⟩ 1 (sp 10 l)).2.2 = 0
    · exact h
    · rw [readS_bad h150 (st := (goS ⟨[], [], []⟩ 1 (sp 10 l)).1) (n := (goS ⟨[], [], []⟩ 1 (sp 10 l)).2.1) (e := (goS ⟨[], [], []⟩ 1 (sp 10 l)).2.2) rfl h] at he
      exact absurd he h
  have inv := go_inv (sp 10 l) ⟨[], [], []⟩ 1 [] ⟨rfl, fun i x hx => by simp at hx, fun d hd => by simp at hd, List.Pairwise.nil, fun b hb => by simp at hb⟩ hg0
  rw [List.nil_append] at inv
  obtain ⟨st, n, e, hg⟩ : ∃ st n e, goS ⟨[], [], []⟩ 1 (sp 10 l) = (st, n, e) := ⟨_, _, _, rfl⟩
  rw [hg] at hg0 inv
  have hg0' : e = 0 := hg0
  subst hg0'
  have inv' : CInv st ((sp 10 l).filter isCl) := inv
  obtain ⟨cs, n2, e2, hj⟩ : ∃ cs n e, joinS st.labels st.cells st.leads = (cs, n, e) := ⟨_, _, _, rfl⟩
  have he2 : e2 = 0 := by
    by_cases h : e2 = 0
    · exact h
    · rw [readS_none h150 hg hj h] at he
      exact absurd he h
  subst he2
  rw [readS_ok h150 hg hj]
  have hcl : cs.length = st.cells.length := by
    have := join_len st.labels st.leads st.cells
    rw [hj] at this
    exact this
  refine ⟨inv'.lb, hcl.trans inv'.len, fun i x hx hn => ?_⟩
  obtain ⟨J, n', h1, h2⟩ := inv'.row i x hx hn
  obtain ⟨p, q1, q2, q3⟩ := join_fill st.labels st.leads st.cells (by rw [hj]) inv'.pw (fun d hd => by rw [inv'.len]; exact inv'.ld d hd) _ h2
  rw [hj] at q3
  exact ⟨J, p, h1, q1, q2, by simpa using q3⟩
/-- The first word. -/
theorem sp_first (c : UInt8) : ∀ l : List UInt8, ∃ ys, sp c l = l.takeWhile (· != c) :: ys
  | [] => ⟨[], rfl⟩
  | x :: xs => by
    obtain ⟨ys, e⟩ := sp_first c xs
    by_cases h : x = c
    · subst h
      rw [sp_sep, List.takeWhile_cons_of_neg (by simp)]
      exact ⟨_, rfl⟩
    · rw [sp_other h e, List.takeWhile_cons_of_pos (by simp [h])]
      exact ⟨_, rfl⟩
theorem name_itoa (c : Int) : nameL (itoa c) = false := by
  unfold nameL
  have h : isLet ((itoa c).headD 0) = false := by
    unfold itoa
    split
    · show isLet 45 = false
      decide
    · cases hd : decDigits c.toNat with
      | nil => decide
      | cons a r =>
        have := dec_dig c.toNat a (by rw [hd]; simp)
        show isLet a = false
        unfold isLet
        rw [decide_eq_false_iff_not]
        omega
  rw [h]
  simp
/-- A line whose first word is 'jump' or 'if', and whose last one, of several, is a name, is no cell by itself. -/
theorem cell_none {x p q : List UInt8} (e : x = p ++ 32 :: q) (hq : 32 ∉ q) (hn : nameL q = true) (hf : x.takeWhile (· != 32) = [106, 117, 109, 112] ∨ x.takeWhile (· != 32) = [105, 102]) : cellL x = none := by
  unfold cellL
  have hw : wd.isPrefixOf x = false := by
    cases h : wd.isPrefixOf x
    · rfl
    · obtain ⟨r, hr⟩ := List.isPrefixOf_iff_prefix.1 h
      have : x.takeWhile (· != 32) = [119, 111, 114, 100] := by rw [← hr]; rfl
      rw [this] at hf
      rcases hf with h | h <;> cases h
  rw [if_neg (by rw [hw]; simp)]
  rcases parse_cases x with ⟨h, _⟩ | ⟨_, h1, h2⟩
  · rw [h, if_neg (by decide)]
  · exfalso
    have r := chkD_ok h1
    generalize (parseD x).a = a at *
    generalize (parseD x).b = b at *
    generalize (parseD x).c = c at *
    obtain ⟨n, hnn⟩ := Int.eq_ofNat_of_zero_le r.1.1
    rw [hnn] at h1 h2 r
    have hn23 : n < 23 := by omega
    have h3 : textL n a b c = x := h2
    have hc := text_cut n hn23 a b c
    rw [h3] at hc
    have hsw : shW n = x.takeWhile (· != 32) := hc.symm
    have e1 := op_word n hn23
    have key : ∀ y : List UInt8, x = y ++ 32 :: itoa c → False := fun y hy => by
      have hno : 32 ∉ itoa c := by
        intro hm
        unfold itoa at hm
        split at hm
        · rcases List.mem_cons.1 hm with h | h
          · cases h
          · have := dec_dig _ _ h
            revert this
            decide
        · have := dec_dig _ _ hm
          revert this
          decide
      have s1 : sp 32 x = sp 32 p ++ [q] := by rw [e, sp_app, sp_none hq]
      have s2 : sp 32 x = sp 32 y ++ [itoa c] := by rw [hy, sp_app, sp_none hno]
      have s3 := congrArg (fun l => l.getLast?) (s1.symm.trans s2)
      simp only [List.getLast?_append, List.getLast?_singleton, Option.some_or] at s3
      injection s3 with s3
      rw [s3, name_itoa] at hn
      cases hn
    rcases hf with hf | hf
    · have h8 : n = 8 := by
        rw [hsw, hf] at e1
        have e2 : opL [106, 117, 109, 112] = 8 := by decide +kernel
        omega
      subst h8
      have h4 : shW 8 ++ tellL (shA 8) a ++ tellL (shB 8) b ++ tellL (shC 8) c = x := h3
      have hA : shA 8 = 0 := by decide
      have hB : shB 8 = 0 := by decide
      have hC : shC 8 = 2 := by decide
      rw [hA, hB, hC] at h4
      exact key (shW 8) (by rw [← h4]; unfold tellL; simp)
    · have h9 : n = 9 := by
        rw [hsw, hf] at e1
        have e2 : opL [105, 102] = 9 := by decide +kernel
        omega
      subst h9
      have h4 : shW 9 ++ tellL (shA 9) a ++ tellL (shB 9) b ++ tellL (shC 9) c = x := h3
      have hA : shA 9 = 1 := by decide
      have hB : shB 9 = 0 := by decide
      have hC : shC 9 = 2 := by decide
      rw [hA, hB, hC] at h4
      exact key (shW 9 ++ 32 :: 114 :: itoa a) (by rw [← h4]; unfold tellL; simp)
/-- A jump to a label leads to its place. -/
theorem read_leads {l : List UInt8} (he : (readS l).e = 0) {i : Nat} {x : List UInt8} (hx : ((sp 10 l).filter isCl)[i]? = some x) {ws : List (List UInt8)} {f q : List UInt8} (hs : sp 32 x = f :: ws) (hw : ws ≠ []) (hl : (f :: ws).getLast? = some q)
    {b : LB} (hb : b ∈ (readS l).labels) (hq : b.nm = q) (hf : f = [106, 117, 109, 112] ∨ f = [105, 102]) {c : Int} (hc : (readS l).cells[i]? = some c) : (readD c).e = 0 ∧ (i : Int) + (readD c).c = b.at_ := by
  obtain ⟨hlb, _, hall⟩ := read_fills l he
  obtain ⟨hn, hp⟩ := hlb b hb
  rw [hq] at hn hp
  obtain ⟨ys, e1⟩ := sp_first 32 x
  have hfx : x.takeWhile (· != 32) = f := by
    rw [e1] at hs
    injection hs with hs
  rcases last_cases 32 x with ⟨_, _, h⟩ | ⟨p, q', e, hq', hli, h⟩
  · rw [h] at hs
    injection hs with _ hs
    exact absurd hs.symm hw
  · have e2 : q' = q := by
      rw [hs] at h
      rw [h, List.getLast?_append] at hl
      simp at hl
      exact hl
    subst e2
    have hcn := cell_none e hq' hn (by rw [hfx]; exact hf)
    obtain ⟨J, pp, h1, h2, h3, h4⟩ := hall i x hx hcn
    rw [jumpL_at e hli] at h1
    rw [if_neg (by rw [hn]; simp)] at h1
    split at h1
    · injection h1 with h1
      have hlab : J.lab = q' := by rw [← h1]
      rw [hlab, hp] at h2
      injection h2 with h2
      rw [hc] at h4
      injection h4 with h4
      rw [h4, read_num h3]
      refine ⟨rfl, ?_⟩
      show (i : Int) + (pp - i) = b.at_
      omega
    · cases h1
end Go.Proofs.YtpggmmnjfofgcaaDoor
