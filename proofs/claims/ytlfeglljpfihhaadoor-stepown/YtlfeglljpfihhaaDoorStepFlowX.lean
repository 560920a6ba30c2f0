/- Plain: where keys come from by a step: what a machine can come to, and that nothing more is come to behind steps; what is not looked at is of no matter, what is not stored to stays. Plain: what chapter 12 says of a machine whose keys for some cells are taken away. Plain: how what is held grows while one looks for more: what is asked for is held, nothing else comes than what leads there, and what is new leads nowhere else. -/
import Derived.Test.YtlfeglljpfihhaaDoorRows
import Derived.Test.YtlfeglljpfihhaaDoorCardBaseX
import Derived.Test.YtlfeglljpfihhaaDoorKeyCovX
import Derived.Test.YtlfeglljpfihhaaDoorValArgX
import Derived.Test.YtlfeglljpfihhaaDoorMemPureX
import Derived.Test.YtlfeglljpfihhaaDoorMemChkX
import Derived.Test.YtlfeglljpfihhaaDoorStepRowX
import Derived.Test.YtlfeglljpfihhaaDoorStepChkX
import Derived.Test.YtlfeglljpfihhaaDoorStepOwnedX
import Derived.Test.YtlfeglljpfihhaaDoorStepMidX
import Derived.Test.YtlfeglljpfihhaaDoorStepMid2X
import Derived.Test.YtlfeglljpfihhaaDoorStepBackX
import Derived.Test.YtlfeglljpfihhaaDoorStepCallX
import Derived.Test.YtlfeglljpfihhaaDoorStepFetchX
import Derived.Test.YtlfeglljpfihhaaDoorStepActX
import Derived.Test.YtlfeglljpfihhaaDoorStepActsX
import Derived.Test.YtlfeglljpfihhaaDoorStepStepX
import Derived.Test.YtlfeglljpfihhaaDoorRangeWX
import Derived.WalkKit
namespace Go.Proofs.YtlfeglljpfihhaaDoor
section
open Go.RowKit
set_option linter.unusedVariables false

/-- Where a value that is put into a register comes from. -/
inductive Src (x : MC) (i : ID) (v : MV) : Prop
  | num (h : v.i = false)
  | copy (h : v ∈ x.r)
  | less (u : MV) (h : u ∈ x.r) (hi : u.i = true) (hl : Les (vK v) (vK u)) (hs : u.s = 0 ∨ i.o = 16)
  | load (u : MV) (h : u ∈ x.r) (hi : u.i = true) (hs : u.s = 0) (hp : inB 9 u.p = true) (j : Nat) (hc : cov5 (vK u) j = true) (hm : x.m[j]? = some v)
  | here (h : vK v = x.k)
theorem reg_mem {x : MC} (h8 : x.r.length = 8) {k : Int} (hk : 0 ≤ k ∧ k ≤ 7) : reg x k ∈ x.r := by
  unfold reg
  rw [List.getD_eq_getElem?_getD, List.getElem?_eq_getElem (by omega)]
  exact List.getElem_mem _
theorem keyR_put {x x' : MC} {a : Int} {K : KK} {n n' : K5} (h : keyR x a K n = .ok x' n') : K.e = 0 ∧ x' = putR x a.toNat (kV ⟨K.p, K.b, K.l, K.a, K.s⟩) ∧ n' = n := by
  unfold keyR at h
  split at h
  · rename_i he
    cases h
    exact ⟨he, rfl, rfl⟩
  · cases h
theorem calcR_put {x x' : MC} {i : ID} {n n' : K5} {b c : MV} (h : calcR x i n b c = .ok x' n') : ∃ v, v.i = false ∧ x' = putR x i.a.toNat v ∧ n' = n := by
  unfold calcR at h
  split at h
  · cases h
  · split at h
    · cases h
    · split at h
      · cases h
      · cases h
        exact ⟨_, rfl, rfl, rfl⟩
theorem les_shift {o : Int} {k : K5} {m : Int} (h : (shiftK o k m).e = 0) : Les ⟨(shiftK o k m).p, (shiftK o k m).b, (shiftK o k m).l, (shiftK o k m).a, (shiftK o k m).s⟩ k ∧ k.s = 0 := by
  unfold shiftK at h ⊢
  split at h
  · rename_i ho
    rw [if_pos ho]
    unfold moveK at h ⊢
    by_cases hu : unsE k.p k.b k.l k.a k.s = 0
    · rw [if_pos hu] at h ⊢
      by_cases hb : 0 ≤ k.a + m ∧ k.a + m ≤ 400
      · rw [if_pos hb]
        exact ⟨⟨.inr ⟨Int.le_refl _, Int.le_refl _⟩, in_refl _⟩, (ok_of_uns hu).2⟩
      · rw [if_neg hb] at h; cases h
    · rw [if_neg hu] at h; exact absurd h hu
  · rename_i ho
    rw [if_neg ho]
    unfold narrowK at h ⊢
    by_cases hu : unsE k.p k.b k.l k.a k.s = 0
    · rw [if_pos hu] at h ⊢
      by_cases hb : k.b ≤ k.a ∧ 0 ≤ m ∧ k.a + m ≤ k.b + k.l
      · rw [if_pos hb]
        exact ⟨⟨.inr ⟨hb.1, hb.2.2⟩, in_refl _⟩, (ok_of_uns hu).2⟩
      · rw [if_neg hb] at h; cases h
    · rw [if_neg hu] at h; exact absurd h hu
theorem les_drop {k : K5} {m : Int} (h : (dropK k.p k.b k.l k.a k.s m).e = 0) : Les ⟨(dropK k.p k.b k.l k.a k.s m).p, (dropK k.p k.b k.l k.a k.s m).b, (dropK k.p k.b k.l k.a k.s m).l, (dropK k.p k.b k.l k.a k.s m).a, (dropK k.p k.b k.l k.a k.s m).s⟩ k ∧ k.s = 0 := by
  unfold dropK at h ⊢
  by_cases hu : unsE k.p k.b k.l k.a k.s = 0
  · rw [if_pos hu]
    exact ⟨⟨.inr ⟨Int.le_refl _, Int.le_refl _⟩, in_and_l _ _⟩, (ok_of_uns hu).2⟩
  · rw [if_neg hu] at h
    exact absurd h hu
theorem pl_plc {x : MC} {k : K5} {off q : Int} (h : plE x.m.length k off q = 0) : k.s = 0 ∧ inB q k.p = true ∧ cov5 k (pl k off : Nat) = true ∧ pl k off < x.m.length := by
  obtain ⟨h1, h2, h3, h4, h5, h6, h7, h8⟩ := plE_yes h
  exact ⟨h2, h3, by rw [h7]; exact h4, h8⟩
/-- What is put into a register. -/
theorem act_src {x x' : MC} {i : ID} {n n' : K5} (hG : Good x) (hi : okI i) (h : actR x i n = .ok x' n') (ho : i.o ≠ 8 ∧ i.o ≠ 9 ∧ i.o ≠ 11 ∧ i.o ≠ 18 ∧ i.o ≠ 19 ∧ i.o ≠ 21 ∧ i.o ≠ 22) :
    ∃ v, x' = putR x i.a.toNat v ∧ n' = n ∧ Src x i v := by
  obtain ⟨⟨o1, o2⟩, a1, a2, b1, b2, c1, c2⟩ := chkD_ok hi
  obtain ⟨c3, c4, c5⟩ := okI_c hi
  obtain ⟨O, hO⟩ := Int.eq_ofNat_of_zero_le o1
  have ra := reg_mem hG.r8 ⟨a1, a2⟩
  have rb := reg_mem hG.r8 ⟨b1, b2⟩
  have hO23 : O = 0 ∨ O = 1 ∨ O = 2 ∨ O = 3 ∨ O = 4 ∨ O = 5 ∨ O = 6 ∨ O = 7 ∨ O = 10 ∨ O = 12 ∨ O = 13 ∨ O = 14 ∨ O = 15 ∨ O = 16 ∨ O = 17 ∨ O = 20 := by omega
  unfold actR at h
  rw [hO, Int.toNat_natCast] at h
  rcases hO23 with rfl | rfl | rfl | rfl | rfl | rfl | rfl | rfl | rfl | rfl | rfl | rfl | rfl | rfl | rfl | rfl
  all_goals simp only at h
  · cases h
  · cases h
    exact ⟨_, rfl, rfl, .num rfl⟩
  · cases h
    exact ⟨_, rfl, rfl, .copy rb⟩
  · obtain ⟨v, hv, h1, h2⟩ := calcR_put h; exact ⟨v, h1, h2, .num hv⟩
  · obtain ⟨v, hv, h1, h2⟩ := calcR_put h; exact ⟨v, h1, h2, .num hv⟩
  · obtain ⟨v, hv, h1, h2⟩ := calcR_put h; exact ⟨v, h1, h2, .num hv⟩
  · obtain ⟨v, hv, h1, h2⟩ := calcR_put h; exact ⟨v, h1, h2, .num hv⟩
  · obtain ⟨v, hv, h1, h2⟩ := calcR_put h; exact ⟨v, h1, h2, .num hv⟩
  · split at h
    · rename_i hbi
      split at h
      · rename_i he
        cases h
        refine ⟨_, rfl, rfl, ?_⟩
        obtain ⟨hm, hpl⟩ := load_yes he
        unfold loadV
        rw [if_pos he]
        split
        · exact .num rfl
        · rename_i hn
          have e1 : x.m[pl (kOf (reg x i.b)) i.c]? = some (x.m.getD (pl (kOf (reg x i.b)) i.c) nil0) := by
            rw [List.getD_eq_getElem?_getD, List.getElem?_eq_getElem hpl.lt]; rfl
          cases hvi : (x.m.getD (pl (kOf (reg x i.b)) i.c) nil0).i
          · exact .num hvi
          · have h8' : inB 8 (kOf (reg x i.b)).p = true := by
              cases h8' : inB 8 (kOf (reg x i.b)).p
              · exact absurd ⟨hvi, h8'⟩ hn
              · rfl
            refine .load (reg x i.b) rb hbi hpl.s ?_ (pl (kOf (reg x i.b)) i.c) (by rw [hpl.at_]; exact hpl.cov) e1
            exact in_nine hpl.p h8'
      · cases h
    · cases h
  · split at h
    · rename_i hbi
      split at h
      · cases h
      · obtain ⟨he, h1, h2⟩ := keyR_put h
        have hl := les_shift he
        exact ⟨_, h1, h2, .less _ rb hbi hl.1 (.inl hl.2)⟩
    · cases h
  · split at h
    · rename_i hbi
      split at h
      · cases h
      · obtain ⟨he, h1, h2⟩ := keyR_put h
        have hl := les_shift he
        exact ⟨_, h1, h2, .less _ rb hbi hl.1 (.inl hl.2)⟩
    · cases h
  · split at h
    · rename_i hbi
      obtain ⟨he, h1, h2⟩ := keyR_put h
      have hl := les_drop (k := vK (reg x i.b)) he
      exact ⟨_, h1, h2, .less _ rb hbi hl.1 (.inl hl.2)⟩
    · cases h
  · split at h
    · rename_i hbi
      split at h
      · obtain ⟨he, h1, h2⟩ := keyR_put h
        obtain ⟨_, _, hs, _, _, e⟩ := seal_cases he
        rw [e] at h1
        exact ⟨_, h1, h2, .less _ rb hbi ⟨.inr ⟨Int.le_refl _, Int.le_refl _⟩, in_refl _⟩ (.inl hs)⟩
      · cases h
    · cases h
  · split at h
    · rename_i hbi
      split at h
      · obtain ⟨he, h1, h2⟩ := keyR_put h
        have e := (open_cases he).2.2.2.2.2
        rw [e] at h1
        exact ⟨_, h1, h2, .less _ rb hbi ⟨.inr ⟨Int.le_refl _, Int.le_refl _⟩, in_refl _⟩ (.inr (by omega))⟩
      · cases h
    · cases h
  · split at h
    · cases h
      exact ⟨_, rfl, rfl, .num rfl⟩
    · split at h
      · cases h
        exact ⟨_, rfl, rfl, .num rfl⟩
      · cases h
  · cases h
    exact ⟨_, rfl, rfl, .here rfl⟩
/-- What is set in the memory. -/
def MemTo (x y : MC) : Prop :=
  y.m = x.m ∨ ∃ u v, u ∈ x.r ∧ u.i = true ∧ u.s = 0 ∧ v ∈ x.r ∧ ∃ j : Nat, inB 2 u.p = true ∧ (v.i = true → inB 16 u.p = true) ∧ cov5 (vK u) j = true ∧ j < x.m.length ∧ y.m = x.m.set j v
/-- What comes to be held by a step. -/
structure Flow (x : MC) (i : ID) (y : MC) : Prop where
  reg : ∀ v ∈ y.r, v ∈ x.r ∨ Src x i v ∨ (i.o = 18 ∨ i.o = 19) ∧ (∃ k, Rt x true k ∧ Les (vK v) k)
  code : Les y.k x.k ∧ x.k.s = y.k.s ∨ (i.o = 18 ∨ i.o = 19) ∧ (∃ k, Rt x true k ∧ Les y.k k)
  frs : ∀ f ∈ y.s, f ∈ x.s ∨ (Les f.c x.k ∧ f.d ∈ x.r)
  mem : MemTo x y
theorem clr_mem {c : Int} : ∀ (k : Nat) {r : List MV} {v : MV}, v ∈ clrN c r k → v ∈ r ∨ v.i = false := by
  intro k
  induction k with
  | zero => intro r v h; exact .inl h
  | succ k ih =>
    intro r v h
    unfold clrN at h
    split at h
    · rcases List.mem_or_eq_of_mem_set h with h | rfl
      · exact ih h
      · exact .inr rfl
    · exact ih h
theorem step_flow {x : MC} (h8 : x.r.length = 8) (h : stpE x = 0) : Flow x (insAt x) (stpM x) := by
  obtain ⟨hG, hf, hi, x', n', hE, e, hA⟩ := step_eff h8 h
  have hcode := fet_at hG.m hf
  have hA' : actR x (insAt x) (nextK x) = .ok x' n' := by unfold stepA at hA; rwa [if_pos hf] at hA
  have hr7 := reg_mem hG.r8 (k := 7) (by omega)
  obtain ⟨⟨o1, o2⟩, a1, a2, b1, b2, c1, c2⟩ := chkD_ok hi
  have ra := reg_mem hG.r8 ⟨a1, a2⟩
  have rb := reg_mem hG.r8 ⟨b1, b2⟩
  have hn : Les (nextK x) x.k ∧ x.k.s = (nextK x).s := ⟨⟨.inr ⟨Int.le_refl _, Int.le_refl _⟩, in_refl _⟩, rfl⟩
  rw [e]
  cases hE with
  | put v hv ho =>
    obtain ⟨u, hu, _, hs⟩ := act_src hG hi hA' ho
    rw [hu]
    refine ⟨fun w hw => ?_, .inl hn, fun f hf => .inl hf, .inl rfl⟩
    rcases List.mem_or_eq_of_mem_set hw with hw | rfl
    · exact .inl hw
    · exact .inr (.inl hs)
  | jump ho hb => exact ⟨fun w hw => .inl hw, .inl ⟨⟨.inr ⟨Int.le_refl _, Int.le_refl _⟩, in_refl _⟩, rfl⟩, fun f hf => .inl hf, .inl rfl⟩
  | pass ho => exact ⟨fun w hw => .inl hw, .inl hn, fun f hf => .inl hf, .inl rfl⟩
  | store ho hbi he =>
    obtain ⟨_, _, hp, hx⟩ := store_yes he
    exact ⟨fun w hw => .inl hw, .inl hn, fun f hf => .inl hf, .inr ⟨_, _, rb, hbi, hp.s, ra, _, hp.p, hx, by rw [hp.at_]; exact hp.cov, hp.lt, rfl⟩⟩
  | call ho hai hbi he =>
    refine ⟨fun w hw => ?_, .inr ⟨.inl ho, _, .reg _ ra hai, ⟨.inr ⟨Int.le_refl _, Int.le_refl _⟩, in_refl _⟩⟩, fun f hf => ?_, .inl rfl⟩
    · rcases List.mem_or_eq_of_mem_set hw with hw | rfl
      · exact .inl hw
      · exact .inr (.inr ⟨.inl ho, _, .reg _ rb hbi, ⟨.inr ⟨Int.le_refl _, Int.le_refl _⟩, in_refl _⟩⟩)
    · rcases List.mem_append.1 hf with hf | hf
      · exact .inl hf
      · rw [List.mem_singleton] at hf
        subst hf
        exact .inr ⟨hn.1, hr7⟩
  | back ho f fs hs =>
    have hfm : f ∈ x.s := by rw [hs]; simp
    refine ⟨fun w hw => ?_, .inr ⟨.inr ho, _, .fc rfl f hfm, les_refl _⟩, fun g hg => .inl (by rw [hs]; exact List.mem_append_left _ hg), .inl rfl⟩
    rcases List.mem_or_eq_of_mem_set hw with hw | rfl
    · exact .inl hw
    · cases hdi : f.d.i
      · exact .inr (.inl (.num hdi))
      · exact .inr (.inr ⟨.inr ho, _, .fd rfl f hfm hdi, les_refl _⟩)
  | clear ho =>
    refine ⟨fun w hw => ?_, .inl hn, fun f hf => .inl hf, .inl rfl⟩
    rcases clr_mem 8 hw with hw | hw
    · exact .inl hw
    · exact .inr (.inl (.num hw))
  | tell ho hai hl => exact ⟨fun w hw => .inl hw, .inl hn, fun f hf => .inl hf, .inl rfl⟩
/-- Nothing comes to be held that was not come to. -/
theorem flow_has {x : MC} {d : Bool} (h8 : x.r.length = 8) (h : stpE x = 0) (hd : d = true ∨ ((insAt x).o ≠ 16 ∧ (insAt x).o ≠ 18 ∧ (insAt x).o ≠ 19)) :
    ∀ k, Has (stpM x) d k → Cnt d k → ∃ k0, Has x d k0 ∧ Cnt d k0 ∧ Les k k0 := by
  have F := step_flow h8 h
  obtain ⟨hG, hf, _⟩ := step_eff h8 h
  have hcs : x.k.s = 0 := (fet_at hG.m hf).1
  have any : ∀ k, Rt x true k → d = true → ∃ k0, Has x d k0 ∧ Cnt d k0 ∧ Les k k0 := fun k hk hd => by subst hd; exact ⟨k, .rt hk, .inr rfl, les_refl _⟩
  have regs : ∀ v ∈ x.r, v.i = true → Cnt d (vK v) → ∃ k0, Has x d k0 ∧ Cnt d k0 ∧ Les (vK v) k0 := fun v hv hi hc => ⟨_, .rt (.reg v hv hi), hc, les_refl _⟩
  intro k hk
  induction hk with
  | rt hr =>
    intro hc
    cases hr with
    | reg v hv hi =>
      rcases F.reg v hv with h1 | h1 | ⟨ho, k0, hk0, hl⟩
      · exact regs v h1 hi hc
      · cases h1 with
        | num h2 => rw [h2] at hi; cases hi
        | copy h2 => exact regs v h2 hi hc
        | less u h2 h3 h4 h5 =>
          refine ⟨_, .rt (.reg u h2 h3), ?_, h4⟩
          rcases hd with rfl | hd
          · exact .inr rfl
          · rcases h5 with h5 | h5
            · exact .inl h5
            · exact absurd h5 hd.1
        | load u h2 h3 h4 h5 j h6 h7 => exact ⟨_, .cell _ j v (.rt (.reg u h2 h3)) (.inl h4) h5 h6 h7 hi, hc, les_refl _⟩
        | here h2 => rw [h2]; exact ⟨_, .rt .code, .inl hcs, les_refl _⟩
      · rcases hd with rfl | hd
        · exact ⟨k0, .rt hk0, .inr rfl, hl⟩
        · rcases ho with ho | ho
          · exact absurd ho hd.2.1
          · exact absurd ho hd.2.2
    | code =>
      rcases F.code with h1 | ⟨ho, k0, hk0, hl⟩
      · exact ⟨_, .rt .code, .inl hcs, h1.1⟩
      · rcases hd with rfl | hd
        · exact ⟨k0, .rt hk0, .inr rfl, hl⟩
        · rcases ho with ho | ho
          · exact absurd ho hd.2.1
          · exact absurd ho hd.2.2
    | fc hdt f hf =>
      rcases F.frs f hf with h1 | ⟨h1, h2⟩
      · exact any _ (.fc rfl f h1) hdt
      · exact ⟨_, .rt .code, .inl hcs, h1⟩
    | fd hdt f hf hi =>
      rcases F.frs f hf with h1 | ⟨h1, h2⟩
      · exact any _ (.fd rfl f h1 hi) hdt
      · exact regs _ h2 hi hc
  | cell r j v hr hcr hp hcv hm hi ih =>
    intro hc
    obtain ⟨r0, g1, g2, g3⟩ := ih hcr
    have old : x.m[j]? = some v → ∃ k0, Has x d k0 ∧ Cnt d k0 ∧ Les (vK v) k0 := fun hm' => ⟨_, .cell r0 j v g1 g2 (in_trans _ _ _ hp g3.2) (les_cov g3 hcv) hm' hi, hc, les_refl _⟩
    rcases F.mem with h1 | ⟨u, w, _, _, _, hw, j', _, _, _, hlt, h1⟩
    · rw [h1] at hm
      exact old hm
    · rw [h1] at hm
      by_cases hj : j' = j
      · subst hj
        rw [List.getElem?_set_self hlt] at hm
        injection hm with hm
        subst hm
        exact regs w hw hi hc
      · rw [List.getElem?_set_ne hj] at hm
        exact old hm
theorem run_has : ∀ (f : Nat) (x : MC), Good x → ∀ k, Has (runM f x) true k → ∃ k0, Has x true k0 ∧ Les k k0
  | 0, x, _, k, h => ⟨k, h, les_refl _⟩
  | f + 1, x, hG, k, h => by
    unfold runM at h
    split at h
    · rename_i hs
      obtain ⟨k1, h1, l1⟩ := run_has f _ (step_good hG.r8 hs) k h
      obtain ⟨k0, h0, _, l0⟩ := flow_has hG.r8 hs (.inl rfl) k1 h1 (.inr rfl)
      exact ⟨k0, h0, les_trans l1 l0⟩
    · exact ⟨k, h, les_refl _⟩
/-- A cell that no key that is come to allows to store is as it was. -/
theorem run_guard : ∀ (f : Nat) (x : MC), Good x → (runM f x).m.length = x.m.length ∧ ∀ j : Nat, (∀ k, Has x true k → inB 2 k.p = true → cov5 k j = false) → (runM f x).m[j]? = x.m[j]?
  | 0, x, _ => ⟨rfl, fun _ _ => rfl⟩
  | f + 1, x, hG => by
    unfold runM
    split
    · rename_i hs
      obtain ⟨e1, e2⟩ := run_guard f _ (step_good hG.r8 hs)
      have hm := (step_flow hG.r8 hs).mem
      refine ⟨?_, fun j hj => ?_⟩
      · rw [e1]
        rcases hm with h1 | ⟨_, _, _, _, _, _, _, _, _, _, _, h1⟩
        · rw [h1]
        · rw [h1, List.length_set]
      · rw [e2 j fun k hk hp => ?_]
        · rcases hm with h1 | ⟨u, w, hu, hui, hus, _, j', hp, _, hc, _, h1⟩
          · rw [h1]
          · rw [h1, List.getElem?_set_ne]
            intro e
            subst e
            rw [hj _ (.rt (.reg u hu hui)) hp] at hc
            cases hc
        · obtain ⟨k0, h0, _, l0⟩ := flow_has hG.r8 hs (.inl rfl) k hk (.inr rfl)
          have h3 := hj k0 h0 (in_trans _ _ _ hp l0.2)
          cases hc : cov5 k j
          · rfl
          · rw [les_cov l0 hc] at h3
            cases h3
    · exact ⟨rfl, fun _ _ => rfl⟩
/-- Both are the same, but for cells that are not seen. -/
structure Sim (S : Nat → Prop) (x y : MC) : Prop where
  r : y.r = x.r
  k : y.k = x.k
  s : y.s = x.s
  o : y.o = x.o
  l : y.m.length = x.m.length
  m : ∀ j, S j → y.m[j]? = x.m[j]?
def AR.withM (A : AR) (m : List MV) : AR := match A with
  | .no t => .no t
  | .ok x n => .ok { x with m := m } n
theorem keyR_withM {x : MC} {m : List MV} {a : Int} {K : KK} {n : K5} : keyR { x with m := m } a K n = (keyR x a K n).withM m := by
  unfold keyR
  split <;> rfl
theorem calcR_withM {x : MC} {m : List MV} {i : ID} {n : K5} {b c : MV} : calcR { x with m := m } i n b c = (calcR x i n b c).withM m := by
  unfold calcR
  split
  · rfl
  · split
    · rfl
    · split <;> rfl
theorem jumpR_withM {x : MC} {m : List MV} {i : ID} {n : K5} : jumpR { x with m := m } i n = (jumpR x i n).withM m := by
  unfold jumpR
  split <;> rfl
theorem act_withM {x : MC} {m : List MV} {i : ID} {n : K5} (h10 : i.o.toNat ≠ 10) (h11 : i.o.toNat ≠ 11) : actR { x with m := m } i n = (actR x i n).withM m := by
  have hr : ∀ k, reg { x with m := m } k = reg x k := fun _ => rfl
  unfold actR
  simp only [hr]
  split
  · rfl
  · rfl
  · rfl
  · exact calcR_withM
  · exact calcR_withM
  · exact calcR_withM
  · exact calcR_withM
  · exact calcR_withM
  · exact jumpR_withM
  · split
    · rfl
    · split
      · rfl
      · exact jumpR_withM
  · rename_i h; exact absurd h h10
  · rename_i h; exact absurd h h11
  · split
    · split
      · rfl
      · exact keyR_withM
    · rfl
  · split
    · split
      · rfl
      · exact keyR_withM
    · rfl
  · split
    · exact keyR_withM
    · rfl
  · split
    · split
      · exact keyR_withM
      · rfl
    · rfl
  · split
    · split
      · exact keyR_withM
      · rfl
    · rfl
  · split
    · rfl
    · split <;> rfl
  · split
    · split
      · split <;> rfl
      · rfl
    · rfl
  · split <;> rfl
  · rfl
  · rfl
  · split
    · rfl
    · split <;> rfl
  · rfl
theorem sim_step {S : Nat → Prop} {x y : MC} (hx : Good x) (hy : Good y) (hS : Sim S x y)
    (hI : ∀ k, Rt x true k → k.s = 0 → (inB 1 k.p = true ∨ inB 4 k.p = true) → ∀ j : Nat, cov5 k j = true → S j) :
    stpE y = stpE x ∧ (stpE x = 0 → Sim S (stpM x) (stpM y)) := by
  have ey : y = { x with m := y.m } := by
    obtain ⟨r, k, m, s, o⟩ := y
    obtain ⟨h1, h2, h3, h4, _, _⟩ := hS
    dsimp only at h1 h2 h3 h4
    subst h1 h2 h3 h4
    rfl
  have hl := hS.l
  have hm := hS.m
  generalize y.m = M at *
  subst ey
  have hko := ok5_lit hx.k
  have hcell : x.k.s = 0 → inB 4 x.k.p = true → cov5 x.k x.k.a = true → cellAt { x with m := M } = cellAt x := fun h1 h2 h3 => by
    have := hm x.k.a.toNat (hI _ .code h1 (.inr h2) _ (by rw [Int.toNat_of_nonneg (by omega)]; exact h3))
    unfold cellAt
    rw [List.getD_eq_getElem?_getD, List.getD_eq_getElem?_getD, this]
  have hfet : fetI { x with m := M } = fetI x := by
    unfold fetI
    dsimp only
    by_cases h1 : x.k.s = 0
    · rw [if_pos h1, if_pos h1]
      by_cases h2 : inB 4 x.k.p = true
      · rw [if_pos h2, if_pos h2]
        by_cases h3 : cov5 x.k x.k.a = true ∧ x.k.a < x.m.length
        · rw [if_pos h3, if_pos (by rw [hl]; exact h3)]
          unfold insAt
          rw [hcell h1 h2 h3.1]
        · rw [if_neg h3, if_neg (by rw [hl]; exact h3)]
      · rw [if_neg h2, if_neg h2]
    · rw [if_neg h1, if_neg h1]
  have ex := hx.e
  have ey := hy.e
  by_cases hf : fetI x = 0
  · obtain ⟨f1, f2, f3, f4, f5, f6, f7⟩ := fet_at hx.m hf
    have hins : insAt { x with m := M } = insAt x := by unfold insAt; rw [hcell f1 f2 f3]
    obtain ⟨⟨o1, o2⟩, a1, a2, b1, b2, c1, c2⟩ := chkD_ok f7
    have rb := reg_mem hx.r8 ⟨b1, b2⟩
    have sx : stepA x = actR x (insAt x) (nextK x) := by unfold stepA; exact if_pos hf
    have sy : stepA { x with m := M } = actR { x with m := M } (insAt x) (nextK x) := by unfold stepA; rw [if_pos (by rw [hfet]; exact hf), hins]; rfl
    have fin : ∀ A B : AR, stepA x = A → stepA { x with m := M } = B →
        ((∃ t, A = .no t ∧ B = .no t) ∨ (∃ x1 m1 n1, A = .ok x1 n1 ∧ B = .ok { x1 with m := m1 } n1 ∧ m1.length = x1.m.length ∧ ∀ j, S j → m1[j]? = x1.m[j]?)) →
        stpE { x with m := M } = stpE x ∧ (stpE x = 0 → Sim S (stpM x) (stpM { x with m := M })) := fun A B hA hB hh => by
      unfold stpE stpM
      rw [if_pos ex, if_pos ex, if_pos ey, if_pos ey, hA, hB]
      rcases hh with ⟨t, rfl, rfl⟩ | ⟨x1, m1, n1, rfl, rfl, h1, h2⟩
      · exact ⟨rfl, fun _ => ⟨rfl, rfl, rfl, rfl, rfl, fun _ _ => rfl⟩⟩
      · exact ⟨rfl, fun _ => ⟨rfl, rfl, rfl, rfl, h1, h2⟩⟩
    refine fin _ _ sx sy ?_
    by_cases h10 : (insAt x).o.toNat = 10
    · unfold actR
      rw [h10]
      dsimp only
      have hr : ∀ k, reg { x with m := M } k = reg x k := fun _ => rfl
      rw [hr]
      cases hbi : (reg x (insAt x).b).i
      · exact .inl ⟨_, rfl, rfl⟩
      · rw [if_pos rfl, if_pos rfl]
        have hE : loadE M (kOf (reg x (insAt x).b)) (insAt x).c = loadE x.m (kOf (reg x (insAt x).b)) (insAt x).c := by
          have hx1 := hx.m
          have hy1 : memE M = 0 := hy.m
          unfold loadE
          rw [if_pos hx1, if_pos hy1, hl]
        rw [hE]
        by_cases he : loadE x.m (kOf (reg x (insAt x).b)) (insAt x).c = 0
        · rw [if_pos he, if_pos he]
          have hp := (load_yes he).2
          have hc := hm (pl (kOf (reg x (insAt x).b)) (insAt x).c) (hI _ (.reg _ rb hbi) hp.s (.inl hp.p) _ (by rw [hp.at_]; exact hp.cov))
          have hV : loadV M (kOf (reg x (insAt x).b)) (insAt x).c = loadV x.m (kOf (reg x (insAt x).b)) (insAt x).c := by
            unfold loadV
            rw [hE, List.getD_eq_getElem?_getD, List.getD_eq_getElem?_getD, hc]
          rw [hV]
          exact .inr ⟨_, M, _, rfl, rfl, hl, hm⟩
        · rw [if_neg he, if_neg he]
          exact .inl ⟨_, rfl, rfl⟩
    · by_cases h11 : (insAt x).o.toNat = 11
      · unfold actR
        rw [h11]
        dsimp only
        have hr : ∀ k, reg { x with m := M } k = reg x k := fun _ => rfl
        simp only [hr]
        cases hbi : (reg x (insAt x).b).i
        · exact .inl ⟨_, rfl, rfl⟩
        · have hE : storeE M (kOf (reg x (insAt x).b)) (insAt x).c (reg x (insAt x).a) = storeE x.m (kOf (reg x (insAt x).b)) (insAt x).c (reg x (insAt x).a) := by
            have hx1 := hx.m
            have hy1 : memE M = 0 := hy.m
            unfold storeE
            rw [if_pos hx1, if_pos hy1, hl]
          simp only [hE, if_true]
          by_cases he : storeE x.m (kOf (reg x (insAt x).b)) (insAt x).c (reg x (insAt x).a) = 0
          · rw [if_pos he, if_pos he]
            refine .inr ⟨_, _, _, rfl, rfl, ?_, ?_⟩
            · dsimp only
              rw [store_set he, store_set (by rw [hE]; exact he), List.length_set, List.length_set, hl]
            · intro j hj
              dsimp only
              rw [store_set he, store_set (by rw [hE]; exact he), List.getElem?_set, List.getElem?_set, hl, hm j hj]
          · rw [if_neg he, if_neg he]
            exact .inl ⟨_, rfl, rfl⟩
      · rw [act_withM (x := x) (m := M) (i := insAt x) (n := nextK x) h10 h11]
        cases hA : actR x (insAt x) (nextK x) with
        | no t => exact .inl ⟨t, rfl, rfl⟩
        | ok x1 n1 =>
          refine .inr ⟨x1, M, n1, rfl, rfl, ?_, ?_⟩
          all_goals
            have hEf := act_eff hx f7 hA
            have hmm : x1.m = x.m := by cases hEf <;> first | rfl | (rename_i ho _ _; exfalso; rw [ho] at h11; exact h11 rfl)
            rw [hmm]
          · exact hl
          · exact hm
  · have sx : stepA x = .no (.e (fetI x)) := by unfold stepA; exact if_neg hf
    have sy : stepA { x with m := M } = .no (.e (fetI x)) := by unfold stepA; rw [if_neg (by rw [hfet]; exact hf), hfet]
    unfold stpE stpM
    rw [if_pos ex, if_pos ex, if_pos ey, if_pos ey, sx, sy]
    exact ⟨rfl, fun _ => ⟨rfl, rfl, rfl, rfl, rfl, fun _ _ => rfl⟩⟩
theorem sim_run {S : Nat → Prop} : ∀ (f : Nat) (x y : MC), Good x → Good y → Sim S x y →
    (∀ k, Has x true k → (inB 1 k.p = true ∨ inB 4 k.p = true) → ∀ j : Nat, cov5 k j = true → S j) →
    runN f y = runN f x ∧ runE f y = runE f x ∧ Sim S (runM f x) (runM f y)
  | 0, x, y, _, _, h, _ => ⟨rfl, rfl, h⟩
  | f + 1, x, y, hx, hy, h, hI => by
    obtain ⟨e1, e2⟩ := sim_step hx hy h (fun k hk _ => hI k (.rt hk))
    unfold runN runE runM
    rw [e1]
    by_cases hs : stpE x = 0
    · rw [if_pos hs, if_pos hs, if_pos hs, if_pos hs, if_pos hs, if_pos hs]
      obtain ⟨g1, g2, g3⟩ := sim_run f (stpM x) (stpM y) (step_good hx.r8 hs) (step_good hy.r8 (by rw [e1]; exact hs)) (e2 hs) (fun k hk hp j hc => by
        obtain ⟨k0, h0, _, l0⟩ := flow_has hx.r8 hs (.inl rfl) k hk (.inr rfl)
        exact hI k0 h0 (hp.imp (fun q => in_trans _ _ _ q l0.2) (fun q => in_trans _ _ _ q l0.2)) j (les_cov l0 hc))
      exact ⟨by rw [g1], g2, g3⟩
    · rw [if_neg hs, if_neg hs, if_neg hs, if_neg hs, if_neg hs, if_neg hs]
      exact ⟨rfl, rfl, h⟩
end
section
open Go.RowKit

/-- Is it for one of the n cells from b on? -/
def strk (b n : Int) (k : K5) : Bool := decide (max k.b b < min (k.b + k.l) (b + n))
def hitV (b n : Int) (v : MV) : Bool := v.i && strk b n (vK v)
def swV (b n : Int) (v : MV) : MV := if hitV b n v = true then nil0 else v
def swK (b n : Int) (k : K5) : K5 := if strk b n k = true then key0 else k
def swF (b n : Int) (f : FR) : FR := ⟨swK b n f.c, swV b n f.d⟩
def b1 (x : Bool) : Nat := if x = true then 1 else 0
def cV (b n : Int) (v : MV) : Nat := b1 (hitV b n v)
def cK (b n : Int) (k : K5) : Nat := b1 (strk b n k)
def cF (b n : Int) (f : FR) : Nat := cK b n f.c + cV b n f.d
def cVs (b n : Int) : List MV → Nat
  | [] => 0
  | v :: vs => cV b n v + cVs b n vs
def cFs (b n : Int) : List FR → Nat
  | [] => 0
  | f :: fs => cF b n f + cFs b n fs
def swM (b n : Int) (x : MC) : MC := ⟨x.r.map (swV b n), swK b n x.k, x.m.map (swV b n), x.s.map (swF b n), x.o⟩
def cM (b n : Int) (x : MC) : Nat := cVs b n x.r + cK b n x.k + cVs b n x.m + cFs b n x.s
def argE (b n : Int) : Int := if b < 0 then 1 else if n < 0 then 1 else if 400 - n < b then 1 else 0
/-- P25. -/
def swE (b n : Int) (x : MC) : Int := if mcE x = 0 then argE b n else mcE x
def swA (b n : Int) (x : MC) : MC := if swE b n x = 0 then swM b n x else zeroM
def swN (b n : Int) (x : MC) : Int := if swE b n x = 0 then (cM b n x : Int) else 0
theorem sw_cases (b n : Int) (x : MC) : (swE b n x = 0 ∧ swA b n x = swM b n x ∧ swN b n x = (cM b n x : Int)) ∨ (¬ swE b n x = 0 ∧ swA b n x = zeroM ∧ swN b n x = 0) := by
  unfold swA swN
  rcases Decidable.em (swE b n x = 0) with h | h
  · exact .inl ⟨h, if_pos h, if_pos h⟩
  · exact .inr ⟨h, if_neg h, if_neg h⟩
theorem arg_ok {b n : Int} (h : argE b n = 0) : 0 ≤ b ∧ 0 ≤ n ∧ b + n ≤ 400 := by
  unfold argE at h
  split at h
  · cases h
  · split at h
    · cases h
    · split at h
      · cases h
      · omega
theorem sw_ok {b n : Int} {x : MC} (h : swE b n x = 0) : mcE x = 0 ∧ argE b n = 0 := by
  unfold swE at h
  split at h
  · rename_i h1
    exact ⟨h1, h⟩
  · rename_i h1
    exact absurd h h1
theorem strk_key0 {b n : Int} : strk b n key0 = false := by
  unfold strk key0
  simp only [decide_eq_false_iff_not]
  omega
theorem hit_nil (b n : Int) : hitV b n nil0 = false := rfl
theorem swV_hit (a n b k : Int) (v : MV) : hitV a n (swV b k v) = (hitV a n v && !hitV b k v) := by
  unfold swV
  cases h : hitV b k v
  · simp
  · simp [hit_nil]
theorem swK_hit (a n b k : Int) (v : K5) : strk a n (swK b k v) = (strk a n v && !strk b k v) := by
  unfold swK
  cases h : strk b k v
  · simp
  · simp [strk_key0]
theorem swV_two (a n b k : Int) (v : MV) : swV a n (swV b k v) = if (hitV a n v || hitV b k v) = true then nil0 else v := by
  rw [show swV a n (swV b k v) = if hitV a n (swV b k v) = true then nil0 else swV b k v from rfl, swV_hit]
  unfold swV
  cases hitV a n v <;> cases hitV b k v <;> rfl
theorem swK_two (a n b k : Int) (v : K5) : swK a n (swK b k v) = if (strk a n v || strk b k v) = true then key0 else v := by
  rw [show swK a n (swK b k v) = if strk a n (swK b k v) = true then key0 else swK b k v from rfl, swK_hit]
  unfold swK
  cases strk a n v <;> cases strk b k v <;> rfl
theorem swV_comm (a n b k : Int) (v : MV) : swV a n (swV b k v) = swV b k (swV a n v) := by rw [swV_two, swV_two, Bool.or_comm]
theorem swK_comm (a n b k : Int) (v : K5) : swK a n (swK b k v) = swK b k (swK a n v) := by rw [swK_two, swK_two, Bool.or_comm]
theorem swF_comm (a n b k : Int) (v : FR) : swF a n (swF b k v) = swF b k (swF a n v) := by unfold swF; rw [swV_comm, swK_comm]
theorem swM_comm (a n b k : Int) (x : MC) : swM a n (swM b k x) = swM b k (swM a n x) := by
  unfold swM
  simp only [List.map_map, MC.mk.injEq, and_true]
  exact ⟨List.map_congr_left fun v _ => swV_comm a n b k v, swK_comm a n b k x.k, List.map_congr_left fun v _ => swV_comm a n b k v, List.map_congr_left fun v _ => swF_comm a n b k v⟩
theorem swM_again (b n : Int) (x : MC) : swM b n (swM b n x) = swM b n x := by
  have hv : ∀ v, swV b n (swV b n v) = swV b n v := fun v => by rw [swV_two, Bool.or_self]; rfl
  have hk : ∀ v, swK b n (swK b n v) = swK b n v := fun v => by rw [swK_two, Bool.or_self]; rfl
  unfold swM
  simp only [List.map_map, MC.mk.injEq, and_true]
  exact ⟨List.map_congr_left fun v _ => hv v, hk x.k, List.map_congr_left fun v _ => hv v, List.map_congr_left fun v _ => by show swF b n (swF b n v) = swF b n v; unfold swF; rw [hv, hk]⟩
theorem cV_two (a n b k : Int) (v : MV) : cV a n v + cV b k (swV a n v) = cV b k v + cV a n (swV b k v) := by
  unfold cV
  rw [swV_hit, swV_hit]
  cases hitV a n v <;> cases hitV b k v <;> rfl
theorem cK_two (a n b k : Int) (v : K5) : cK a n v + cK b k (swK a n v) = cK b k v + cK a n (swK b k v) := by
  unfold cK
  rw [swK_hit, swK_hit]
  cases strk a n v <;> cases strk b k v <;> rfl
theorem cVs_two (a n b k : Int) (vs : List MV) : cVs a n vs + cVs b k (vs.map (swV a n)) = cVs b k vs + cVs a n (vs.map (swV b k)) := by
  induction vs with
  | nil => rfl
  | cons v vs ih =>
    have := cV_two a n b k v
    simp only [List.map_cons, cVs]
    omega
theorem cFs_two (a n b k : Int) (fs : List FR) : cFs a n fs + cFs b k (fs.map (swF a n)) = cFs b k fs + cFs a n (fs.map (swF b k)) := by
  induction fs with
  | nil => rfl
  | cons f fs ih =>
    have h1 := cV_two a n b k f.d
    have h2 := cK_two a n b k f.c
    simp only [List.map_cons, cFs, cF, swF]
    omega
theorem cM_two (a n b k : Int) (x : MC) : cM a n x + cM b k (swM a n x) = cM b k x + cM a n (swM b k x) := by
  have h1 := cVs_two a n b k x.r
  have h2 := cK_two a n b k x.k
  have h3 := cVs_two a n b k x.m
  have h4 := cFs_two a n b k x.s
  unfold cM swM
  simp only
  omega
theorem cM_again (b n : Int) (x : MC) : cM b n (swM b n x) = 0 := by
  have hv : ∀ v, cV b n (swV b n v) = 0 := fun v => by unfold cV; rw [swV_hit]; cases hitV b n v <;> rfl
  have hk : ∀ v, cK b n (swK b n v) = 0 := fun v => by unfold cK; rw [swK_hit]; cases strk b n v <;> rfl
  have hvs : ∀ vs : List MV, cVs b n (vs.map (swV b n)) = 0 := fun vs => by
    induction vs with
    | nil => rfl
    | cons v vs ih => simp only [List.map_cons, cVs]; rw [hv, ih]
  have hfs : ∀ vs : List FR, cFs b n (vs.map (swF b n)) = 0 := fun vs => by
    induction vs with
    | nil => rfl
    | cons v vs ih => simp only [List.map_cons, cFs, cF, swF]; rw [hv, hk, ih]
  unfold cM swM
  simp only
  rw [hvs, hk, hvs, hfs]
theorem cVs_le (b n : Int) (vs : List MV) : cVs b n vs ≤ vs.length := by
  induction vs with
  | nil => exact Nat.le_refl _
  | cons v vs ih =>
    have : cV b n v ≤ 1 := by unfold cV b1; split <;> omega
    simp only [cVs, List.length_cons]
    omega
theorem cFs_le (b n : Int) (vs : List FR) : cFs b n vs ≤ 2 * vs.length := by
  induction vs with
  | nil => exact Nat.le_refl _
  | cons v vs ih =>
    have h1 : cV b n v.d ≤ 1 := by unfold cV b1; split <;> omega
    have h2 : cK b n v.c ≤ 1 := by unfold cK b1; split <;> omega
    simp only [cFs, cF, List.length_cons]
    omega
/-- What is in order stays so. -/
theorem chk_swV {b n : Int} {v : MV} (h : chk1 v = 0) : chk1 (swV b n v) = 0 := by
  unfold swV
  split
  · decide
  · exact h
theorem chk_swK {b n : Int} {k : K5} (h : chk5 k = 0) : chk5 (swK b n k) = 0 := by
  unfold swK
  split
  · exact (by decide +kernel : chk5 key0 = 0)
  · exact h
theorem chk_swVs {b n : Int} {vs : List MV} (h : chkL vs = 0) : chkL (vs.map (swV b n)) = 0 := by
  rw [chkL_all] at h ⊢
  intro v hv
  obtain ⟨u, hu, rfl⟩ := List.mem_map.1 hv
  exact chk_swV (h u hu)
theorem fr_zero {f : FR} : frE f = 0 ↔ chk5 f.c = 0 ∧ chk1 f.d = 0 := by
  unfold frE
  split
  · rename_i h; exact ⟨fun h2 => ⟨h, h2⟩, fun h2 => h2.2⟩
  · rename_i h; exact ⟨fun h2 => absurd h2 h, fun h2 => absurd h2.1 h⟩
theorem frs_all {fs : List FR} : frsE fs = 0 ↔ ∀ f ∈ fs, frE f = 0 := by
  induction fs with
  | nil => exact ⟨fun _ v h => by simp at h, fun _ => rfl⟩
  | cons v vs ih =>
    unfold frsE
    split
    · rename_i h
      rw [ih]
      exact ⟨fun hh u hu => by rcases List.mem_cons.1 hu with rfl | hu; exact h; exact hh u hu, fun hh u hu => hh u (List.mem_cons_of_mem _ hu)⟩
    · rename_i h
      exact ⟨fun hh => absurd hh h, fun hh => absurd (hh v List.mem_cons_self) h⟩
theorem stk_zero {fs : List FR} : stkE fs = 0 ↔ fs.length ≤ 16 ∧ frsE fs = 0 := by
  unfold stkE
  split
  · refine ⟨fun h => ?_, fun h => ?_⟩
    · cases h
    · exfalso; omega
  · rename_i h; exact ⟨fun h2 => ⟨by omega, h2⟩, fun h2 => h2.2⟩
/-- A machine that may be, taken apart. -/
theorem mc_zero {x : MC} : mcE x = 0 ↔ chkL x.r = 0 ∧ chk5 x.k = 0 ∧ memE x.m = 0 ∧ stkE x.s = 0 ∧ outE x.o = 0 := by
  unfold mcE
  split
  · rename_i h1
    split
    · rename_i h2
      split
      · rename_i h3
        split
        · rename_i h4; exact ⟨fun h => ⟨h1, h2, h3, h4, h⟩, fun h => h.2.2.2.2⟩
        · rename_i h4; exact ⟨fun h => absurd h h4, fun h => absurd h.2.2.2.1 h4⟩
      · rename_i h3; exact ⟨fun h => absurd h h3, fun h => absurd h.2.2.1 h3⟩
    · rename_i h2; exact ⟨fun h => absurd h h2, fun h => absurd h.2.1 h2⟩
  · rename_i h1; exact ⟨fun h => absurd h h1, fun h => absurd h.1 h1⟩
theorem sw_mc {b n : Int} {x : MC} (h : mcE x = 0) : mcE (swM b n x) = 0 := by
  obtain ⟨h1, h2, h3, h4, h5⟩ := mc_zero.1 h
  refine mc_zero.2 ⟨chk_swVs h1, chk_swK h2, ?_, ?_, h5⟩
  · obtain ⟨hl, hc⟩ := mem_small h3
    show memE (x.m.map (swV b n)) = 0
    rw [mem_not (by rw [List.length_map]; omega)]
    exact chk_swVs hc
  · obtain ⟨hl, hf⟩ := stk_zero.1 h4
    refine stk_zero.2 ⟨by show (x.s.map (swF b n)).length ≤ 16; rw [List.length_map]; exact hl, frs_all.2 fun f hf' => ?_⟩
    obtain ⟨g, hg, rfl⟩ := List.mem_map.1 hf'
    obtain ⟨g1, g2⟩ := fr_zero.1 (frs_all.1 hf g hg)
    exact fr_zero.2 ⟨chk_swK g1, chk_swV g2⟩
theorem sw_again {b n a k : Int} {x : MC} (h : swE b n x = 0) (h' : argE a k = 0) : swE a k (swM b n x) = 0 := by
  unfold swE
  rw [if_pos (sw_mc (sw_ok h).1)]
  exact h'
theorem cVs_app (b n : Int) (xs ys : List MV) : cVs b n (xs ++ ys) = cVs b n xs + cVs b n ys := by
  induction xs with
  | nil => simp [cVs]
  | cons x xs ih => simp only [List.cons_append, cVs]; omega
theorem cFs_app (b n : Int) (xs ys : List FR) : cFs b n (xs ++ ys) = cFs b n xs + cFs b n ys := by
  induction xs with
  | nil => simp [cFs]
  | cons x xs ih => simp only [List.cons_append, cFs]; omega
theorem cVs_take {b n : Int} {vs : List MV} {k : Nat} {v : MV} (h : vs[k]? = some v) : cVs b n (vs.take (k + 1)) = cVs b n (vs.take k) + cV b n v ∧ cVs b n (vs.take (k + 1)) ≤ cVs b n vs := by
  refine ⟨?_, ?_⟩
  · rw [List.take_add_one, h, cVs_app]; simp [cVs]
  · have := cVs_app b n (vs.take (k + 1)) (vs.drop (k + 1))
    rw [List.take_append_drop] at this
    omega
theorem cFs_take {b n : Int} {vs : List FR} {k : Nat} {v : FR} (h : vs[k]? = some v) : cFs b n (vs.take (k + 1)) = cFs b n (vs.take k) + cF b n v ∧ cFs b n (vs.take (k + 1)) ≤ cFs b n vs := by
  refine ⟨?_, ?_⟩
  · rw [List.take_add_one, h, cFs_app]; simp [cFs]
  · have := cFs_app b n (vs.take (k + 1)) (vs.drop (k + 1))
    rw [List.take_append_drop] at this
    omega
end
section
open Go.RowKit
set_option linter.unusedVariables false

/-- A key in a cell that one may look at by that key. -/
def Chd (M : List MV) (d : Bool) (r c : K5) : Prop := Cnt d r ∧ inB 9 r.p = true ∧ ∃ (j : Nat) (v : MV), cov5 r j = true ∧ M[j]? = some v ∧ v.i = true ∧ c = vK v
/-- What some keys lead to. -/
inductive RF (M : List MV) (d : Bool) (T : K5 → Prop) : K5 → Prop
  | at_ {k : K5} (h : T k) : RF M d T k
  | go {r c : K5} (h : RF M d T r) (hc : Chd M d r c) : RF M d T c
theorem rf_mono {M : List MV} {d : Bool} {T T' : K5 → Prop} (h : ∀ k, T k → RF M d T' k) : ∀ {k}, RF M d T k → RF M d T' k := fun hk => by
  induction hk with
  | at_ hT => exact h _ hT
  | go _ hc ih => exact .go ih hc
/-- Of S comes S', T being looked for. -/
structure Gr (M : List MV) (d : Bool) (S S' T : K5 → Prop) : Prop where
  sub : ∀ k, S k → S' k
  inn : ∀ k, T k → S' k
  frm : ∀ k, S' k → S k ∨ RF M d T k
  clo : ∀ r, S' r → S r ∨ ∀ c, Chd M d r c → S' c
section
variable {M : List MV} {d : Bool} {S S1 S2 T T1 T2 : K5 → Prop}
theorem Gr.refl (hT : ∀ k, T k → S k) : Gr M d S S T := ⟨fun _ h => h, hT, fun _ h => .inl h, fun _ h => .inl h⟩
theorem Gr.trans (h : Gr M d S S1 T1) (g : Gr M d S1 S2 T2) (hT : ∀ k, T k ↔ T1 k ∨ T2 k) : Gr M d S S2 T := by
  refine ⟨fun k hk => g.sub k (h.sub k hk), fun k hk => ?_, fun k hk => ?_, fun r hr => ?_⟩
  · rcases (hT k).1 hk with h1 | h1
    · exact g.sub k (h.inn k h1)
    · exact g.inn k h1
  · rcases g.frm k hk with h1 | h1
    · rcases h.frm k h1 with h2 | h2
      · exact .inl h2
      · exact .inr (rf_mono (fun k hk => .at_ ((hT k).2 (.inl hk))) h2)
    · exact .inr (rf_mono (fun k hk => .at_ ((hT k).2 (.inr hk))) h1)
  · rcases g.clo r hr with h1 | h1
    · rcases h.clo r h1 with h2 | h2
      · exact .inl h2
      · exact .inr fun c hc => g.sub c (h2 c hc)
    · exact .inr h1
theorem Gr.leaf {k0 : K5} (hS : ∀ k, S1 k ↔ S k ∨ k = k0) (hn : ∀ c, ¬ Chd M d k0 c) : Gr M d S S1 (fun k => k = k0) := by
  refine ⟨fun k hk => (hS k).2 (.inl hk), fun k hk => (hS k).2 (.inr hk), fun k hk => ?_, fun r hr => ?_⟩
  · exact ((hS k).1 hk).imp id .at_
  · rcases (hS r).1 hr with h | rfl
    · exact .inl h
    · exact .inr fun c hc => absurd hc (hn c)
theorem Gr.node {k0 : K5} (hS : ∀ k, S1 k ↔ S k ∨ k = k0) (h : Gr M d S1 S2 (Chd M d k0)) : Gr M d S S2 (fun k => k = k0) := by
  refine ⟨fun k hk => h.sub k ((hS k).2 (.inl hk)), fun k hk => h.sub k ((hS k).2 (.inr hk)), fun k hk => ?_, fun r hr => ?_⟩
  · rcases h.frm k hk with h1 | h1
    · exact ((hS k).1 h1).imp id .at_
    · exact .inr (rf_mono (T' := fun k => k = k0) (fun c hc => .go (.at_ rfl) hc) h1)
  · rcases h.clo r hr with h1 | h1
    · rcases (hS r).1 h1 with h2 | rfl
      · exact .inl h2
      · exact .inr h.inn
    · exact .inr h1
theorem Gr.cast (h : Gr M d S S1 T1) (hT : ∀ k, T k ↔ T1 k) : Gr M d S S1 T := ⟨h.sub, fun k hk => h.inn k ((hT k).1 hk), fun k hk => (h.frm k hk).imp id (rf_mono (fun k hk => .at_ ((hT k).2 hk))), h.clo⟩
end
/-- All that is held at the end. -/
theorem gr_has {x : MC} {d : Bool} {S S' : K5 → Prop} (h : Gr x.m d S S' (Rt x d)) (h0 : ∀ k, ¬ S k) (k : K5) : S' k ↔ Has x d k := by
  constructor
  · intro hk
    rcases h.frm k hk with h1 | h1
    · exact absurd h1 (h0 k)
    · clear hk
      induction h1 with
      | at_ hT => exact .rt hT
      | @go r c hr hc ih =>
        obtain ⟨h1, h2, j, v, h3, h4, h5, rfl⟩ := hc
        exact .cell r j v ih h1 h2 h3 h4 h5
  · intro hk
    induction hk with
    | rt hr => exact h.inn _ hr
    | cell r j v _ hc hp hv hm hi ih => exact ((h.clo r ih).resolve_left (h0 r)) _ ⟨hc, hp, j, v, hv, hm, hi, rfl⟩
/-- How many of U are not held yet. -/
def cntN (s : K5 → Bool) : List K5 → Nat
  | [] => 0
  | k :: U => (if s k = true then 0 else 1) + cntN s U
theorem cnt_le {s s' : K5 → Bool} (h : ∀ k, s k = true → s' k = true) : ∀ U, cntN s' U ≤ cntN s U
  | [] => Nat.le_refl _
  | k :: U => by
    have ih := cnt_le h U
    unfold cntN
    by_cases h1 : s k = true
    · rw [if_pos h1, if_pos (h k h1)]; omega
    · rw [if_neg h1]
      split <;> omega
theorem cnt_lt {s s' : K5 → Bool} (h : ∀ k, s k = true → s' k = true) {k0 : K5} (h0 : s k0 = false) (h1 : s' k0 = true) : ∀ U, k0 ∈ U → cntN s' U < cntN s U
  | [], hm => by simp at hm
  | k :: U, hm => by
    have hle := cnt_le h U
    unfold cntN
    rcases List.mem_cons.1 hm with rfl | hm
    · rw [if_pos h1, if_neg (by rw [h0]; decide)]; omega
    · have ih := cnt_lt h h0 h1 U hm
      by_cases h2 : s k = true
      · rw [if_pos h2, if_pos (h k h2)]; omega
      · rw [if_neg h2]
        split <;> omega
theorem cnt_all (U : List K5) : cntN (fun _ => false) U = U.length := by
  induction U with
  | nil => rfl
  | cons k U ih => unfold cntN; rw [ih, if_neg (by decide), List.length_cons]; omega
/-- All keys of a list of values. -/
def kysL : List MV → List K5
  | [] => []
  | v :: vs => if v.i = true then vK v :: kysL vs else kysL vs
theorem mem_kys {k : K5} : ∀ {vs : List MV}, k ∈ kysL vs ↔ ∃ v ∈ vs, v.i = true ∧ k = vK v
  | [] => by simp [kysL]
  | v :: vs => by
    unfold kysL
    by_cases hi : v.i = true
    · rw [if_pos hi, List.mem_cons, mem_kys (vs := vs)]
      constructor
      · rintro (rfl | ⟨u, hu, h⟩)
        · exact ⟨v, by simp, hi, rfl⟩
        · exact ⟨u, by simp [hu], h⟩
      · rintro ⟨u, hu, h1, h2⟩
        rcases List.mem_cons.1 hu with rfl | hu
        · exact .inl h2
        · exact .inr ⟨u, hu, h1, h2⟩
    · rw [if_neg hi, mem_kys (vs := vs)]
      constructor
      · rintro ⟨u, hu, h⟩; exact ⟨u, by simp [hu], h⟩
      · rintro ⟨u, hu, h1, h2⟩
        rcases List.mem_cons.1 hu with rfl | hu
        · exact absurd h1 hi
        · exact ⟨u, hu, h1, h2⟩
theorem kys_len (vs : List MV) : (kysL vs).length ≤ vs.length := by
  induction vs with
  | nil => exact Nat.le_refl _
  | cons v vs ih => unfold kysL; split <;> simp only [List.length_cons] <;> omega
/-- The cells of a key in a memory. -/
def cutL (M : List MV) (k : K5) : List MV := (M.drop (min k.b.toNat M.length)).take (min (k.b + k.l).toNat M.length - min k.b.toNat M.length)
theorem mem_cut {M : List MV} {k : K5} (hb : 0 ≤ k.b) (hl : 0 ≤ k.l) {v : MV} : v ∈ cutL M k ↔ ∃ j : Nat, cov5 k j = true ∧ M[j]? = some v := by
  unfold cutL
  rw [List.mem_iff_getElem?]
  constructor
  · rintro ⟨i, hi⟩
    rw [List.getElem?_take] at hi
    split at hi
    · rename_i hlt
      rw [List.getElem?_drop] at hi
      have hj := (List.getElem?_eq_some_iff.1 hi).1
      exact ⟨_, cov5_lit.2 (by omega), hi⟩
    · cases hi
  · rintro ⟨j, hc, hj⟩
    have h1 := cov5_lit.1 hc
    have h2 := (List.getElem?_eq_some_iff.1 hj).1
    refine ⟨j - k.b.toNat, ?_⟩
    rw [List.getElem?_take, if_pos (by omega), List.getElem?_drop, show min k.b.toNat M.length + (j - k.b.toNat) = j by omega]
    exact hj
theorem chd_cut {M : List MV} {d : Bool} {r : K5} (hb : 0 ≤ r.b) (hl : 0 ≤ r.l) (hc : Cnt d r) (hp : inB 9 r.p = true) (c : K5) : Chd M d r c ↔ c ∈ kysL (cutL M r) := by
  rw [mem_kys]
  constructor
  · rintro ⟨_, _, j, v, h3, h4, h5, h6⟩
    exact ⟨v, (mem_cut hb hl).2 ⟨j, h3, h4⟩, h5, h6⟩
  · rintro ⟨v, h1, h2, h3⟩
    obtain ⟨j, h4, h5⟩ := (mem_cut hb hl).1 h1
    exact ⟨hc, hp, j, v, h4, h5, h2, h3⟩
end
end Go.Proofs.YtlfeglljpfihhaaDoor
