/- step.act does what chapter 9 says of an instruction, for whatever machine and instruction. -/
import Derived.Test.YtlfeglljpfihhaaGreatDoorRows
import Derived.Test.YtlfeglljpfihhaaGreatDoorCardBaseX
import Derived.Test.YtlfeglljpfihhaaGreatDoorValArgX
import Derived.Test.YtlfeglljpfihhaaGreatDoorMemPureX
import Derived.Test.YtlfeglljpfihhaaGreatDoorInstShapeX
import Derived.Test.YtlfeglljpfihhaaGreatDoorStepRowX
import Derived.Test.YtlfeglljpfihhaaGreatDoorStepOffX
import Derived.Test.YtlfeglljpfihhaaGreatDoorStepOwnedX
import Derived.Test.YtlfeglljpfihhaaGreatDoorStepActX
import Derived.Test.YtlfeglljpfihhaaGreatDoorStepActAX
import Derived.Test.YtlfeglljpfihhaaGreatDoorStepActBX
import Derived.Test.YtlfeglljpfihhaaGreatDoorStepActCX
import Derived.Test.YtlfeglljpfihhaaGreatDoorStepActDX
import Derived.Test.YtlfeglljpfihhaaGreatDoorStepActEX
import Derived.WalkKit
namespace Go.Proofs.YtlfeglljpfihhaaGreatDoor
open Go.RowKit
set_option linter.unusedVariables false
set_option maxRecDepth 100000

/-- What is known of the instruction: each of its numbers is one that its kind may have. -/
def okI (i : ID) : Prop := chkD i.o i.a i.b i.c = 0
theorem sh_kinds : ∀ n : Nat, n < 23 →
    ((n = 3 ∨ n = 4 ∨ n = 5 ∨ n = 6 ∨ n = 7 ∨ n = 12 ∨ n = 13 ∨ n = 15 ∨ n = 16) → kLo (shC n) = 0 ∧ kHi (shC n) = 7) ∧ (n = 17 → kLo (shC n) = 0 ∧ kHi (shC n) = 5) ∧ (n = 21 → kLo (shC n) = 0 ∧ kHi (shC n) = 255) := by decide +kernel
theorem okI_c {i : ID} (h : okI i) : ((i.o = 3 ∨ i.o = 4 ∨ i.o = 5 ∨ i.o = 6 ∨ i.o = 7 ∨ i.o = 12 ∨ i.o = 13 ∨ i.o = 15 ∨ i.o = 16) → 0 ≤ i.c ∧ i.c ≤ 7) ∧ (i.o = 17 → 0 ≤ i.c ∧ i.c ≤ 5) ∧ (i.o = 21 → 0 ≤ i.c ∧ i.c ≤ 255) := by
  have hb := (chkD_ok h).1
  unfold okI chkD at h
  rw [if_pos hb] at h
  unfold chkN at h
  obtain ⟨n, hn⟩ := Int.eq_ofNat_of_zero_le hb.1
  rw [hn, Int.toNat_natCast] at h
  obtain ⟨k1, k2, k3⟩ := sh_kinds n (by omega)
  by_cases hk : kMay (shA n) i.a = true ∧ kMay (shB n) i.b = true ∧ kMay (shC n) i.c = true
  · have hc := hk.2.2
    unfold kMay at hc
    rw [decide_eq_true_eq] at hc
    refine ⟨fun ho => ?_, fun ho => ?_, fun ho => ?_⟩
    · have := k1 (by omega)
      omega
    · have := k2 (by omega)
      omega
    · have := k3 (by omega)
      omega
  · rw [if_neg hk] at h
    cases h
section
variable {w : World} {S bb : Nat} {x : MC} {q : MA} {i : ID} {n : K5}
theorem step_act (h : St w S bb x q i n) (hi : okI i) (hr : mvsOk x.r) (hm : mvsOk x.m) (hk : 0 ≤ x.k.a ∧ x.k.a ≤ 400) (hs : x.s.length ≤ 16) (fs : q.cs = x.s.length) (fo : q.co = x.o.length) :
    Calls Tryz.prog 51 #[.pointer (some ⟨S, 0, none⟩)] w fun r w' => Acts w S bb i (actR x i n) r w' := by
  obtain ⟨⟨o1, o2⟩, a1, a2, b1, b2, c1, c2⟩ := chkD_ok hi
  obtain ⟨c3, c4, c5⟩ := okI_c hi
  obtain ⟨o, a, b, c, e⟩ := i
  dsimp only at o1 o2 a1 a2 b1 b2 c1 c2 c3 c4 c5
  obtain ⟨A, rfl⟩ := Int.eq_ofNat_of_zero_le a1
  obtain ⟨B, rfl⟩ := Int.eq_ofNat_of_zero_le b1
  have la : A < 8 := by omega
  have lb : B < 8 := by omega
  have va := reg_at (k := A) h.r8 la
  have vb := reg_at (k := B) h.r8 lb
  have v7 := reg_at (k := 7) h.r8 (by omega)
  have oka := mvs_at hr va
  have okb := mvs_at hr vb
  have hcb : -9223372036854775808 ≤ c ∧ c ≤ 9223372036854775807 := by omega
  have hcc : -2048 ≤ c ∧ c ≤ 2047 := ⟨c1, c2⟩
  obtain ⟨O, rfl⟩ := Int.eq_ofNat_of_zero_le o1
  have hO : O = 0 ∨ O = 1 ∨ O = 2 ∨ O = 3 ∨ O = 4 ∨ O = 5 ∨ O = 6 ∨ O = 7 ∨ O = 8 ∨ O = 9 ∨ O = 10 ∨ O = 11 ∨ O = 12 ∨ O = 13 ∨ O = 14 ∨ O = 15 ∨ O = 16 ∨ O = 17 ∨ O = 18 ∨ O = 19 ∨ O = 20 ∨ O = 21 ∨ O = 22 := by omega
  rcases hO with rfl | rfl | rfl | rfl | rfl | rfl | rfl | rfl | rfl | rfl | rfl | rfl | rfl | rfl | rfl | rfl | rfl | rfl | rfl | rfl | rfl | rfl | rfl
  · exact act_halt h
  · exact act_set h la
  · exact act_copy h la vb
  · obtain ⟨C, rfl⟩ := Int.eq_ofNat_of_zero_le (c3 (by omega)).1
    exact act_calc3 h la vb (reg_at h.r8 (by have := (c3 (by omega)).2; omega))
  · obtain ⟨C, rfl⟩ := Int.eq_ofNat_of_zero_le (c3 (by omega)).1
    exact act_calc4 h la vb (reg_at h.r8 (by have := (c3 (by omega)).2; omega))
  · obtain ⟨C, rfl⟩ := Int.eq_ofNat_of_zero_le (c3 (by omega)).1
    exact act_calc5 h la vb (reg_at h.r8 (by have := (c3 (by omega)).2; omega))
  · obtain ⟨C, rfl⟩ := Int.eq_ofNat_of_zero_le (c3 (by omega)).1
    exact act_calc6 h la vb (reg_at h.r8 (by have := (c3 (by omega)).2; omega))
  · obtain ⟨C, rfl⟩ := Int.eq_ofNat_of_zero_le (c3 (by omega)).1
    exact act_calc7 h la vb (reg_at h.r8 (by have := (c3 (by omega)).2; omega))
  · exact act_jump h hk hcc
  · exact act_if h va hk hcc
  · exact act_load h la vb okb hm hcb
  · exact act_store h va vb okb oka hm hcb
  · obtain ⟨C, rfl⟩ := Int.eq_ofNat_of_zero_le (c3 (by omega)).1
    exact act_shift12 h la vb (reg_at h.r8 (by have := (c3 (by omega)).2; omega)) okb
  · obtain ⟨C, rfl⟩ := Int.eq_ofNat_of_zero_le (c3 (by omega)).1
    exact act_shift13 h la vb (reg_at h.r8 (by have := (c3 (by omega)).2; omega)) okb
  · exact act_drop h la vb okb
  · obtain ⟨C, rfl⟩ := Int.eq_ofNat_of_zero_le (c3 (by omega)).1
    have vc := reg_at (k := C) h.r8 (by have := (c3 (by omega)).2; omega)
    exact act_seal h la vb vc okb (mvs_at hr vc)
  · obtain ⟨C, rfl⟩ := Int.eq_ofNat_of_zero_le (c3 (by omega)).1
    have vc := reg_at (k := C) h.r8 (by have := (c3 (by omega)).2; omega)
    exact act_open h la vb vc okb (mvs_at hr vc)
  · exact act_ask h la vb (c4 (by omega))
  · exact act_call h va vb v7 fs
  · exact act_back h hs fs
  · exact act_here h la
  · exact act_clear h (c5 (by omega))
  · exact act_tell h va fo
end
end Go.Proofs.YtlfeglljpfihhaaGreatDoor
