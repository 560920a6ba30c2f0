/- For whatever two keys and a number, the law KeysDown returns true: nothing that is made of a key is more than it, nor is it, if it is opened, more than what was sealed; no condition. -/
import Derived.Test.YtpmmgpiamginaaaRows
import Derived.Test.YtpmmgpiamginaaaKeyArg
import Derived.Test.YtpmmgpiamginaaaBits
import Derived.Test.YtpmmgpiamginaaaWithin
import Derived.Test.YtpmmgpiamginaaaKeyPure
import Derived.Test.YtpmmgpiamginaaaKeys
import Derived.Test.YtpmmgpiamginaaaKeyMore
import Derived.Test.YtpmmgpiamginaaaKeyed
import Derived.Test.YtpmmgpiamginaaaAllOf
import Derived.WalkKit
import Derived.ProofKit
import Derived.OpenShut
namespace Go.Proofs.Ytpmmgpiamginaaa.keysDown
open Go.ChangeShapes Go.WideShapes Go.ChangeAt Go.RowKit
set_option linter.unusedVariables false

theorem own : ownKnob Try.prog.godebug = none := by kernel_rfl

theorem own_len {w : World} {base : Nat} {e : TypeId} {size : Nat} {v : Value} {n : Nat} {xs : List Value} (h : w.ownsRow base e size v n xs) : ∃ ad cap, v = .slice ad n cap := by
  rcases h.2 with ⟨rfl, rfl⟩ | ⟨g, cap, cur, rfl, _⟩
  · exact ⟨none, 0, rfl⟩
  · exact ⟨_, cap, rfl⟩
theorem gl_no {k : KK} (h : (k.e != 0) = true) : gl k = [] := by unfold gl; rw [if_neg (by simpa using h)]
theorem all_len {p b l a s p' b' l' a' s' n : Int} : (allK p b l a s p' b' l' a' s' n).length ≤ 4 := by
  have g1 := gl_le (moveK p b l a s n)
  have g2 := gl_le (narrowK p b l a s n)
  have g3 := gl_le (dropK p b l a s n)
  have g4 := gl_le (sealK p b l a s p' b' l' a' s')
  unfold allK; simp only [List.length_append]; omega
theorem flat_at (ks : List KK) (k o : Nat) (hk : k < ks.length) (ho : o < 5) : (ks.flatMap kc)[k * 5 + o]? = (kc ks[k])[o]? := by
  induction ks generalizing k with
  | nil => simp at hk
  | cons x ks ih =>
    have hl : (kc x).length = 5 := rfl
    cases k with
    | zero => rw [List.flatMap_cons, List.getElem?_append_left (by omega)]; simp
    | succ k =>
      rw [List.flatMap_cons, List.getElem?_append_right (by omega), hl, show (k + 1) * 5 + o - 5 = k * 5 + o by omega]
      simpa using ih k (by simpa using hk)
theorem own_key {w : World} {base : Nat} {e : TypeId} {g cap : Nat} {ks : List KK} (h : w.ownsRow base e 5 (.slice (some ⟨g, 0, none⟩) ks.length cap) ks.length (ks.flatMap kc)) (k : Nat) (hk : k < ks.length) :
    w.cell? ⟨g, k * 5, none⟩ = some (.int .i64 ks[k].p) ∧ w.cell? ⟨g, k * 5 + 1, none⟩ = some (.int .i64 ks[k].b) ∧ w.cell? ⟨g, k * 5 + 2, none⟩ = some (.int .i64 ks[k].l) ∧ w.cell? ⟨g, k * 5 + 3, none⟩ = some (.int .i64 ks[k].a) ∧ w.cell? ⟨g, k * 5 + 4, none⟩ = some (.int .i64 ks[k].s) := by
  refine ⟨?_, ?_, ?_, ?_, ?_⟩
  · rw [h.cellAt (k * 5) (by omega)]; exact flat_at ks k 0 hk (by omega)
  · rw [h.cellAt (k * 5 + 1) (by omega)]; exact flat_at ks k 1 hk (by omega)
  · rw [h.cellAt (k * 5 + 2) (by omega)]; exact flat_at ks k 2 hk (by omega)
  · rw [h.cellAt (k * 5 + 3) (by omega)]; exact flat_at ks k 3 hk (by omega)
  · rw [h.cellAt (k * 5 + 4) (by omega)]; exact flat_at ks k 4 hk (by omega)
theorem gl_mem {k x : KK} (h : x ∈ gl k) : k.e = 0 ∧ x = k := by
  unfold gl at h
  split at h
  · exact ⟨by assumption, by simpa using h⟩
  · cases h
theorem und_of {p b l s p' b' l' s' : Int} (h1 : l ≤ 0 ∨ (b' ≤ b ∧ b + l ≤ b' + l')) (h2 : inB p p' = true) (h3 : s' = 0 ∨ s = s') : undB p b l s p' b' l' s' = true := by
  unfold undB cwB
  rw [h2, decide_eq_true h1]
  rcases h3 with rfl | rfl <;> simp
theorem all_down {p b l a s p' b' l' a' s' n : Int} : ∀ k ∈ allK p b l a s p' b' l' a' s' n, ok k.p k.b k.l k.a k.s ∧ undB k.p k.b k.l k.s p b l s = true := by
  intro k hk
  unfold allK at hk
  simp only [List.mem_append] at hk
  rcases hk with ((hk | hk) | hk) | hk
  · obtain ⟨he, rfl⟩ := gl_mem hk
    rcases move_cases p b l a s n with ⟨E, hm, hE⟩ | ⟨ho, hs, hn, hm⟩
    · rw [hm] at he; simp at he hE; exact absurd he hE
    · rw [hm]; exact ⟨ok_at ho hn, und_of (by simp only; omega) (in_refl _) (.inr rfl)⟩
  · obtain ⟨he, rfl⟩ := gl_mem hk
    rcases narrow_cases p b l a s n with ⟨E, hm, hE⟩ | ⟨ho, hs, hn, hm⟩
    · rw [hm] at he; simp at he hE; exact absurd he hE
    · rw [hm]; exact ⟨by unfold ok at *; simp only; omega, und_of (by simp only; omega) (in_refl _) (.inr rfl)⟩
  · obtain ⟨he, rfl⟩ := gl_mem hk
    rcases drop_cases p b l a s n with ⟨E, hm, hE⟩ | ⟨ho, hs, hm⟩
    · rw [hm] at he; simp at he hE; exact absurd he hE
    · rw [hm]; exact ⟨ok_and ho, und_of (by simp only; omega) (in_and_l _ _) (.inr rfl)⟩
  · obtain ⟨he, rfl⟩ := gl_mem hk
    rcases seal_cases p b l a s p' b' l' a' s' with ⟨E, hm, hE⟩ | ⟨ho, ho', hs, hs', _, _, ha, hm⟩
    · rw [hm] at he; simp at he hE; exact absurd he hE
    · rw [hm]; exact ⟨by unfold ok at *; simp only; omega, und_of (by simp only; omega) (in_refl _) (.inl hs)⟩

set_option maxHeartbeats 4000000 in
set_option maxRecDepth 1000000 in
theorem walk (a0p a0b a0l a0a a0s : Int) (a1p a1b a1l a1a a1s : Int) (a2 : Int) (K0 : kb a0p a0b a0l a0a a0s) (K1 : kb a1p a1b a1l a1a a1s) (b2 : -9223372036854775808 ≤ a2 ∧ a2 ≤ 9223372036854775807) (w : World) :
    Calls Try.prog 8 #[.agg #[.int .i64 a0p, .int .i64 a0b, .int .i64 a0l, .int .i64 a0a, .int .i64 a0s], .agg #[.int .i64 a1p, .int .i64 a1b, .int .i64 a1l, .int .i64 a1a, .int .i64 a1s], .int .i64 a2] w fun e w' => e = .returned (.bool true) ∧ Below w.heap.size w w' := by
  obtain ⟨ks, hks⟩ : ∃ ks, allK a0p a0b a0l a0a a0s a1p a1b a1l a1a a1s a2 = ks := ⟨_, rfl⟩
  have hall : Hid (∀ k ∈ ks, ok k.p k.b k.l k.a k.s ∧ undB k.p k.b k.l k.s a0p a0b a0l a0s = true) := by rw [← hks]; exact all_down
  have hlen : ks.length ≤ 4 := by rw [← hks]; exact all_len
  go_enter Try.func8, Try.ntmps8
  go_wp2_with (first | (go_at_call 22; refine (keyed_true _).mono ?_; rintro e w1 ⟨rfl, hbb⟩; first | (replace B2 := (B2.alloc _).below hbb; replace B1 := (B1.alloc _).below hbb; have B3 := (Box.new _ _ _).below hbb; clear q1 z1 f1 q2 z2; have q1 := B1.cell; have z1 := B1.lt; have f1 := B1.free; have q2 := B2.cell; have z2 := B2.lt; have q3 := B3.cell; have z3 := B3.lt; replace hB := Below.step0 (hB.alloc hB.size _) hbb; clear hbb) | (replace B2 := B2.below hbb; replace B1 := B1.below hbb; clear q1 z1 f1 q2 z2; have q1 := B1.cell; have z1 := B1.lt; have f1 := B1.free; have q2 := B2.cell; have z2 := B2.lt; replace hB := Below.step0 hB hbb; clear hbb) | (have B1 := ((Box.new _ _ _).alloc _).below hbb; have B2 := (Box.new1 _ _ _ _).below hbb; have q1 := B1.cell; have z1 := B1.lt; have f1 := B1.free; have q2 := B2.cell; have z2 := B2.lt; have hB := Below.step0 (two _ _) hbb; clear hbb)) | (go_at_call 23; refine (all_of _ _ _ _ _ _ _ _ _ _ _ _ K0 K1).mono ?_; rintro e w1 ⟨v, rfl, hO, hbb⟩; rw [hks] at hO; obtain ⟨ad, cap, hv⟩ := own_len hO; subst hv; have HO : Hid (w1.ownsRow 0 _ _ _ _ _) := own_mono hO (Nat.zero_le _); clear hO; first | (replace B2 := (B2.alloc _).below hbb; replace B1 := (B1.alloc _).below hbb; have B3 := (Box.new _ _ _).below hbb; clear q1 z1 f1 q2 z2; have q1 := B1.cell; have z1 := B1.lt; have f1 := B1.free; have q2 := B2.cell; have z2 := B2.lt; have q3 := B3.cell; have z3 := B3.lt; replace hB := Below.step0 (hB.alloc hB.size _) hbb; clear hbb) | (replace B2 := B2.below hbb; replace B1 := B1.below hbb; clear q1 z1 f1 q2 z2; have q1 := B1.cell; have z1 := B1.lt; have f1 := B1.free; have q2 := B2.cell; have z2 := B2.lt; replace hB := Below.step0 hB hbb; clear hbb) | (have B1 := ((Box.new _ _ _).alloc _).below hbb; have B2 := (Box.new1 _ _ _ _).below hbb; have q1 := B1.cell; have z1 := B1.lt; have f1 := B1.free; have q2 := B2.cell; have z2 := B2.lt; have hB := Below.step0 (two _ _) hbb; clear hbb)))
  clear hks q1 q2 z1 z2 f1
  go_loopw [18] (fun i wr => ∃ k : Nat, k ≤ ks.length ∧ i = .int .i64 k ∧ Below w.heap.size w wr ∧ Box wr w.heap.size #[.int .i64 a0p, .int .i64 a0b, .int .i64 a0l, .int .i64 a0a, .int .i64 a0s] ∧ Box wr (w.heap.size + 1) #[.int .i64 a1p, .int .i64 a1b, .int .i64 a1l, .int .i64 a1a, .int .i64 a1s] ∧ Hid (wr.ownsRow 0 23 5 (.slice ad ks.length cap) ks.length (ks.flatMap kc))) (fun i _ => ks.length - (intOf i).toNat)
  case atStart => exact ⟨0, Nat.zero_le _, rfl, hB, B1, B2, HO⟩
  case round =>
    clear hB B1 B2 HO
    obtain ⟨k, hk, rfl, hB, B1, B2, HO⟩ := hrel
    have q1 := B1.cell
    have z1 := B1.lt
    have f1 := B1.free
    have q2 := B2.cell
    have z2 := B2.lt
    by_cases hlt : k < ks.length
    · obtain ⟨g, cap2, hv, _, hg⟩ := HO.out.form (by omega)
      injection hv with hv _ hcap
      subst hv hcap
      obtain ⟨x, hx⟩ : ∃ x, ks[k] = x := ⟨_, rfl⟩
      have hxa := hall.out x (by rw [← hx]; exact List.getElem_mem _)
      obtain ⟨hok, hun⟩ := hxa
      have hck := chk_yes hok
      have KK1 := kb_of_ok hok
      clear hok
      have hc := own_key HO.out k hlt
      rw [hx] at hc
      obtain ⟨c0, c1, c2, c3, c4⟩ := hc
      have HX : Hid (ks[k] = x) := hx
      clear hx
      have hk1 : (0 : Int) ≤ (k : Int) := by omega
      have hk2 : (k : Int) < (ks.length : Int) := by omega
      go_wp2_with (first | (go_at_call 9; refine (keys_check _ _ _ _ _ _ KK1).mono ?_; rintro e w1 ⟨rfl, hbb⟩; replace B1 := (B1.alloc _).below hbb; replace B2 := (B2.alloc _).below hbb; have B3 := (Box.new _ _ _).below hbb; have HP := own_below (HO.out.alloc _) hbb; clear HO; have HO : Hid (w1.ownsRow 0 _ _ _ _ _) := HP; clear HP; clear q1 q2 z1 z2; have q1 := B1.cell; have z1 := B1.lt; have q2 := B2.cell; have z2 := B2.lt; have q3 := B3.cell; have z3 := B3.lt; replace hB := Below.step0 (hB.alloc hB.size _) hbb; clear hbb) | (go_at_call 13; refine (keys_under _ _ _ _ _ _ _ _ _ _ _ KK1 K0).mono ?_; rintro e w1 ⟨rfl, hbb⟩; replace B1 := B1.below hbb; replace B2 := B2.below hbb; have HP := own_below HO.out hbb; clear HO; have HO : Hid (w1.ownsRow 0 _ _ _ _ _) := HP; clear HP; replace hB := Below.step0 hB hbb; clear hbb))
      go_roundw
      case rel => exact ⟨k + 1, by omega, by go_num, hB, B1, B2, HO⟩
      case measure => simp [intOf]; omega
    · clear HO hall
      rcases open_cases a0p a0b a0l a0a a0s a1p a1b a1l a1a a1s with ⟨E, hm, hE⟩ | ⟨-, -, -, -, -, -, -, hm⟩
      · go_wp2_with (first | (go_at_call 21; refine (keys_open _ _ _ _ _ _ _ _ _ _ _ K0 K1).mono ?_; rintro e w1 ⟨rfl, hbb⟩; first | (replace B2 := (B2.alloc _).below hbb; replace B1 := (B1.alloc _).below hbb; have B3 := (Box.new _ _ _).below hbb; clear q1 z1 f1 q2 z2; have q1 := B1.cell; have z1 := B1.lt; have f1 := B1.free; have q2 := B2.cell; have z2 := B2.lt; have q3 := B3.cell; have z3 := B3.lt; replace hB := Below.step0 (hB.alloc hB.size _) hbb; clear hbb) | (replace B2 := B2.below hbb; replace B1 := B1.below hbb; clear q1 z1 f1 q2 z2; have q1 := B1.cell; have z1 := B1.lt; have f1 := B1.free; have q2 := B2.cell; have z2 := B2.lt; replace hB := Below.step0 hB hbb; clear hbb) | (have B1 := ((Box.new _ _ _).alloc _).below hbb; have B2 := (Box.new1 _ _ _ _).below hbb; have q1 := B1.cell; have z1 := B1.lt; have f1 := B1.free; have q2 := B2.cell; have z2 := B2.lt; have hB := Below.step0 (two _ _) hbb; clear hbb)))
        go_ret
        exact ⟨rfl, hB.alloc hB.size _⟩
      · go_wp2_with (first | (go_at_call 21; refine (keys_open _ _ _ _ _ _ _ _ _ _ _ K0 K1).mono ?_; rintro e w1 ⟨rfl, hbb⟩; first | (replace B2 := (B2.alloc _).below hbb; replace B1 := (B1.alloc _).below hbb; have B3 := (Box.new _ _ _).below hbb; clear q1 z1 f1 q2 z2; have q1 := B1.cell; have z1 := B1.lt; have f1 := B1.free; have q2 := B2.cell; have z2 := B2.lt; have q3 := B3.cell; have z3 := B3.lt; replace hB := Below.step0 (hB.alloc hB.size _) hbb; clear hbb) | (replace B2 := B2.below hbb; replace B1 := B1.below hbb; clear q1 z1 f1 q2 z2; have q1 := B1.cell; have z1 := B1.lt; have f1 := B1.free; have q2 := B2.cell; have z2 := B2.lt; replace hB := Below.step0 hB hbb; clear hbb) | (have B1 := ((Box.new _ _ _).alloc _).below hbb; have B2 := (Box.new1 _ _ _ _).below hbb; have q1 := B1.cell; have z1 := B1.lt; have f1 := B1.free; have q2 := B2.cell; have z2 := B2.lt; have hB := Below.step0 (two _ _) hbb; clear hbb)))
        go_ret
        exact ⟨rfl, set_alloc hB (by omega) _⟩

set_option maxRecDepth 100000 in
theorem lifted (os : Os) (started : os.Started) (H : Type) (enc : TypeId × Value → H) :
    ReturnsInHanded {} Try.checked os 8 .any (Rows.keysDownSpec.pre6 enc Try.prog Try.f8 Rows.keysDownRow.domain false) (Rows.keysDownSpec.post enc Try.prog Try.f8 false true false false) := by
  refine returnsInHanded_of_change (C := Try.checked) own started (by kernel_rfl) Try.func8
    (ChangeSpec.witness6 (enc := enc) (C := Try.checked) false ⟨#[], #[.agg #[.int .i64 0, .int .i64 0, .int .i64 0, .int .i64 0, .int .i64 0], .agg #[.int .i64 0, .int .i64 0, .int .i64 0, .int .i64 0, .int .i64 0], .int .i64 0], []⟩ 8 (by kernel_rfl) (by kernel_rfl) (by kernel_rfl) (by kernel_rfl)) ?_
  intro W base args ds gs before hval0 hW hcnd _
  have hval : ∀ (j : Nat) t v, Try.f8.params[j]? = some t → args[j]? = some v → Value.okWide Try.prog W .any base t v := hval0
  have hW' := hW
  obtain ⟨p, q, hA0, hV, rfl, hfz, hnd⟩ := hW
  have hA : DataW.TrodAll enc Try.prog W 0 (fun _ => true) true Try.f8.params.toList args.toList ds p := hA0
  rw [Try.params8] at hA hval
  obtain ⟨v0, vs0, d0, ds0, p0, q0, hargs, rfl, rfl, h0, r0⟩ := trodAll_cons hA
  obtain ⟨v1, vs1, d1, ds1, p1, q1, rfl, rfl, rfl, h1, r1⟩ := trodAll_cons r0
  obtain ⟨v2, vs2, d2, ds2, p2, q2, rfl, rfl, rfl, h2, r2⟩ := trodAll_cons r1
  obtain ⟨rfl, rfl, rfl⟩ := trodAll_nil r2
  obtain rfl : args = #[v0, v1, v2] := by cases args; simp_all
  obtain ⟨rfl, rfl⟩ := trodVars_none hV
  obtain ⟨a0p, a0b, a0l, a0a, a0s, rfl, rfl, rfl, w0p, w0b, w0l, w0a, w0s⟩ := open_key (hval 0 23 v0 rfl rfl) h0
  obtain ⟨a1p, a1b, a1l, a1a, a1s, rfl, rfl, rfl, w1p, w1b, w1l, w1a, w1s⟩ := open_key (hval 1 23 v1 rfl rfl) h1
  obtain ⟨a2, rfl, rfl, rfl, w2⟩ := open_int Try.underlying3 (hval 2 3 v2 rfl rfl) h2
  clear hA0 hval0
  refine (walk a0p a0b a0l a0a a0s a1p a1b a1l a1a a1s a2 ⟨bounds_i64 w0p, bounds_i64 w0b, bounds_i64 w0l, bounds_i64 w0a, bounds_i64 w0s⟩ ⟨bounds_i64 w1p, bounds_i64 w1b, bounds_i64 w1l, bounds_i64 w1a, bounds_i64 w1s⟩ (bounds_i64 w2) W).mono fun e W' ⟨he, bel⟩ => ?_
  subst he
  exact ⟨_, rfl, _, _, _, [], [], [], hW', trodAll_mk1 (shut_bool Try.underlying4 _), (trodAll_cons_mk (shut_key w0p w0b w0l w0a w0s) (trodAll_cons_mk (shut_key w1p w1b w1l w1a w1s) (trodAll_cons_mk (shut_int Try.underlying3 w2) trodAll_mk0))), rfl, bel.frame _, fun h => by cases h⟩

theorem over : Rows.keysDownRow.holds Try.pinned (OpenSpec.ofChange Rows.keysDownSpec) :=
  OpenClaim.holds_of_wide 8 Try.f8 rfl rfl rfl rfl rfl rfl rfl ⟨rfl, rfl, rfl, rfl, rfl⟩ rfl rfl rfl rfl rfl (by kernel_rfl) Try.func8 (by kernel_rfl)
    (of_decide_eq_true (by kernel_rfl)) (by unfold Func.isWrapper; first | (rw [if_pos (by decide +kernel)]; kernel_rfl) | (rw [if_neg (by decide +kernel)]; exact ⟨rfl, rfl⟩))
    (fun os started H enc _ => lifted os started H enc)

theorem proved : Rows.KeysDownSaid :=
  over
#print axioms proved
end Go.Proofs.Ytpmmgpiamginaaa.keysDown
