/- For whatever two keys and a number, the law KeysMay returns true: the program's Check, Covers and Under answer what the document's own reckoning answers (Under: of keys that may be); no condition. -/
import Derived.Test.YtpmmgpiamginaaaRows
import Derived.Test.YtpmmgpiamginaaaKeyArg
import Derived.Test.YtpmmgpiamginaaaBits
import Derived.Test.YtpmmgpiamginaaaWithin
import Derived.Test.YtpmmgpiamginaaaKeyPure
import Derived.Test.YtpmmgpiamginaaaKeys
import Derived.Test.YtpmmgpiamginaaaKeysRef
import Derived.Test.YtpmmgpiamginaaaQuiet
import Derived.WalkKit
import Derived.ProofKit
import Derived.OpenShut
namespace Go.Proofs.Ytpmmgpiamginaaa.keysMay
open Go.ChangeShapes Go.WideShapes Go.ChangeAt Go.RowKit
set_option linter.unusedVariables false

theorem own : ownKnob Try.prog.godebug = none := by kernel_rfl

theorem chk401 : chkE 0 0 401 0 0 = 1 := by decide
theorem kb401 : kb 0 0 401 0 0 := by unfold kb; omega
theorem at_quiet {ops : Array Oper} {C : World → Prop} {Q : Act → Prop} {rest : List Oper} {o : Oper} {a : Act} (h : wpQuiet Try.prog ops C Q (o :: rest) a) : wpQuiet Try.prog ops C Q (o :: rest) a := h

set_option maxHeartbeats 4000000 in
set_option maxRecDepth 1000000 in
theorem walk (a0p a0b a0l a0a a0s : Int) (a1p a1b a1l a1a a1s : Int) (a2 : Int) (K0 : kb a0p a0b a0l a0a a0s) (K1 : kb a1p a1b a1l a1a a1s) (b2 : -9223372036854775808 ≤ a2 ∧ a2 ≤ 9223372036854775807) (w : World) :
    Calls Try.prog 3 #[.agg #[.int .i64 a0p, .int .i64 a0b, .int .i64 a0l, .int .i64 a0a, .int .i64 a0s], .agg #[.int .i64 a1p, .int .i64 a1b, .int .i64 a1l, .int .i64 a1a, .int .i64 a1s], .int .i64 a2] w fun e w' => e = .returned (.bool true) ∧ Below w.heap.size w w' := by
  have c401 := chk401
  have hC0 : ∀ w', Cls w [(w.heap.size, #[.int .i64 a0p, .int .i64 a0b, .int .i64 a0l, .int .i64 a0a, .int .i64 a0s]), (w.heap.size + 1, #[.int .i64 a1p, .int .i64 a1b, .int .i64 a1l, .int .i64 a1a, .int .i64 a1s])] w' → Box w' w.heap.size #[.int .i64 a0p, .int .i64 a0b, .int .i64 a0l, .int .i64 a0a, .int .i64 a0s] := fun w' h => h.2 (w.heap.size, #[.int .i64 a0p, .int .i64 a0b, .int .i64 a0l, .int .i64 a0a, .int .i64 a0s]) (by simp)
  have hC1 : ∀ w', Cls w [(w.heap.size, #[.int .i64 a0p, .int .i64 a0b, .int .i64 a0l, .int .i64 a0a, .int .i64 a0s]), (w.heap.size + 1, #[.int .i64 a1p, .int .i64 a1b, .int .i64 a1l, .int .i64 a1a, .int .i64 a1s])] w' → Box w' (w.heap.size + 1) #[.int .i64 a1p, .int .i64 a1b, .int .i64 a1l, .int .i64 a1a, .int .i64 a1s] := fun w' h => h.2 (w.heap.size + 1, #[.int .i64 a1p, .int .i64 a1b, .int .i64 a1l, .int .i64 a1a, .int .i64 a1s]) (by simp)
  have HC : Cls w [(w.heap.size, #[.int .i64 a0p, .int .i64 a0b, .int .i64 a0l, .int .i64 a0a, .int .i64 a0s]), (w.heap.size + 1, #[.int .i64 a1p, .int .i64 a1b, .int .i64 a1l, .int .i64 a1a, .int .i64 a1s])] ((w.alloc (.cells #[.int .i64 a0p, .int .i64 a0b, .int .i64 a0l, .int .i64 a0a, .int .i64 a0s] 23)).alloc (.cells #[.int .i64 a1p, .int .i64 a1b, .int .i64 a1l, .int .i64 a1a, .int .i64 a1s] 23)) := by
    refine ⟨two _ _, fun x hx => ?_⟩
    simp only [List.mem_cons, List.not_mem_nil, or_false] at hx
    rcases hx with rfl | rfl
    · exact (Box.new _ _ _).alloc _
    · exact Box.new1 _ _ _ _
  have hE : ∀ p : Prop, (∀ w', Cls w [(w.heap.size, #[.int .i64 a0p, .int .i64 a0b, .int .i64 a0l, .int .i64 a0a, .int .i64 a0s]), (w.heap.size + 1, #[.int .i64 a1p, .int .i64 a1b, .int .i64 a1l, .int .i64 a1a, .int .i64 a1s])] w' → p) ↔ p := fun p => ⟨fun h => h _ HC, fun h _ _ => h⟩
  by_cases ho0 : ok a0p a0b a0l a0a a0s
  · have k0 := chk_yes ho0
    by_cases ho1 : ok a1p a1b a1l a1a a1s
    · have k1 := chk_yes ho1
      go_enter Try.func3, Try.ntmps3
      go_wp2
      refine wp_region_quiet (C := Cls w [(w.heap.size, #[.int .i64 a0p, .int .i64 a0b, .int .i64 a0l, .int .i64 a0a, .int .i64 a0s]), (w.heap.size + 1, #[.int .i64 a1p, .int .i64 a1b, .int .i64 a1l, .int .i64 a1a, .int .i64 a1s])]) (by kernel_rfl) (by kernel_rfl) (Cls.drew HC) ?_
      repeat (first | (with_reducible refine at_quiet ?_; refine quiet_load_key rfl _ rfl _ rfl _ _ _ _ _ (by first | exact hC0 | exact hC1) ?_) | go_big_quiet_step ((intro h0; first | (go_at_call 9; refine (keys_check _ _ _ _ _ _ (by first | exact K0 | exact K1 | exact kb401)).mono ?_; rintro e w1 ⟨rfl, hbb⟩; exact ⟨rfl, h0.step hbb⟩) | (go_at_call 10; refine (ref_check _ _ _ _ _ _).mono ?_; rintro e w1 ⟨rfl, hbb⟩; exact ⟨rfl, h0.step hbb⟩) | (go_at_call 11; refine (keys_covers _ _ _ _ _ _ _ K0 b2).mono ?_; rintro e w1 ⟨rfl, hbb⟩; exact ⟨rfl, h0.step hbb⟩) | (go_at_call 12; refine (ref_covers _ _ _ _ _ _ _ K0 b2).mono ?_; rintro e w1 ⟨rfl, hbb⟩; exact ⟨rfl, h0.step hbb⟩) | (go_at_call 13; refine (keys_under _ _ _ _ _ _ _ _ _ _ _ K0 K1).mono ?_; rintro e w1 ⟨rfl, hbb⟩; exact ⟨rfl, h0.step hbb⟩) | (go_at_call 14; refine (ref_under _ _ _ _ _ _ _ _ _ _ _ ho0 ho1).mono ?_; rintro e w1 ⟨rfl, hbb⟩; exact ⟨rfl, h0.step hbb⟩))) | quiet_step ((intro h0; first | (go_at_call 9; refine (keys_check _ _ _ _ _ _ (by first | exact K0 | exact K1 | exact kb401)).mono ?_; rintro e w1 ⟨rfl, hbb⟩; exact ⟨rfl, h0.step hbb⟩) | (go_at_call 10; refine (ref_check _ _ _ _ _ _).mono ?_; rintro e w1 ⟨rfl, hbb⟩; exact ⟨rfl, h0.step hbb⟩) | (go_at_call 11; refine (keys_covers _ _ _ _ _ _ _ K0 b2).mono ?_; rintro e w1 ⟨rfl, hbb⟩; exact ⟨rfl, h0.step hbb⟩) | (go_at_call 12; refine (ref_covers _ _ _ _ _ _ _ K0 b2).mono ?_; rintro e w1 ⟨rfl, hbb⟩; exact ⟨rfl, h0.step hbb⟩) | (go_at_call 13; refine (keys_under _ _ _ _ _ _ _ _ _ _ _ K0 K1).mono ?_; rintro e w1 ⟨rfl, hbb⟩; exact ⟨rfl, h0.step hbb⟩) | (go_at_call 14; refine (ref_under _ _ _ _ _ _ _ _ _ _ _ ho0 ho1).mono ?_; rintro e w1 ⟨rfl, hbb⟩; exact ⟨rfl, h0.step hbb⟩))))
      refine wpQuiet_nil ?_
      intro w1 h1
      go_wp2
      refine wp_region_quiet (C := Cls w [(w.heap.size, #[.int .i64 a0p, .int .i64 a0b, .int .i64 a0l, .int .i64 a0a, .int .i64 a0s]), (w.heap.size + 1, #[.int .i64 a1p, .int .i64 a1b, .int .i64 a1l, .int .i64 a1a, .int .i64 a1s])]) (by kernel_rfl) (by kernel_rfl) (Cls.drew h1) ?_
      repeat (first | (with_reducible refine at_quiet ?_; refine quiet_load_key rfl _ rfl _ rfl _ _ _ _ _ (by first | exact hC0 | exact hC1) ?_) | go_big_quiet_step ((intro h0; first | (go_at_call 9; refine (keys_check _ _ _ _ _ _ (by first | exact K0 | exact K1 | exact kb401)).mono ?_; rintro e w1 ⟨rfl, hbb⟩; exact ⟨rfl, h0.step hbb⟩) | (go_at_call 10; refine (ref_check _ _ _ _ _ _).mono ?_; rintro e w1 ⟨rfl, hbb⟩; exact ⟨rfl, h0.step hbb⟩) | (go_at_call 11; refine (keys_covers _ _ _ _ _ _ _ K0 b2).mono ?_; rintro e w1 ⟨rfl, hbb⟩; exact ⟨rfl, h0.step hbb⟩) | (go_at_call 12; refine (ref_covers _ _ _ _ _ _ _ K0 b2).mono ?_; rintro e w1 ⟨rfl, hbb⟩; exact ⟨rfl, h0.step hbb⟩) | (go_at_call 13; refine (keys_under _ _ _ _ _ _ _ _ _ _ _ K0 K1).mono ?_; rintro e w1 ⟨rfl, hbb⟩; exact ⟨rfl, h0.step hbb⟩) | (go_at_call 14; refine (ref_under _ _ _ _ _ _ _ _ _ _ _ ho0 ho1).mono ?_; rintro e w1 ⟨rfl, hbb⟩; exact ⟨rfl, h0.step hbb⟩))) | quiet_step ((intro h0; first | (go_at_call 9; refine (keys_check _ _ _ _ _ _ (by first | exact K0 | exact K1 | exact kb401)).mono ?_; rintro e w1 ⟨rfl, hbb⟩; exact ⟨rfl, h0.step hbb⟩) | (go_at_call 10; refine (ref_check _ _ _ _ _ _).mono ?_; rintro e w1 ⟨rfl, hbb⟩; exact ⟨rfl, h0.step hbb⟩) | (go_at_call 11; refine (keys_covers _ _ _ _ _ _ _ K0 b2).mono ?_; rintro e w1 ⟨rfl, hbb⟩; exact ⟨rfl, h0.step hbb⟩) | (go_at_call 12; refine (ref_covers _ _ _ _ _ _ _ K0 b2).mono ?_; rintro e w1 ⟨rfl, hbb⟩; exact ⟨rfl, h0.step hbb⟩) | (go_at_call 13; refine (keys_under _ _ _ _ _ _ _ _ _ _ _ K0 K1).mono ?_; rintro e w1 ⟨rfl, hbb⟩; exact ⟨rfl, h0.step hbb⟩) | (go_at_call 14; refine (ref_under _ _ _ _ _ _ _ _ _ _ _ ho0 ho1).mono ?_; rintro e w1 ⟨rfl, hbb⟩; exact ⟨rfl, h0.step hbb⟩))))
      refine wpQuiet_nil ?_
      intro w2 h2
      go_wp2
      go_ret
      exact ⟨rfl, h2.1⟩
    · have k1 := chk_no ho1
      clear ho1
      go_enter Try.func3, Try.ntmps3
      go_wp2
      refine wp_region_quiet (C := Cls w [(w.heap.size, #[.int .i64 a0p, .int .i64 a0b, .int .i64 a0l, .int .i64 a0a, .int .i64 a0s]), (w.heap.size + 1, #[.int .i64 a1p, .int .i64 a1b, .int .i64 a1l, .int .i64 a1a, .int .i64 a1s])]) (by kernel_rfl) (by kernel_rfl) (Cls.drew HC) ?_
      repeat (first | (with_reducible refine at_quiet ?_; refine quiet_load_key rfl _ rfl _ rfl _ _ _ _ _ (by first | exact hC0 | exact hC1) ?_) | go_big_quiet_step ((intro h0; first | (go_at_call 9; refine (keys_check _ _ _ _ _ _ (by first | exact K0 | exact K1 | exact kb401)).mono ?_; rintro e w1 ⟨rfl, hbb⟩; exact ⟨rfl, h0.step hbb⟩) | (go_at_call 10; refine (ref_check _ _ _ _ _ _).mono ?_; rintro e w1 ⟨rfl, hbb⟩; exact ⟨rfl, h0.step hbb⟩) | (go_at_call 11; refine (keys_covers _ _ _ _ _ _ _ K0 b2).mono ?_; rintro e w1 ⟨rfl, hbb⟩; exact ⟨rfl, h0.step hbb⟩) | (go_at_call 12; refine (ref_covers _ _ _ _ _ _ _ K0 b2).mono ?_; rintro e w1 ⟨rfl, hbb⟩; exact ⟨rfl, h0.step hbb⟩) | (go_at_call 13; refine (keys_under _ _ _ _ _ _ _ _ _ _ _ K0 K1).mono ?_; rintro e w1 ⟨rfl, hbb⟩; exact ⟨rfl, h0.step hbb⟩) | (go_at_call 14; refine (ref_under _ _ _ _ _ _ _ _ _ _ _ ho0 ho1).mono ?_; rintro e w1 ⟨rfl, hbb⟩; exact ⟨rfl, h0.step hbb⟩))) | quiet_step ((intro h0; first | (go_at_call 9; refine (keys_check _ _ _ _ _ _ (by first | exact K0 | exact K1 | exact kb401)).mono ?_; rintro e w1 ⟨rfl, hbb⟩; exact ⟨rfl, h0.step hbb⟩) | (go_at_call 10; refine (ref_check _ _ _ _ _ _).mono ?_; rintro e w1 ⟨rfl, hbb⟩; exact ⟨rfl, h0.step hbb⟩) | (go_at_call 11; refine (keys_covers _ _ _ _ _ _ _ K0 b2).mono ?_; rintro e w1 ⟨rfl, hbb⟩; exact ⟨rfl, h0.step hbb⟩) | (go_at_call 12; refine (ref_covers _ _ _ _ _ _ _ K0 b2).mono ?_; rintro e w1 ⟨rfl, hbb⟩; exact ⟨rfl, h0.step hbb⟩) | (go_at_call 13; refine (keys_under _ _ _ _ _ _ _ _ _ _ _ K0 K1).mono ?_; rintro e w1 ⟨rfl, hbb⟩; exact ⟨rfl, h0.step hbb⟩) | (go_at_call 14; refine (ref_under _ _ _ _ _ _ _ _ _ _ _ ho0 ho1).mono ?_; rintro e w1 ⟨rfl, hbb⟩; exact ⟨rfl, h0.step hbb⟩))))
      refine wpQuiet_nil ?_
      intro w1 h1
      go_wp2
      refine wp_region_quiet (C := Cls w [(w.heap.size, #[.int .i64 a0p, .int .i64 a0b, .int .i64 a0l, .int .i64 a0a, .int .i64 a0s]), (w.heap.size + 1, #[.int .i64 a1p, .int .i64 a1b, .int .i64 a1l, .int .i64 a1a, .int .i64 a1s])]) (by kernel_rfl) (by kernel_rfl) (Cls.drew h1) ?_
      repeat (first | (with_reducible refine at_quiet ?_; refine quiet_load_key rfl _ rfl _ rfl _ _ _ _ _ (by first | exact hC0 | exact hC1) ?_) | go_big_quiet_step ((intro h0; first | (go_at_call 9; refine (keys_check _ _ _ _ _ _ (by first | exact K0 | exact K1 | exact kb401)).mono ?_; rintro e w1 ⟨rfl, hbb⟩; exact ⟨rfl, h0.step hbb⟩) | (go_at_call 10; refine (ref_check _ _ _ _ _ _).mono ?_; rintro e w1 ⟨rfl, hbb⟩; exact ⟨rfl, h0.step hbb⟩) | (go_at_call 11; refine (keys_covers _ _ _ _ _ _ _ K0 b2).mono ?_; rintro e w1 ⟨rfl, hbb⟩; exact ⟨rfl, h0.step hbb⟩) | (go_at_call 12; refine (ref_covers _ _ _ _ _ _ _ K0 b2).mono ?_; rintro e w1 ⟨rfl, hbb⟩; exact ⟨rfl, h0.step hbb⟩) | (go_at_call 13; refine (keys_under _ _ _ _ _ _ _ _ _ _ _ K0 K1).mono ?_; rintro e w1 ⟨rfl, hbb⟩; exact ⟨rfl, h0.step hbb⟩) | (go_at_call 14; refine (ref_under _ _ _ _ _ _ _ _ _ _ _ ho0 ho1).mono ?_; rintro e w1 ⟨rfl, hbb⟩; exact ⟨rfl, h0.step hbb⟩))) | quiet_step ((intro h0; first | (go_at_call 9; refine (keys_check _ _ _ _ _ _ (by first | exact K0 | exact K1 | exact kb401)).mono ?_; rintro e w1 ⟨rfl, hbb⟩; exact ⟨rfl, h0.step hbb⟩) | (go_at_call 10; refine (ref_check _ _ _ _ _ _).mono ?_; rintro e w1 ⟨rfl, hbb⟩; exact ⟨rfl, h0.step hbb⟩) | (go_at_call 11; refine (keys_covers _ _ _ _ _ _ _ K0 b2).mono ?_; rintro e w1 ⟨rfl, hbb⟩; exact ⟨rfl, h0.step hbb⟩) | (go_at_call 12; refine (ref_covers _ _ _ _ _ _ _ K0 b2).mono ?_; rintro e w1 ⟨rfl, hbb⟩; exact ⟨rfl, h0.step hbb⟩) | (go_at_call 13; refine (keys_under _ _ _ _ _ _ _ _ _ _ _ K0 K1).mono ?_; rintro e w1 ⟨rfl, hbb⟩; exact ⟨rfl, h0.step hbb⟩) | (go_at_call 14; refine (ref_under _ _ _ _ _ _ _ _ _ _ _ ho0 ho1).mono ?_; rintro e w1 ⟨rfl, hbb⟩; exact ⟨rfl, h0.step hbb⟩))))
      refine wpQuiet_nil ?_
      intro w2 h2
      go_wp2
      go_ret
      exact ⟨rfl, h2.1⟩
  · have k0 := chk_no ho0
    clear ho0
    go_enter Try.func3, Try.ntmps3
    go_wp2
    refine wp_region_quiet (C := Cls w [(w.heap.size, #[.int .i64 a0p, .int .i64 a0b, .int .i64 a0l, .int .i64 a0a, .int .i64 a0s]), (w.heap.size + 1, #[.int .i64 a1p, .int .i64 a1b, .int .i64 a1l, .int .i64 a1a, .int .i64 a1s])]) (by kernel_rfl) (by kernel_rfl) (Cls.drew HC) ?_
    repeat (first | (with_reducible refine at_quiet ?_; refine quiet_load_key rfl _ rfl _ rfl _ _ _ _ _ (by first | exact hC0 | exact hC1) ?_) | go_big_quiet_step ((intro h0; first | (go_at_call 9; refine (keys_check _ _ _ _ _ _ (by first | exact K0 | exact K1 | exact kb401)).mono ?_; rintro e w1 ⟨rfl, hbb⟩; exact ⟨rfl, h0.step hbb⟩) | (go_at_call 10; refine (ref_check _ _ _ _ _ _).mono ?_; rintro e w1 ⟨rfl, hbb⟩; exact ⟨rfl, h0.step hbb⟩) | (go_at_call 11; refine (keys_covers _ _ _ _ _ _ _ K0 b2).mono ?_; rintro e w1 ⟨rfl, hbb⟩; exact ⟨rfl, h0.step hbb⟩) | (go_at_call 12; refine (ref_covers _ _ _ _ _ _ _ K0 b2).mono ?_; rintro e w1 ⟨rfl, hbb⟩; exact ⟨rfl, h0.step hbb⟩) | (go_at_call 13; refine (keys_under _ _ _ _ _ _ _ _ _ _ _ K0 K1).mono ?_; rintro e w1 ⟨rfl, hbb⟩; exact ⟨rfl, h0.step hbb⟩) | (go_at_call 14; refine (ref_under _ _ _ _ _ _ _ _ _ _ _ ho0 ho1).mono ?_; rintro e w1 ⟨rfl, hbb⟩; exact ⟨rfl, h0.step hbb⟩))) | quiet_step ((intro h0; first | (go_at_call 9; refine (keys_check _ _ _ _ _ _ (by first | exact K0 | exact K1 | exact kb401)).mono ?_; rintro e w1 ⟨rfl, hbb⟩; exact ⟨rfl, h0.step hbb⟩) | (go_at_call 10; refine (ref_check _ _ _ _ _ _).mono ?_; rintro e w1 ⟨rfl, hbb⟩; exact ⟨rfl, h0.step hbb⟩) | (go_at_call 11; refine (keys_covers _ _ _ _ _ _ _ K0 b2).mono ?_; rintro e w1 ⟨rfl, hbb⟩; exact ⟨rfl, h0.step hbb⟩) | (go_at_call 12; refine (ref_covers _ _ _ _ _ _ _ K0 b2).mono ?_; rintro e w1 ⟨rfl, hbb⟩; exact ⟨rfl, h0.step hbb⟩) | (go_at_call 13; refine (keys_under _ _ _ _ _ _ _ _ _ _ _ K0 K1).mono ?_; rintro e w1 ⟨rfl, hbb⟩; exact ⟨rfl, h0.step hbb⟩) | (go_at_call 14; refine (ref_under _ _ _ _ _ _ _ _ _ _ _ ho0 ho1).mono ?_; rintro e w1 ⟨rfl, hbb⟩; exact ⟨rfl, h0.step hbb⟩))))
    refine wpQuiet_nil ?_
    intro w1 h1
    go_wp2
    refine wp_region_quiet (C := Cls w [(w.heap.size, #[.int .i64 a0p, .int .i64 a0b, .int .i64 a0l, .int .i64 a0a, .int .i64 a0s]), (w.heap.size + 1, #[.int .i64 a1p, .int .i64 a1b, .int .i64 a1l, .int .i64 a1a, .int .i64 a1s])]) (by kernel_rfl) (by kernel_rfl) (Cls.drew h1) ?_
    repeat (first | (with_reducible refine at_quiet ?_; refine quiet_load_key rfl _ rfl _ rfl _ _ _ _ _ (by first | exact hC0 | exact hC1) ?_) | go_big_quiet_step ((intro h0; first | (go_at_call 9; refine (keys_check _ _ _ _ _ _ (by first | exact K0 | exact K1 | exact kb401)).mono ?_; rintro e w1 ⟨rfl, hbb⟩; exact ⟨rfl, h0.step hbb⟩) | (go_at_call 10; refine (ref_check _ _ _ _ _ _).mono ?_; rintro e w1 ⟨rfl, hbb⟩; exact ⟨rfl, h0.step hbb⟩) | (go_at_call 11; refine (keys_covers _ _ _ _ _ _ _ K0 b2).mono ?_; rintro e w1 ⟨rfl, hbb⟩; exact ⟨rfl, h0.step hbb⟩) | (go_at_call 12; refine (ref_covers _ _ _ _ _ _ _ K0 b2).mono ?_; rintro e w1 ⟨rfl, hbb⟩; exact ⟨rfl, h0.step hbb⟩) | (go_at_call 13; refine (keys_under _ _ _ _ _ _ _ _ _ _ _ K0 K1).mono ?_; rintro e w1 ⟨rfl, hbb⟩; exact ⟨rfl, h0.step hbb⟩) | (go_at_call 14; refine (ref_under _ _ _ _ _ _ _ _ _ _ _ ho0 ho1).mono ?_; rintro e w1 ⟨rfl, hbb⟩; exact ⟨rfl, h0.step hbb⟩))) | quiet_step ((intro h0; first | (go_at_call 9; refine (keys_check _ _ _ _ _ _ (by first | exact K0 | exact K1 | exact kb401)).mono ?_; rintro e w1 ⟨rfl, hbb⟩; exact ⟨rfl, h0.step hbb⟩) | (go_at_call 10; refine (ref_check _ _ _ _ _ _).mono ?_; rintro e w1 ⟨rfl, hbb⟩; exact ⟨rfl, h0.step hbb⟩) | (go_at_call 11; refine (keys_covers _ _ _ _ _ _ _ K0 b2).mono ?_; rintro e w1 ⟨rfl, hbb⟩; exact ⟨rfl, h0.step hbb⟩) | (go_at_call 12; refine (ref_covers _ _ _ _ _ _ _ K0 b2).mono ?_; rintro e w1 ⟨rfl, hbb⟩; exact ⟨rfl, h0.step hbb⟩) | (go_at_call 13; refine (keys_under _ _ _ _ _ _ _ _ _ _ _ K0 K1).mono ?_; rintro e w1 ⟨rfl, hbb⟩; exact ⟨rfl, h0.step hbb⟩) | (go_at_call 14; refine (ref_under _ _ _ _ _ _ _ _ _ _ _ ho0 ho1).mono ?_; rintro e w1 ⟨rfl, hbb⟩; exact ⟨rfl, h0.step hbb⟩))))
    refine wpQuiet_nil ?_
    intro w2 h2
    go_wp2
    go_ret
    exact ⟨rfl, h2.1⟩

set_option maxRecDepth 100000 in
theorem lifted (os : Os) (started : os.Started) (H : Type) (enc : TypeId × Value → H) :
    ReturnsInHanded {} Try.checked os 3 .any (Rows.keysMaySpec.pre6 enc Try.prog Try.f3 Rows.keysMayRow.domain false) (Rows.keysMaySpec.post enc Try.prog Try.f3 false true false false) := by
  refine returnsInHanded_of_change (C := Try.checked) own started (by kernel_rfl) Try.func3
    (ChangeSpec.witness6 (enc := enc) (C := Try.checked) false ⟨#[], #[.agg #[.int .i64 0, .int .i64 0, .int .i64 0, .int .i64 0, .int .i64 0], .agg #[.int .i64 0, .int .i64 0, .int .i64 0, .int .i64 0, .int .i64 0], .int .i64 0], []⟩ 8 (by kernel_rfl) (by kernel_rfl) (by kernel_rfl) (by kernel_rfl)) ?_
  intro W base args ds gs before hval0 hW hcnd _
  have hval : ∀ (j : Nat) t v, Try.f3.params[j]? = some t → args[j]? = some v → Value.okWide Try.prog W .any base t v := hval0
  have hW' := hW
  obtain ⟨p, q, hA0, hV, rfl, hfz, hnd⟩ := hW
  have hA : DataW.TrodAll enc Try.prog W 0 (fun _ => true) true Try.f3.params.toList args.toList ds p := hA0
  rw [Try.params3] at hA hval
  obtain ⟨v0, vs0, d0, ds0, p0, q0, hargs, rfl, rfl, h0, r0⟩ := trodAll_cons hA
  obtain ⟨v1, vs1, d1, ds1, p1, q1, rfl, rfl, rfl, h1, r1⟩ := trodAll_cons r0
  obtain ⟨v2, vs2, d2, ds2, p2, q2, rfl, rfl, rfl, h2, r2⟩ := trodAll_cons r1
  obtain ⟨rfl, rfl, rfl⟩ := trodAll_nil r2
  obtain rfl : args = #[v0, v1, v2] := by cases args; simp_all
  obtain ⟨rfl, rfl⟩ := trodVars_none hV
  obtain ⟨a0p, a0b, a0l, a0a, a0s, rfl, rfl, rfl, w0p, w0b, w0l, w0a, w0s⟩ := open_key (hval 0 23 v0 rfl rfl) h0
  obtain ⟨a1p, a1b, a1l, a1a, a1s, rfl, rfl, rfl, w1p, w1b, w1l, w1a, w1s⟩ := open_key (hval 1 23 v1 rfl rfl) h1
  obtain ⟨a2, rfl, rfl, rfl, w2⟩ := open_int Try.underlying3 (hval 2 3 v2 rfl rfl) h2
  clear hA0 hval0
  refine (walk a0p a0b a0l a0a a0s a1p a1b a1l a1a a1s a2 ⟨bounds_i64 w0p, bounds_i64 w0b, bounds_i64 w0l, bounds_i64 w0a, bounds_i64 w0s⟩ ⟨bounds_i64 w1p, bounds_i64 w1b, bounds_i64 w1l, bounds_i64 w1a, bounds_i64 w1s⟩ (bounds_i64 w2) W).mono fun e W' ⟨he, bel⟩ => ?_
  subst he
  exact ⟨_, rfl, _, _, _, [], [], [], hW', trodAll_mk1 (shut_bool Try.underlying4 _), (trodAll_cons_mk (shut_key w0p w0b w0l w0a w0s) (trodAll_cons_mk (shut_key w1p w1b w1l w1a w1s) (trodAll_cons_mk (shut_int Try.underlying3 w2) trodAll_mk0))), rfl, bel.frame _, fun h => by cases h⟩

theorem over : Rows.keysMayRow.holds Try.pinned (OpenSpec.ofChange Rows.keysMaySpec) :=
  OpenClaim.holds_of_wide 3 Try.f3 rfl rfl rfl rfl rfl rfl rfl ⟨rfl, rfl, rfl, rfl, rfl⟩ rfl rfl rfl rfl rfl (by kernel_rfl) Try.func3 (by kernel_rfl)
    (of_decide_eq_true (by kernel_rfl)) (by unfold Func.isWrapper; first | (rw [if_pos (by decide +kernel)]; kernel_rfl) | (rw [if_neg (by decide +kernel)]; exact ⟨rfl, rfl⟩))
    (fun os started H enc _ => lifted os started H enc)

theorem proved : Rows.KeysMaySaid :=
  over
#print axioms proved
end Go.Proofs.Ytpmmgpiamginaaa.keysMay
