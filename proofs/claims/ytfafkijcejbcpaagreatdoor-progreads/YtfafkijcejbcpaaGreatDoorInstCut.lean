/- strings.Cut at a blank, and strconv.Atoi at whatever text: what they answer; nothing that was in memory turns. -/
import Derived.Test.YtfafkijcejbcpaaGreatDoorRows
import Derived.Test.YtfafkijcejbcpaaGreatDoorKeyPure
import Derived.Test.YtfafkijcejbcpaaGreatDoorShelf
import Derived.Test.YtfafkijcejbcpaaGreatDoorInstShape
import Derived.Test.YtfafkijcejbcpaaGreatDoorInstLaid
import Derived.Test.YtfafkijcejbcpaaGreatDoorTextPure
import Derived.Test.YtfafkijcejbcpaaGreatDoorParsePure
import Derived.Lib.Split
import Derived.WalkKit
import Derived.ProofKit
import Derived.Deep.Draws
namespace Go.Proofs.YtfafkijcejbcpaaGreatDoor
open Go.ChangeShapes Go.WideShapes Go.ChangeAt Go.RowKit
set_option linter.unusedSimpArgs false

def cutF (l : List UInt8) : Bool := l.any (· == 32)
theorem ix_cut : ∀ l : List UInt8, (Lib.indexByte l 32 = -1 ∧ cutL l = (l, []) ∧ cutF l = false) ∨ (∃ i : Nat, Lib.indexByte l 32 = i ∧ i < l.length ∧ (cutL l).1 = l.take i ∧ (cutL l).2 = l.drop (i + 1) ∧ cutF l = true)
  | [] => Or.inl ⟨rfl, rfl, rfl⟩
  | x :: l => by
    by_cases hx : x = 32
    · subst hx
      exact Or.inr ⟨0, by simp [Lib.indexByte], by simp, by simp [cutL], by simp [cutL], by simp [cutF]⟩
    · have h1 : (x == 32) = false := by simpa using hx
      have h2 : (x != 32) = true := by simpa using hx
      have t1 : (x :: l).takeWhile (· != 32) = x :: l.takeWhile (· != 32) := by rw [List.takeWhile_cons, h2]; rfl
      have t2 : (x :: l).dropWhile (· != 32) = l.dropWhile (· != 32) := by rw [List.dropWhile_cons, h2]; rfl
      have t3 : cutF (x :: l) = cutF l := by unfold cutF; rw [List.any_cons, h1, Bool.false_or]
      rcases ix_cut l with ⟨a, b, c⟩ | ⟨i, a, b, c, d, e⟩
      · refine Or.inl ⟨by simp [Lib.indexByte, h1, a], ?_, by rw [t3]; exact c⟩
        unfold cutL at b ⊢
        rw [t1, t2]
        injection b with b1 b2
        rw [b1, b2]
      · refine Or.inr ⟨i + 1, ?_, by simpa using b, ?_, ?_, by rw [t3]; exact e⟩
        · have hne : ¬ (i : Int) = -1 := by omega
          simp [Lib.indexByte, h1, a, hne]
        · unfold cutL at c ⊢
          rw [t1]
          simpa using c
        · unfold cutL at d ⊢
          rw [t2]
          simpa using d
theorem bL_take (l : List UInt8) (i : Nat) : (bL l).extract 0 i = bL (l.take i) := by
  apply bytes_inj
  rw [Lib.extract_from_zero, bL_list, bL_list]
theorem bL_drop (l : List UInt8) (i : Nat) : (bL l).extract i (bL l).size = bL (l.drop i) := by
  apply bytes_inj
  rw [bL_list, ByteArray.data_extract, Array.toList_extract]
  show (bL l).data.toList.extract i (bL l).size = _
  rw [bL_list, bL_size, List.extract_eq_take_drop]
  rw [List.take_of_length_le (by simp)]
theorem cutlite (l : List UInt8) (w : World) (hl : l.length ≤ 140737488351232) :
    Calls Tryz.prog 100 #[.string (bL l), .string ⟨#[32]⟩] w fun e w' => e = .returned (.tuple #[.string (bL (cutL l).1), .string (bL (cutL l).2), .bool (cutF l)]) ∧ Below w.heap.size w w' := by
  have cI := Tryz.stringslite_Index_one (bL l) 32 w
  rw [bL_list] at cI
  rcases ix_cut l with ⟨a, b, c⟩ | ⟨i, a, b, c, d, e⟩
  · rw [b, c]
    rw [a] at cI
    show Calls _ _ _ _ fun e w' => e = .returned (.tuple #[.string (bL l), .string ⟨#[]⟩, .bool false]) ∧ Below w.heap.size w w'
    generalize bL l = S at *
    clear a b c
    go_enter Tryz.func100, Tryz.ntmps100
    go_wp2_with (go_at_call 39; refine cI.mono ?_; rintro e w' ⟨rfl, rfl⟩)
    refine bodyPost_ret (v := .tuple #[.string S, .string ⟨#[]⟩, .bool false]) (by simp [results, Tryz.results100, go_sem]) rfl ⟨rfl, Below.refl _ _⟩
  · rw [a] at cI
    rw [c, d, e, ← bL_take, ← bL_drop, bL_size]
    have z : (bL l).size = l.length := bL_size l
    generalize bL l = S at *
    clear a c d e
    go_enter Tryz.func100, Tryz.ntmps100
    go_wp2_with (go_at_call 39; refine cI.mono ?_; rintro e w' ⟨rfl, rfl⟩)
    go_region
    all_goals go_wp2
    all_goals exact bodyPost_ret (v := .tuple #[.string (S.extract 0 i), .string (S.extract (i + 1) l.length), .bool true]) (by simp [results, Tryz.results100, go_sem]) rfl ⟨rfl, (Below.refl _ _).drew⟩
theorem inst_cut (l : List UInt8) (w : World) (hl : l.length ≤ 140737488351232) :
    Calls Tryz.prog 89 #[.string (bL l), .string ⟨#[32]⟩] w fun e w' => e = .returned (.tuple #[.string (bL (cutL l).1), .string (bL (cutL l).2), .bool (cutF l)]) ∧ Below w.heap.size w w' := by
  have cI := cutlite l w hl
  generalize bL l = S at *
  generalize bL (cutL l).1 = S1 at *
  generalize bL (cutL l).2 = S2 at *
  generalize cutF l = F at *
  go_enter Tryz.func89, Tryz.ntmps89
  go_wp2_with (go_at_call 100; refine cI.mono ?_; rintro e w1 ⟨rfl, hB⟩)
  exact bodyPost_ret (v := .tuple #[.string S1, .string S2, .bool F]) (by simp [results, Tryz.results89, go_sem]) rfl ⟨rfl, hB⟩
theorem inst_atoi (l : List UInt8) (w : World) (hE : Er w) (hl : l.length ≤ 140737488351232) :
    Calls Tryz.prog 75 #[.string (bL l)] w fun e w' => (∃ E, (E = .nilIface ∨ ∃ N, E = .iface 120 (.pointer (some ⟨N, 0, none⟩))) ∧ e = .returned (.tuple #[.int .i64 (numP l), E])) ∧ Below w.heap.size w w' := by
  have z : (bL l).size = l.length := bL_size l
  have d : (bL l).data.toList = l := bL_list l
  unfold numP
  cases h : Lib.atoiAll l with
  | ok v =>
    refine (Tryz.strconv_Atoi_ok (bL l) (by omega) v (by rw [d]; exact h) w).mono ?_
    rintro e w' ⟨rfl, hw⟩
    refine ⟨⟨_, Or.inl rfl, rfl⟩, ?_⟩
    rcases hw with rfl | ⟨t, rfl⟩
    · exact Below.refl _ _
    · exact Lib.bytesWorld_below _ _ _
  | «syntax» =>
    obtain ⟨⟨tp, p, hv⟩, _⟩ := hE
    refine (Tryz.strconv_Atoi_syntax_var (bL l) (by omega) (by rw [d]; exact h) tp p w hv).mono ?_
    rintro e w' ⟨N, rfl, _, _, hB⟩
    exact ⟨⟨_, Or.inr ⟨N, rfl⟩, rfl⟩, hB⟩
  | range =>
    obtain ⟨_, tp, p, hv⟩ := hE
    refine (Tryz.strconv_Atoi_range_var (bL l) (by omega) (by rw [d]; exact h) tp p w hv).mono ?_
    rintro e w' ⟨N, rfl, _, _, hB⟩
    exact ⟨⟨_, Or.inr ⟨N, rfl⟩, by rw [d]⟩, hB⟩
theorem inst_trim (l : List UInt8) (w : World) :
    Calls Tryz.prog 34 #[.string (bL l), .string ⟨#[114]⟩] w fun e w' => e = .returned (.string (bL (Lib.trimPrefix l [114]))) ∧ w' = w := by
  have h := Tryz.strings_TrimPrefix (bL l) ⟨#[114]⟩ w
  rw [bL_list] at h
  exact h
end Go.Proofs.YtfafkijcejbcpaaGreatDoor
