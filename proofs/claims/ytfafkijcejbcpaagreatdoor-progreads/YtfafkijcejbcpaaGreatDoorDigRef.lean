/- The document's own Digits: a number as its digits, for whatever number; it turns nothing that was in memory. -/
import Derived.Test.YtfafkijcejbcpaaGreatDoorRows
import Derived.Test.YtfafkijcejbcpaaGreatDoorBits
import Derived.Test.YtfafkijcejbcpaaGreatDoorKeyPure
import Derived.Test.YtfafkijcejbcpaaGreatDoorCellPure
import Derived.Test.YtfafkijcejbcpaaGreatDoorCellBytes
import Derived.WalkKit
import Derived.ProofKit
namespace Go.Proofs.YtfafkijcejbcpaaGreatDoor
open Go.ChangeShapes Go.WideShapes Go.ChangeAt Go.RowKit

/-- The digits of a number, by so many steps at most. -/
def natD : Nat → Nat → List UInt8
  | 0, _ => []
  | f + 1, n => if n < 10 then [b8 (48 + (n : Int))] else natD f (n / 10) ++ [b8 (48 + ((n % 10 : Nat) : Int))]
theorem natD_len : ∀ (f n : Nat), (natD f n).length ≤ f
  | 0, _ => by simp [natD]
  | f + 1, n => by
    unfold natD
    split
    · simp
    · have := natD_len f (n / 10)
      simp; omega
theorem natD_fuel : ∀ (f g n : Nat), n < 10 ^ f → 1 ≤ f → f ≤ g → natD f n = natD g n
  | 0, _, _, _, h, _ => by omega
  | f + 1, 0, _, _, _, h => by omega
  | f + 1, g + 1, n, h, _, hg => by
    unfold natD
    by_cases hn : n < 10
    · rw [if_pos hn, if_pos hn]
    · rw [if_neg hn, if_neg hn]
      have hf : 1 ≤ f := by
        rcases Nat.eq_zero_or_pos f with h0 | h0
        · subst h0; simp at h; omega
        · exact h0
      rw [natD_fuel f g (n / 10) (by rw [Nat.pow_succ] at h; omega) hf (by omega)]
/-- The digits of a number that is not below nought. -/
def dg (n : Nat) : List UInt8 := natD 20 n
theorem dg_low {n : Nat} (h : n < 10) : dg n = [b8 (48 + (n : Int))] := by unfold dg natD; rw [if_pos h]
theorem dg_high {n : Nat} (h : ¬ n < 10) (hn : n < 10 ^ 20) : dg n = dg (n / 10) ++ [b8 (48 + ((n % 10 : Nat) : Int))] := by
  have e : natD 20 n = natD 19 (n / 10) ++ [b8 (48 + ((n % 10 : Nat) : Int))] := by
    show (if n < 10 then [b8 (48 + (n : Int))] else natD 19 (n / 10) ++ [b8 (48 + ((n % 10 : Nat) : Int))]) = _
    rw [if_neg h]
  unfold dg
  rw [e, natD_fuel 19 20 (n / 10) (by omega) (by decide) (by decide)]
theorem dg_len (n : Nat) : (dg n).length ≤ 20 := natD_len 20 n
def dgB (n : Nat) : ByteArray := ⟨(dg n).toArray⟩
theorem dgB_size (n : Nat) : (dgB n).size ≤ 20 := by
  have h := dg_len n
  show (dg n).toArray.size ≤ 20
  simpa using h
theorem dgB_high {n : Nat} (h : ¬ n < 10) (hn : n < 10 ^ 20) : dgB (n / 10) ++ ⟨#[b8 (48 + ((n % 10 : Nat) : Int))]⟩ = dgB n := by
  unfold dgB
  rw [dg_high h hn]
  exact ByteArray.mk_append_mk (dg (n / 10)) [b8 (48 + ((n % 10 : Nat) : Int))]
theorem dgB_low {n : Nat} (h : n < 10) : (⟨#[b8 (48 + (n : Int))]⟩ : ByteArray) = dgB n := by unfold dgB; rw [dg_low h]
theorem ref_digits_nat : ∀ (f n : Nat) (w : World), n < 10 ^ f → f ≤ 18 →
    Calls Tryz.prog 51 #[.int .i64 (n : Int)] w fun e w' => e = .returned (.string (dgB n)) ∧ Below w.heap.size w w'
  | 0, n, w, h, hf => by
    obtain rfl : n = 0 := by simp at h; omega
    have hl := dgB_low (n := 0) (by decide)
    go_enter Tryz.func51, Tryz.ntmps51
    go_wp2_with (go_at_call 69; refine (ref_chr _ _).mono ?_; rintro e w1 ⟨rfl, hb1⟩)
    go_ret
    exact ⟨by rw [← hl]; rfl, hb1⟩
  | f + 1, n, w, h, hf => by
    have h18 : n < 10 ^ 18 := Nat.lt_of_lt_of_le h (Nat.pow_le_pow_right (by decide) (by omega))
    have hI : (n : Int) ≤ 1000000000000000000 := by omega
    by_cases hn : n < 10
    · have hl := dgB_low hn
      have hnI : (n : Int) < 10 := by omega
      go_enter Tryz.func51, Tryz.ntmps51
      go_wp2_with (go_at_call 69; refine (ref_chr _ _).mono ?_; rintro e w1 ⟨rfl, hb1⟩)
      go_ret
      exact ⟨by rw [← hl]; rfl, hb1⟩
    · have ih := fun w => ref_digits_nat f (n / 10) w (by rw [Nat.pow_succ] at h; omega) (by omega)
      have hh := dgB_high hn (Nat.lt_of_lt_of_le h18 (Nat.pow_le_pow_right (by decide) (by decide)))
      have hz := dgB_size (n / 10)
      have hnI : ¬ (n : Int) < 10 := by omega
      have e1 : (n : Int).tdiv 10 = ((n / 10 : Nat) : Int) := by rw [Int.tdiv_eq_ediv_of_nonneg (Int.natCast_nonneg n)]; rfl
      have e2 : (n : Int).tmod 10 = ((n % 10 : Nat) : Int) := by rw [Int.tmod_eq_emod_of_nonneg (Int.natCast_nonneg n)]; rfl
      obtain ⟨d, hd⟩ : ∃ d, n % 10 = d := ⟨_, rfl⟩
      obtain ⟨p, hp⟩ : ∃ p, n / 10 = p := ⟨_, rfl⟩
      rw [hd] at e2 hh
      rw [hp] at e1 hh ih hz
      have hd9 : d < 10 := by omega
      have e3 : (n : Int) / 10 = (p : Int) := by omega
      have e4 : (n : Int) % 10 = (d : Int) := by omega
      clear hd hp
      go_enter Tryz.func51, Tryz.ntmps51
      go_wp2_with (first | (go_at_call 51; refine (ih _).mono ?_; rintro e w1 ⟨rfl, hb1⟩) | (go_at_call 69; refine (ref_chr _ _).mono ?_; rintro e w2 ⟨rfl, hb2⟩))
      go_ret
      exact ⟨rfl, Below.step0 hb1 hb2⟩
theorem tmod_neg10 (n : Nat) : (-(n : Int)).tmod 10 = -((n % 10 : Nat) : Int) := by
  rw [Int.neg_tmod, Int.tmod_eq_emod_of_nonneg (Int.natCast_nonneg n)]; rfl
theorem tdiv_neg10 (n : Nat) : (-(n : Int)).tdiv 10 = -((n / 10 : Nat) : Int) := by
  rw [Int.neg_tdiv, Int.tdiv_eq_ediv_of_nonneg (Int.natCast_nonneg n)]; rfl
/-- The digits of whatever number. -/
def dgI (n : Int) : ByteArray := if n < 0 then ⟨#[45]⟩ ++ dgB n.natAbs else dgB n.natAbs
set_option maxHeartbeats 1000000 in
theorem ref_digits_neg (N : Nat) (w : World) (h0 : 0 < N) (hN : N ≤ 1000000000000000) :
    Calls Tryz.prog 51 #[.int .i64 (-(N : Int))] w fun e w' => e = .returned (.string (⟨#[45]⟩ ++ dgB N)) ∧ Below w.heap.size w w' := by
  have hI : -(N : Int) < 0 := by omega
  have hz := dgB_size N
  go_enter Tryz.func51, Tryz.ntmps51
  go_wp2
  go_loopw [0, 3] (fun a s wr => ∃ (M : Nat) (sf : List UInt8), a = .int .i64 (-(M : Int)) ∧ s = .string ⟨sf.toArray⟩ ∧ (M = 0 → dg N = sf) ∧ (0 < M → dg N = dg M ++ sf) ∧ M ≤ N ∧ Below w.heap.size w wr) (fun a _ _ => (intOf a).natAbs)
  case atStart => exact ⟨N, [], rfl, rfl, fun h => by omega, fun _ => by simp, Nat.le_refl _, Below.refl _ _⟩
  case round =>
    obtain ⟨M, sf, rfl, rfl, hq0, hq1, hM, hB⟩ := hrel
    by_cases hm : 0 < M
    · have hd := hq1 hm
      have hMI : -(M : Int) < 0 := by omega
      have e1 := tmod_neg10 M
      have e2 := tdiv_neg10 M
      have hlen : sf.length ≤ 20 := by
        have h1 := dg_len N
        rw [hd, List.length_append] at h1
        omega
      have hz1 : (⟨sf.toArray⟩ : ByteArray).size ≤ 20 := by show sf.toArray.size ≤ 20; simpa using hlen
      have hadd : (⟨#[b8 (48 + ((M % 10 : Nat) : Int))]⟩ : ByteArray) ++ ⟨sf.toArray⟩ = ⟨(b8 (48 + ((M % 10 : Nat) : Int)) :: sf).toArray⟩ := ByteArray.mk_append_mk [b8 (48 + ((M % 10 : Nat) : Int))] sf
      have hn0 : M / 10 = 0 → dg N = b8 (48 + ((M % 10 : Nat) : Int)) :: sf := by
        intro h
        have hm10 : M < 10 := by omega
        rw [hd, dg_low hm10, show M % 10 = M by omega]
        rfl
      have hn1 : 0 < M / 10 → dg N = dg (M / 10) ++ (b8 (48 + ((M % 10 : Nat) : Int)) :: sf) := by
        intro h
        rw [hd, dg_high (n := M) (by omega) (by omega), List.append_assoc]
        rfl
      obtain ⟨d, hdd⟩ : ∃ d, M % 10 = d := ⟨_, rfl⟩
      obtain ⟨p, hp⟩ : ∃ p, M / 10 = p := ⟨_, rfl⟩
      rw [hdd] at e1 hadd hn0 hn1
      rw [hp] at e2 hn0 hn1
      have hd9 : (d : Int) < 10 := by omega
      have hpM : p < M := by omega
      obtain ⟨S0, hS0⟩ : ∃ S : ByteArray, (⟨sf.toArray⟩ : ByteArray) = S := ⟨_, rfl⟩
      have HN0 : Hid (p = 0 → dg N = b8 (48 + (d : Int)) :: sf) := hn0
      have HN1 : Hid (0 < p → dg N = dg p ++ (b8 (48 + (d : Int)) :: sf)) := hn1
      obtain ⟨S1, hS1⟩ : ∃ S : ByteArray, (⟨(b8 (48 + (d : Int)) :: sf).toArray⟩ : ByteArray) = S := ⟨_, rfl⟩
      have HS1 : Hid ((⟨(b8 (48 + (d : Int)) :: sf).toArray⟩ : ByteArray) = S1) := hS1
      rw [hS0, hS1] at hadd
      rw [hS0] at hz1
      rw [hS0]
      have e5 : (48 : Int) - -(d : Int) = 48 + (d : Int) := by omega
      clear hdd hp hn0 hn1 hq0 hq1 hd hlen hS0 hS1
      go_wp2_with (go_at_call 69; refine (ref_chr _ _).mono ?_; rintro e w1 ⟨rfl, hbb⟩)
      go_roundw
      case rel => exact ⟨p, b8 (48 + (d : Int)) :: sf, rfl, by rw [HS1.out], HN0.out, HN1.out, by omega, Below.step0 hB hbb⟩
      case measure => simp [intOf]; omega
    · obtain rfl : M = 0 := by omega
      have hfin : (⟨sf.toArray⟩ : ByteArray) = dgB N := by unfold dgB; rw [hq0 rfl]
      rw [hfin]
      clear hfin hq0 hq1
      go_wp2
      go_ret
      exact ⟨rfl, hB⟩
theorem ref_digits (n : Int) (w : World) (hn : -1000000000000000 ≤ n ∧ n ≤ 1000000000000000) :
    Calls Tryz.prog 51 #[.int .i64 n] w fun e w' => e = .returned (.string (dgI n)) ∧ Below w.heap.size w w' := by
  unfold dgI
  by_cases h : n < 0
  · rw [if_pos h]
    obtain ⟨N, rfl⟩ : ∃ N : Nat, n = -(N : Int) := ⟨n.natAbs, by omega⟩
    have e : (-(N : Int)).natAbs = N := by omega
    rw [e]
    exact ref_digits_neg N w (by omega) (by omega)
  · rw [if_neg h]
    obtain ⟨N, rfl⟩ := Int.eq_ofNat_of_zero_le (show 0 ≤ n by omega)
    have e : ((N : Int)).natAbs = N := by omega
    rw [e]
    exact ref_digits_nat 16 N w (by omega) (by decide)
end Go.Proofs.YtfafkijcejbcpaaGreatDoor
