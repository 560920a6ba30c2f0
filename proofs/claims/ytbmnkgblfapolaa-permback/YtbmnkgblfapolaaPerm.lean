/- The calls of package perm, and the document's own readings of them, answer what chapter 2 says of them, for whatever is handed in; they lay new memory alone. -/
import Derived.Test.YtbmnkgblfapolaaRows
import Derived.Test.YtbmnkgblfapolaaBits
import Derived.Test.YtbmnkgblfapolaaPermPure
import Derived.WalkKit
import Derived.ProofKit
import Derived.OpenShut
import Derived.WalkLawsBesides
import Derived.Lib.OthersKept
import Derived.OneCell
namespace Go.Proofs.Ytbmnkgblfapolaa
open Go.ChangeShapes Go.WideShapes Go.ChangeAt Go.RowKit

theorem permB_in (p : Int) (h : 0 ≤ p ∧ p ≤ 127) (h0 : (p == 0) = false) : toldB p 7 = permB p := by
  have : ¬ p = 0 := by simpa using h0
  unfold toldB permB permL; rw [if_pos h, if_neg this]
theorem permB_zero : permB 0 = ⟨#[45]⟩ := by decide
theorem permB_out (p : Int) (h : ¬ (0 ≤ p ∧ p ≤ 127)) : permB p = ⟨#[]⟩ := by unfold permB; rw [if_neg h]
theorem permE_in (p : Int) (h : 0 ≤ p ∧ p ≤ 127) : permE p = 0 := by unfold permE; rw [if_pos h]
theorem permE_out (p : Int) (h : ¬ (0 ≤ p ∧ p ≤ 127)) : permE p = 1 := by unfold permE; rw [if_neg h]

set_option maxHeartbeats 400000 in
theorem text_loop (p : Int) (w : World) (hp1 : 0 ≤ p) (hp2 : p ≤ 127) (h0 : (p == 0) = false) :
    Calls Try.prog 7 #[.int .i64 p] w fun e w' => e = .returned (.tuple #[.string (toldB p 7), .int .i64 0]) ∧ Grown w w' := by
  go_enter Try.func7, Try.ntmps7
  go_wp2
  go_loopw [4] (fun r w' => ∃ k : Nat, k ≤ 7 ∧ w' = w.iter sgs k ∧ r = .string (toldB p k)) (fun _ w' => 7 - w'.iterPos w.heap.size)
  case atStart => exact ⟨0, Nat.zero_le _, rfl, rfl⟩
  case round =>
    obtain ⟨k, hk, rfl, rfl⟩ := hrel
    by_cases hlt : k < 7
    · have hnx := next_sgs (P := Try.prog) w k hlt
      cases hb : bt p k
      · have hr := bit_no p k (by omega) hb
        go_wp2
        go_roundw
        case rel => exact ⟨k + 1, by omega, rfl, by rw [told_no p k hb]⟩
        case measure => simp; omega
      · have hr := bit_yes p k (by omega) hb
        have hs := told_size p k
        have hadd := told_yes p k hlt hb
        have hes : (Utf8.encode ((sgl k).toNat : Int)).size = 1 := by rw [encode_sgl k hlt]; rfl
        go_wp2
        go_roundw
        case rel => exact ⟨k + 1, by omega, rfl, rfl⟩
        case measure => simp; omega
    · obtain rfl : k = 7 := by omega
      have hnx := next_sgs_end (P := Try.prog) w 7 hlt
      go_wp2
      go_ret2
      exact ⟨rfl, grown_iter (Grown.refl _) _ _⟩
theorem perm_text (p : Int) (w : World) :
    Calls Try.prog 7 #[.int .i64 p] w fun e w' => e = .returned (.tuple #[.string (permB p), .int .i64 (permE p)]) ∧ Grown w w' := by
  by_cases h : 0 ≤ p ∧ p ≤ 127
  · rw [permE_in p h]
    cases h0 : (p == 0)
    · rw [← permB_in p h h0]
      exact text_loop p w h.1 h.2 h0
    · obtain rfl : p = 0 := by simpa using h0
      rw [permB_zero]
      go_enter Try.func7, Try.ntmps7
      go_wp2
      go_ret2
      exact ⟨rfl, Grown.refl _⟩
  · rw [permE_out p h, permB_out p h]
    by_cases h1 : p < 0
    · go_enter Try.func7, Try.ntmps7
      go_wp2
      go_ret2
      exact ⟨rfl, Grown.refl _⟩
    · have h2 : 127 < p := by omega
      clear h
      go_enter Try.func7, Try.ntmps7
      go_wp2
      go_ret2
      exact ⟨rfl, Grown.refl _⟩
theorem ref_outside (n l h : Int) (w : World) :
    Calls Try.prog 14 #[.int .i64 n, .int .i64 l, .int .i64 h] w fun e w' => e = .returned (.bool (decide (n < l ∨ h < n))) ∧ w' = w := by
  by_cases h1 : n < l
  · have e : decide (n < l ∨ h < n) = true := by simp [h1]
    rw [e]
    go_enter Try.func14, Try.ntmps14
    go_wp2
    go_ret
    exact ⟨rfl, rfl⟩
  · by_cases h2 : h < n
    · have e : decide (n < l ∨ h < n) = true := by simp [h2]
      rw [e]
      go_enter Try.func14, Try.ntmps14
      go_wp2
      go_ret
      exact ⟨rfl, rfl⟩
    · have e : decide (n < l ∨ h < n) = false := by simp [h1, h2]
      rw [e]
      go_enter Try.func14, Try.ntmps14
      go_wp2
      go_ret
      exact ⟨rfl, rfl⟩
set_option maxHeartbeats 400000 in
theorem perm_loop (p : Int) (w : World) (hp1 : 0 ≤ p) (hp2 : p ≤ 127) (h0 : (toldB p 7).toList.isEmpty = false) :
    Calls Try.prog 8 #[.int .i64 p] w fun e w' => e = .returned (.tuple #[.string (toldB p 7), .int .i64 0]) ∧ Grown w w' := by
  have hout : decide (p < 0 ∨ 127 < p) = false := decide_eq_false (by omega)
  go_enter Try.func8, Try.ntmps8
  go_wp2_with (go_at_call 14; refine (ref_outside _ _ _ _).mono ?_; rintro e w' ⟨rfl, hw⟩; have hw := hw.symm; subst hw)
  go_loopw [4] (fun r w' => ∃ k : Nat, k ≤ 7 ∧ w' = w.iter sgs k ∧ r = .string (toldB p k)) (fun _ w' => 7 - w'.iterPos w.heap.size)
  case atStart => exact ⟨0, Nat.zero_le _, rfl, rfl⟩
  case round =>
    obtain ⟨k, hk, rfl, rfl⟩ := hrel
    by_cases hlt : k < 7
    · have hnx := next_sgs (P := Try.prog) w k hlt
      cases hb : bt p k
      · have hr := rem_no p k (by omega) hp1 hb
        go_wp2
        go_roundw
        case rel => exact ⟨k + 1, by omega, rfl, by rw [told_no p k hb]⟩
        case measure => simp; omega
      · have hr := rem_yes p k (by omega) hp1 hb
        have hs := told_size p k
        have hadd := told_yes p k hlt hb
        have hes : (Utf8.encode ((sgl k).toNat : Int)).size = 1 := by rw [encode_sgl k hlt]; rfl
        go_wp2
        go_roundw
        case rel => exact ⟨k + 1, by omega, rfl, rfl⟩
        case measure => simp; omega
    · obtain rfl : k = 7 := by omega
      have hnx := next_sgs_end (P := Try.prog) w 7 hlt
      go_wp2
      go_ret2
      exact ⟨rfl, grown_iter (Grown.refl _) _ _⟩
set_option maxHeartbeats 400000 in
theorem perm_zero (w : World) :
    Calls Try.prog 8 #[.int .i64 0] w fun e w' => e = .returned (.tuple #[.string ⟨#[45]⟩, .int .i64 0]) ∧ Grown w w' := by
  have hout : decide ((0 : Int) < 0 ∨ (127 : Int) < 0) = false := by decide
  go_enter Try.func8, Try.ntmps8
  go_wp2_with (go_at_call 14; refine (ref_outside _ _ _ _).mono ?_; rintro e w' ⟨rfl, hw⟩; have hw := hw.symm; subst hw)
  go_loopw [4] (fun r w' => ∃ k : Nat, k ≤ 7 ∧ w' = w.iter sgs k ∧ r = .string ⟨#[]⟩) (fun _ w' => 7 - w'.iterPos w.heap.size)
  case atStart => exact ⟨0, Nat.zero_le _, rfl, rfl⟩
  case round =>
    obtain ⟨k, hk, rfl, rfl⟩ := hrel
    by_cases hlt : k < 7
    · have hnx := next_sgs (P := Try.prog) w k hlt
      have hr := rem_no 0 k (by omega) (by omega) (by rw [bt_eq 0 k (by omega)]; simp)
      go_wp2
      go_roundw
      case rel => exact ⟨k + 1, by omega, rfl, rfl⟩
      case measure => simp; omega
    · obtain rfl : k = 7 := by omega
      have hnx := next_sgs_end (P := Try.prog) w 7 hlt
      go_wp2
      go_ret2
      exact ⟨rfl, grown_iter (Grown.refl _) _ _⟩
theorem told_ne (p : Int) (hp1 : 0 ≤ p) (hp2 : p ≤ 127) (h0 : (p == 0) = false) : (toldB p 7).toList.isEmpty = false := by
  obtain ⟨n, rfl⟩ := Int.eq_ofNat_of_zero_le hp1
  have h := rd_told n (by omega)
  have e : (toldB (n : Int) 7).toList = tl (n : Int) 7 := by unfold toldB; simp
  rw [e]
  cases hl : tl (n : Int) 7 with
  | nil =>
    rw [hl] at h
    simp [rdL] at h
    simp [← h] at h0
  | cons a l => rfl
theorem ref_perm (p : Int) (w : World) :
    Calls Try.prog 8 #[.int .i64 p] w fun e w' => e = .returned (.tuple #[.string (permB p), .int .i64 (permE p)]) ∧ Grown w w' := by
  by_cases h : 0 ≤ p ∧ p ≤ 127
  · rw [permE_in p h]
    cases h0 : (p == 0)
    · rw [← permB_in p h h0]
      exact perm_loop p w h.1 h.2 (told_ne p h.1 h.2 h0)
    · obtain rfl : p = 0 := by simpa using h0
      rw [permB_zero]
      exact perm_zero w
  · rw [permE_out p h, permB_out p h]
    have hout : decide (p < 0 ∨ 127 < p) = true := decide_eq_true (by omega)
    clear h
    go_enter Try.func8, Try.ntmps8
    go_wp2_with (go_at_call 14; refine (ref_outside _ _ _ _).mono ?_; rintro e w' ⟨rfl, hw⟩; have hw := hw.symm; subst hw)
    go_ret2
    exact ⟨rfl, Grown.refl _⟩
theorem permB_list (k : Nat) (h : k < 128) : (permB (k : Int)).toList = permL (k : Int) := by
  unfold permB; rw [if_pos (by omega)]; simp
set_option maxHeartbeats 400000 in
set_option maxRecDepth 1000000 in
theorem ref_permread (s : ByteArray) (w : World) :
    Calls Try.prog 10 #[.string s] w fun e w' => e = .returned (.tuple #[.int .i64 (readN s), .int .i64 (readE s)]) ∧ Grown w w' := by
  go_enter Try.func10, Try.ntmps10
  go_wp2
  go_loopw [7] (fun i wr => ∃ k : Nat, k ≤ 128 ∧ i = .int .i64 k ∧ Grown w wr ∧ ∀ j : Nat, j < k → permL (j : Int) ≠ s.data.toList) (fun i _ => 128 - (intOf i).toNat)
  case atStart => exact ⟨0, Nat.zero_le _, rfl, Grown.refl _, fun j hj => absurd hj (Nat.not_lt_zero _)⟩
  case round =>
    obtain ⟨k, hk, rfl, hg, hall⟩ := hrel
    by_cases hlt : k < 128
    · cases hq : ((permB (k : Int)).toList == s.toList)
      · go_wp2_with (go_at_call 8; refine (ref_perm _ _).mono ?_; rintro e w' ⟨rfl, hg2⟩)
        go_roundw
        case rel =>
          refine ⟨k + 1, by omega, by go_num, grown_trans hg hg2, fun j hj e => ?_⟩
          by_cases ej : j = k
          · subst ej
            rw [permB_list j hlt, ByteArray.toList_eq, e] at hq
            simp at hq
          · exact hall j (by omega) e
        case measure => simp [intOf]; omega
      · have hf : findP s.data.toList = some k := findP_some _ k hlt (by rw [permB_list k hlt, ByteArray.toList_eq] at hq; simpa using hq)
        have e1 : readN s = k := by unfold readN; rw [hf]; rfl
        have e2 : readE s = 0 := by unfold readE; rw [hf]; rfl
        have hret : Hid (Ending.returned (.tuple #[.int .i64 k, .int .i64 0]) = .returned (.tuple #[.int .i64 (readN s), .int .i64 (readE s)])) := by rw [e1, e2]; exact rfl
        clear hall hf e1 e2
        go_wp2_with (go_at_call 8; refine (ref_perm _ _).mono ?_; rintro e w' ⟨rfl, hg2⟩)
        go_ret2
        exact ⟨hret.out, grown_trans hg hg2⟩
    · have hf : findP s.data.toList = none := findP_none _ fun j hj => hall j (by omega)
      have e1 : readN s = 0 := by unfold readN; rw [hf]; rfl
      have e2 : readE s = 3 := by unfold readE; rw [hf]; rfl
      have hret : Hid (Ending.returned (.tuple #[.int .i64 0, .int .i64 3]) = .returned (.tuple #[.int .i64 (readN s), .int .i64 (readE s)])) := by rw [e1, e2]; exact rfl
      clear hall hf e1 e2
      go_wp2
      go_ret2
      exact ⟨hret.out, hg⟩
theorem pow_wrap : ∀ k : Nat, k < 7 → wrap64 ((2 : Int) ^ k) = ((2 ^ k : Nat) : Int) := by decide +kernel
theorem ret_int' {k : IntKind} {a b : Int} (h : a = b) : Ending.returned (.int k a) = .returned (.int k b) := by rw [h]
theorem iter_cell (w : World) (s : ByteArray) (n b o : Nat) (h : b < w.heap.size) : (w.iter s n).cell? ⟨b, o, none⟩ = w.cell? ⟨b, o, none⟩ :=
  World.cell?_of_block (w := w) (Below.heap_alloc _ _ _ h)
theorem iter_frozen (w : World) (s : ByteArray) (n b o : Nat) (h : b < w.heap.size) : (w.iter s n).frozen? ⟨b, o, none⟩ = w.frozen? ⟨b, o, none⟩ :=
  World.frozen?_of_block (w := w) (Below.heap_alloc _ _ _ h)
set_option maxHeartbeats 400000 in
set_option maxRecDepth 1000000 in
theorem take_no (f b : Nat) (r : Int) (w : World) (_hf : f < 8) (hb : b < w.heap.size) (hc : w.cell? ⟨b, 0, none⟩ = some (.int .i64 f)) (hi : idx f r = none) :
    Calls Try.prog 16 #[.int .i32 r, .pointer (some ⟨b, 0, none⟩)] w fun e w' => e = .returned (.int .i64 0) ∧ w' = w.iter sgs 7 := by
  go_enter Try.func16, Try.ntmps16
  go_wp2
  go_loopw [] (fun wr => ∃ k : Nat, k ≤ 7 ∧ wr = w.iter sgs k) (fun wr => 7 - wr.iterPos w.heap.size)
  case atStart => exact ⟨0, Nat.zero_le _, rfl⟩
  case round =>
    obtain ⟨k, hk, rfl⟩ := hrel
    have hcell := (iter_cell w sgs k b 0 hb).trans hc
    have hcell1 := (iter_cell w sgs (k + 1) b 0 hb).trans hc
    by_cases hlt : k < 7
    · have hnx := next_sgs (P := Try.prog) w k hlt
      by_cases hfk : f ≤ k
      · have hq : (((sgl k).toNat : Int) == r) = false := by
          have := idx_none hi k hlt hfk
          simpa using this
        clear hi hc
        go_wp2
        go_roundw
        case rel => exact ⟨k + 1, by omega, rfl⟩
        case measure => simp; omega
      · clear hi hc
        go_wp2
        go_roundw
        case rel => exact ⟨k + 1, by omega, rfl⟩
        case measure => simp; omega
    · obtain rfl : k = 7 := by omega
      have hnx := next_sgs_end (P := Try.prog) w 7 hlt
      clear hi hc
      go_wp2
      go_ret
      exact ⟨rfl, rfl⟩
set_option maxHeartbeats 400000 in
set_option maxRecDepth 1000000 in
theorem take_yes (f b K G : Nat) (r : Int) (w : World) (hG : 2 ^ K = G) (_hf : f < 8) (hb : b < w.heap.size) (hc : w.cell? ⟨b, 0, none⟩ = some (.int .i64 f)) (hz : w.frozen? ⟨b, 0, none⟩ = false) (hi : idx f r = some K) :
    Calls Try.prog 16 #[.int .i32 r, .pointer (some ⟨b, 0, none⟩)] w fun e w' => e = .returned (.int .i64 (G : Int)) ∧ w' = (w.iter sgs (K + 1)).setCell ⟨b, 0, none⟩ (.int .i64 ((K + 1 : Nat) : Int)) := by
  obtain ⟨k7, fk, hr⟩ := idx_some hi
  subst hG
  go_enter Try.func16, Try.ntmps16
  go_wp2
  go_loopw [] (fun wr => ∃ k : Nat, k ≤ K ∧ wr = w.iter sgs k) (fun wr => 7 - wr.iterPos w.heap.size)
  case atStart => exact ⟨0, Nat.zero_le _, rfl⟩
  case round =>
    obtain ⟨k, hk, rfl⟩ := hrel
    have hcell := (iter_cell w sgs k b 0 hb).trans hc
    have hcell1 := (iter_cell w sgs (k + 1) b 0 hb).trans hc
    have hfr1 := (iter_frozen w sgs (k + 1) b 0 hb).trans hz
    have hnx := next_sgs (P := Try.prog) w k (by omega)
    by_cases hlt : k < K
    · have hq : (((sgl k).toNat : Int) == r) = false := by
        have := idx_not_before hi k hlt
        simpa using this
      clear hi hc hr hz
      by_cases hfk : f ≤ k
      · go_wp2
        go_roundw
        case rel => exact ⟨k + 1, by omega, rfl⟩
        case measure => simp; omega
      · go_wp2
        go_roundw
        case rel => exact ⟨k + 1, by omega, rfl⟩
        case measure => simp; omega
    · obtain rfl : k = K := by omega
      have hq : (((sgl k).toNat : Int) == r) = true := by simpa using hr
      clear hi hc hr hz
      go_wp2
      go_ret
      exact ⟨ret_int' (pow_wrap k k7), rfl⟩
theorem taker_any (w : World) : Calls Try.prog 15 #[] w fun e w' => e = .returned (.func (.func 16) #[] #[.pointer (some ⟨w.heap.size, 0, none⟩)]) ∧ w' = w.alloc (.cells #[.int .i64 0] 3) := by
  have hmf : ∀ (fn : Fn) (first cap : Array Value) (w : World), (Instr.makeFunc fn first cap).run Try.prog w = .ok (.func fn first cap) w := fun _ _ _ _ => rfl
  go_enter Try.func15, Try.ntmps15
  go_wp2
  go_ret
  exact ⟨rfl, rfl⟩
/-- What lies where while it reads: which signs are left; how far it is. -/
def RI (w wr : World) (s : ByteArray) (pos f : Nat) : Prop :=
  wr.heap[w.heap.size]? = some (.cells #[.int .i64 f] 3 (0, 0)) ∧ wr.heap[w.heap.size + 1]? = some (.stringIter s pos) ∧ Grown w wr
theorem grown_iterAt {W w : World} (h : Grown W w) {k : Nat} (hk : W.heap.size ≤ k) (s : ByteArray) (p q : Nat) (hi : w.heap[k]? = some (.stringIter s p)) : Grown W (w.iterAt k s q) := by
  obtain ⟨⟨h1, h2, h3⟩, hf, hs⟩ := h
  refine ⟨⟨h1, h2, fun i hi => ?_⟩, fun a => ?_, by rw [Lib.iterAt_size]; exact hs⟩
  · rw [Lib.iterAt_other w k i s q (by omega)]
    exact h3 i hi
  · refine Eq.trans ?_ (hf a)
    by_cases e : a.block = k
    · have e1 : (w.iterAt k s q).heap[a.block]? = some (.stringIter s q) := by rw [e]; exact Lib.iterAt_heap w k s p q hi
      have e2 : w.heap[a.block]? = some (.stringIter s p) := by rw [e]; exact hi
      simp [World.frozen?, e1, e2]
    · exact World.frozen?_of_block (w := w) (Lib.iterAt_other w k a.block s q e)
theorem RI.next {w wr : World} {s : ByteArray} {pos f : Nat} (h : RI w wr s pos f) (q : Nat) : RI w (wr.iterAt (w.heap.size + 1) s q) s q f :=
  ⟨(Lib.iterAt_other _ _ _ _ _ (by omega)).trans h.1, Lib.iterAt_heap _ _ _ _ _ h.2.1, grown_iterAt h.2.2 (by omega) s pos q h.2.1⟩
theorem RI.take {w wr : World} {s : ByteArray} {pos f : Nat} (h : RI w wr s pos f) (n g : Nat) : RI w ((wr.iter sgs n).setCell ⟨w.heap.size, 0, none⟩ (.int .i64 (g : Int))) s pos g := by
  have hs := lt_of_block h.2.1
  have e1 : (wr.iter sgs n).heap[w.heap.size]? = some (.cells #[.int .i64 f] 3 (0, 0)) := (Below.heap_alloc _ _ _ (by omega)).trans h.1
  have e2 : (wr.iter sgs n).heap[w.heap.size + 1]? = some (.stringIter s pos) := (Below.heap_alloc _ _ _ hs).trans h.2.1
  refine ⟨?_, ?_, ?_⟩
  · rw [heap_setCell_same _ _ 0 _ _ _ e1]; rfl
  · rw [Below.heap_setCell _ _ _ _ (by simp)]; exact e2
  · exact (grown_iter h.2.2 _ _).setCell (by simp) _
theorem RI.start (w : World) (s : ByteArray) : RI w ((w.alloc (.cells #[.int .i64 0] 3)).iter s 0) s 0 0 := by
  refine ⟨?_, ?_, grown_iter ((Grown.refl _).alloc _ _) _ _⟩
  · exact (Below.heap_alloc _ _ _ (by simp)).trans (heap_alloc_new _ _)
  · have := World.iter_heap (w.alloc (.cells #[.int .i64 0] 3)) s 0
    simpa using this

theorem rune_at (s : ByteArray) (pos : Nat) (h : pos < s.size) (f : Nat) : (idx f ((Utf8.decode s pos).1 : Int) = idx f ((s[pos]'h).toNat : Int)) ∧ (∀ k, idx f ((s[pos]'h).toNat : Int) = some k → (Utf8.decode s pos).2 = 1) := by
  by_cases ha : (s[pos]'h).toNat < 128
  · rw [decode_ascii s pos h ha]
    exact ⟨rfl, fun _ _ => rfl⟩
  · have hd := (decode_high s pos h (by omega)).1
    have none_of : ∀ r : Int, 128 ≤ r → idx f r = none := by
      intro r hr
      cases hi : idx f r with
      | none => rfl
      | some k =>
        obtain ⟨k7, _, e⟩ := idx_some hi
        have := sgl_small k k7
        omega
    rw [none_of _ (by omega), none_of _ (by omega)]
    exact ⟨rfl, fun _ e => by cases e⟩
theorem drop_at (s : ByteArray) (pos : Nat) (h : pos < s.size) : s.data.toList.drop pos = (s[pos]'h) :: s.data.toList.drop (pos + 1) := by
  have hl : pos < s.data.toList.length := by simpa using h
  rw [List.drop_eq_getElem_cons hl]
  rfl
set_option maxHeartbeats 400000 in
set_option maxRecDepth 1000000 in
theorem read_loop (s : ByteArray) (w : World) (h45 : (s.toList == [45]) = false) :
    Calls Try.prog 9 #[.string s] w fun e w' => e = .returned (.tuple #[.int .i64 (readN s), .int .i64 (readE s)]) ∧ Grown w w' := by
  have hfr : Hid (findP s.data.toList = (rdL 0 0 s.data.toList).bind (fun p => if p = 0 then none else some p)) :=
    find_of_rd _ (by rw [ByteArray.toList_eq] at h45; simpa using h45)
  go_enter Try.func9, Try.ntmps9
  go_wp2_with (go_at_call 15; refine (taker_any _).mono ?_; rintro e w' ⟨rfl, rfl⟩)
  go_loopw [4] (fun v wr => ∃ pos f pv : Nat, f < 8 ∧ pv < 2 ^ f ∧ pv < 128 ∧ v = .int .i64 pv ∧ RI w wr s pos f ∧ rdL 0 0 s.data.toList = rdL f pv (s.data.toList.drop pos)) (fun _ wr => s.size - wr.iterPos (w.heap.size + 1))
  case atStart => exact ⟨0, 0, 0, by omega, by decide, by decide, rfl, RI.start w s, rfl⟩
  case round =>
    obtain ⟨pos, f, pv, hf, hp, hp7, rfl, hri, hrd⟩ := hrel
    have hpos : Hid (wr.iterPos (w.heap.size + 1) = pos) := iterPos_of hri.2.1
    by_cases hlt : pos < s.size
    · have hnx : ∀ ty, (Instr.next (.pointer (some ⟨w.heap.size + 1, 0, none⟩)) true ty).run Try.prog wr = _ := fun ty => Lib.run_next_any_at wr (w.heap.size + 1) s pos ty hri.2.1 hlt
      obtain ⟨hr1, hr2⟩ := rune_at s pos hlt f
      generalize hrune : (Utf8.decode s pos).1 = r at hnx hr1
      generalize hwid : (Utf8.decode s pos).2 = d at hnx hr2
      have hri' := hri.next (pos + d)
      have c1 := cell_of_one hri'.1
      have c2 := free_of_one hri'.1
      have c3 := lt_of_block hri'.1
      have hdr := drop_at s pos hlt
      cases hi : idx f (r : Int) with
      | none =>
        rw [hi] at hr1
        rw [hdr, rdL_no hr1.symm] at hrd
        have hfn : findP s.data.toList = none := by rw [hfr.out, hrd]; rfl
        have e1 : readN s = 0 := by unfold readN; rw [hfn]; rfl
        have e2 : readE s = 3 := by unfold readE; rw [hfn]; rfl
        have hret : Hid (Ending.returned (.tuple #[.int .i64 0, .int .i64 3]) = .returned (.tuple #[.int .i64 (readN s), .int .i64 (readE s)])) := by rw [e1, e2]; exact rfl
        have HI : Hid (idx f (r : Int) = none) := hi
        have HR : Hid (RI w (wr.iterAt (w.heap.size + 1) s (pos + d)) s (pos + d) f) := hri'
        clear hr1 hr2 hrd hdr hfn e1 e2 hfr hi hri hri' hrune hwid h45
        go_wp2_with (go_at_call 16; refine (take_no f w.heap.size (r : Int) _ hf c3 c1 HI.out).mono ?_; rintro e w' ⟨rfl, rfl⟩)
        go_ret2
        exact ⟨hret.out, grown_iter HR.out.2.2 _ _⟩
      | some K =>
        rw [hi] at hr1
        obtain rfl : d = 1 := hr2 K hr1.symm
        rw [hdr, rdL_yes hr1.symm] at hrd
        obtain ⟨k7, fk, _⟩ := idx_some hi
        obtain ⟨G, hG⟩ : ∃ G, 2 ^ K = G := ⟨_, rfl⟩
        have q1 : 2 ^ f ≤ 2 ^ K := Nat.pow_le_pow_right (by decide) fk
        have q2 : 2 ^ (K + 1) = 2 ^ K + 2 ^ K := by rw [Nat.pow_succ]; omega
        have q3 : 2 ^ (K + 1) ≤ 2 ^ 7 := Nat.pow_le_pow_right (by decide) (by omega)
        have q4 : 2 ^ 7 = 128 := by decide
        have hor := or_add K k7 pv hp7 (by omega)
        rw [hG] at q1 q2 hor hrd
        have g0 : 0 < G := by rw [← hG]; exact Nat.pow_pos (by decide)
        have gn : ((G : Int) == 0) = false := by simp; omega
        have HI : Hid (idx f (r : Int) = some K) := hi
        have HG : Hid (2 ^ K = G) := hG
        have HR : Hid (RI w (wr.iterAt (w.heap.size + 1) s (pos + 1)) s (pos + 1) f) := hri'
        have HD : Hid (rdL 0 0 s.data.toList = rdL (K + 1) (pv + G) (s.data.toList.drop (pos + 1))) := hrd
        have HB : Hid (pv + G < 2 ^ (K + 1) ∧ pv + G < 128) := ⟨by omega, by omega⟩
        clear hr1 hr2 hrd hdr hfr hi hri hri' hrune hwid h45 q1 q2 q3 q4 hG hp hp7
        go_wp2_with (go_at_call 16; refine (take_yes f w.heap.size K G (r : Int) _ HG.out hf c3 c1 c2 HI.out).mono ?_; rintro e w' ⟨rfl, rfl⟩)
        go_roundw
        case rel => exact ⟨pos + 1, K + 1, pv + G, by omega, HB.out.1, HB.out.2, rfl, HR.out.take _ _, HD.out⟩
        case measure =>
          have m1 := iterPos_of (HR.out.take (K + 1) (K + 1)).2.1
          have m2 := hpos.out
          have m0 : (K : Int) + 1 = ((K + 1 : Nat) : Int) := by omega
          rw [m0, m1, m2]
          omega
    · have hnx : ∀ ty, (Instr.next (.pointer (some ⟨w.heap.size + 1, 0, none⟩)) true ty).run Try.prog wr = _ := fun ty => Lib.run_next_end_at wr (w.heap.size + 1) s pos ty hri.2.1 hlt
      have hnil : s.data.toList.drop pos = [] := List.drop_eq_nil_of_le (by simp; omega)
      rw [hnil] at hrd
      have hrd' : rdL 0 0 s.data.toList = some pv := hrd
      have hg := hri.2.2
      cases hz : ((pv : Int) == 0)
      · have hne : ¬ pv = 0 := by simp at hz; omega
        have hfn : findP s.data.toList = some pv := by rw [hfr.out, hrd']; show (if pv = 0 then none else some pv) = some pv; rw [if_neg hne]
        have e1 : readN s = pv := by unfold readN; rw [hfn]; rfl
        have e2 : readE s = 0 := by unfold readE; rw [hfn]; rfl
        have hret : Hid (Ending.returned (.tuple #[.int .i64 pv, .int .i64 0]) = .returned (.tuple #[.int .i64 (readN s), .int .i64 (readE s)])) := by rw [e1, e2]; exact rfl
        clear hrd hrd' hnil hfn e1 e2 hfr hri h45 hpos
        go_wp2
        go_ret2
        exact ⟨hret.out, hg⟩
      · have hne : pv = 0 := by simp at hz; omega
        have hfn : findP s.data.toList = none := by rw [hfr.out, hrd']; show (if pv = 0 then none else some pv) = none; rw [if_pos hne]
        have e1 : readN s = 0 := by unfold readN; rw [hfn]; rfl
        have e2 : readE s = 3 := by unfold readE; rw [hfn]; rfl
        have hret : Hid (Ending.returned (.tuple #[.int .i64 0, .int .i64 3]) = .returned (.tuple #[.int .i64 (readN s), .int .i64 (readE s)])) := by rw [e1, e2]; exact rfl
        clear hrd hrd' hnil hfn e1 e2 hfr hri h45 hpos hne
        go_wp2
        go_ret2
        exact ⟨hret.out, hg⟩
theorem perm_read (s : ByteArray) (w : World) :
    Calls Try.prog 9 #[.string s] w fun e w' => e = .returned (.tuple #[.int .i64 (readN s), .int .i64 (readE s)]) ∧ Grown w w' := by
  cases h45 : (s.toList == [45])
  · exact read_loop s w h45
  · have hl : s.data.toList = [45] := by rw [ByteArray.toList_eq] at h45; simpa using h45
    have hfn : findP s.data.toList = some 0 := findP_some _ 0 (by decide) (by rw [hl]; rfl)
    have e1 : readN s = 0 := by unfold readN; rw [hfn]; rfl
    have e2 : readE s = 0 := by unfold readE; rw [hfn]; rfl
    rw [e1, e2]
    clear hl hfn e1 e2
    go_enter Try.func9, Try.ntmps9
    go_wp2
    go_ret2
    exact ⟨rfl, Grown.refl _⟩
end Go.Proofs.Ytbmnkgblfapolaa
