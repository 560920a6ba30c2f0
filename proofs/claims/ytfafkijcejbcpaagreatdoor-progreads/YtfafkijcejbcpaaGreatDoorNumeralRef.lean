/- The document's own Numeral: the number that is told so, of those from low to high; it turns nothing that was in memory. -/
import Derived.Test.YtfafkijcejbcpaaGreatDoorRows
import Derived.Test.YtfafkijcejbcpaaGreatDoorKeyPure
import Derived.Test.YtfafkijcejbcpaaGreatDoorShelf
import Derived.Test.YtfafkijcejbcpaaGreatDoorTextPure
import Derived.Test.YtfafkijcejbcpaaGreatDoorParsePure
import Derived.Test.YtfafkijcejbcpaaGreatDoorInstOp
import Derived.Test.YtfafkijcejbcpaaGreatDoorInstCut
import Derived.Test.YtfafkijcejbcpaaGreatDoorDig2
import Derived.WalkKit
import Derived.ProofKit
import Derived.Laws.Closers25
import Derived.Lib.ConvBytes
import Derived.Lib.AtoiErrMem
namespace Go.Proofs.YtfafkijcejbcpaaGreatDoor
open Go.ChangeShapes Go.WideShapes Go.ChangeAt Go.RowKit
set_option linter.unusedSimpArgs false

/-- Digits as a number, behind what has been read. -/
def digV : List UInt8 → Nat → Option Nat
  | [], acc => some acc
  | c :: t, acc => if 48 ≤ c.toNat ∧ c.toNat ≤ 57 then digV t (10 * acc + (c.toNat - 48)) else none
def numW (s : List UInt8) (n lo hi : Int) : Int × Bool := (n, decide (Lib.itoa n = s) && decide (lo ≤ n) && decide (n ≤ hi))
def numT (neg : Bool) (s t : List UInt8) (lo hi : Int) : Int × Bool :=
  if t = [] ∨ 12 < t.length then (0, false)
  else match digV t 0 with
    | none => (0, false)
    | some v => numW s (if neg = true then -(v : Int) else (v : Int)) lo hi
/-- What Numeral answers. -/
def numV (s : List UInt8) (lo hi : Int) : Int × Bool := if ([45] : List UInt8).isPrefixOf s = true then numT true s (s.drop 1) lo hi else numT false s s lo hi
theorem digV_app : ∀ (l m : List UInt8) (acc v : Nat), digV l acc = some v → digV (l ++ m) acc = digV m v
  | [], m, acc, v, h => by
    simp only [digV, Option.some.injEq] at h
    subst h
    rfl
  | c :: l, m, acc, v, h => by
    rw [List.cons_append, digV]
    rw [digV] at h
    split at h
    · rename_i hc
      rw [if_pos hc]
      exact digV_app l m _ v h
    · cases h
theorem digV_dec (u : Nat) : digV (Lib.decDigits u) 0 = some u := by
  induction u using Nat.strongRecOn with
  | _ u ih =>
    by_cases h : u < 10
    · rw [Lib.decDigits, dif_pos h, digV, if_pos (by rw [dig_toNat u h]; omega), dig_toNat u h]
      show some (10 * 0 + (48 + u - 48)) = some u
      congr 1
      omega
    · rw [Lib.decDigits, dif_neg h, digV_app _ _ _ _ (ih (u / 10) (by omega)), digV, if_pos (by rw [dig_toNat _ (by omega)]; omega), dig_toNat _ (by omega)]
      show some (10 * (u / 10) + (48 + u % 10 - 48)) = some u
      congr 1
      omega
theorem dec_len12 (u : Nat) (hu : u < 1000000000000) : (Lib.decDigits u).length ≤ 12 := by
  have : ∀ (k u : Nat), u < 10 ^ (k + 1) → (Lib.decDigits u).length ≤ k + 1 := by
    intro k
    induction k with
    | zero =>
      intro u h
      rw [Lib.decDigits, dif_pos (by simpa using h)]
      simp
    | succ k ih =>
      intro u h
      rw [Lib.decDigits]
      split
      · simp
      · have := ih (u / 10) (by rw [Nat.pow_succ] at h; omega)
        simp; omega
  exact this 11 u (by simpa using hu)
theorem numV_itoa {n lo hi : Int} (h : lo ≤ n ∧ n ≤ hi) (hb : -1000000000000 < n ∧ n < 1000000000000) : numV (Lib.itoa n) lo hi = (n, true) := by
  have hw : ∀ x : Int, x = n → numW (Lib.itoa n) x lo hi = (n, true) := fun x e => by
    subst e
    unfold numW
    rw [decide_eq_true rfl, decide_eq_true h.1, decide_eq_true h.2]
    rfl
  unfold numV
  by_cases hn : n < 0
  · have e : Lib.itoa n = 45 :: Lib.decDigits n.natAbs := by unfold Lib.itoa; rw [if_pos hn]
    rw [if_pos (by rw [e]; rfl)]
    have e2 : (Lib.itoa n).drop 1 = Lib.decDigits n.natAbs := by rw [e]; rfl
    unfold numT
    rw [e2, if_neg (fun h => h.elim (dec_ne _) (by have := dec_len12 n.natAbs (by omega); omega)), digV_dec]
    exact hw _ (by simp; omega)
  · have e : Lib.itoa n = Lib.decDigits n.toNat := by unfold Lib.itoa; rw [if_neg hn]
    have hp : ¬ ([45] : List UInt8).isPrefixOf (Lib.itoa n) = true := by
      rw [e]
      intro hp
      obtain ⟨t, ht⟩ := List.isPrefixOf_iff_prefix.1 hp
      have := dec_dig n.toNat 45 (by rw [← ht]; simp)
      revert this
      decide
    rw [if_neg hp]
    unfold numT
    have hl := dec_len12 n.toNat (by omega)
    have hne := dec_ne n.toNat
    have hd := digV_dec n.toNat
    rw [← e] at hl hne hd
    rw [if_neg (fun h => h.elim hne (by omega)), hd]
    exact hw _ (by simp; omega)
theorem numT_some {neg : Bool} {s t : List UInt8} {lo hi : Int} (h : (numT neg s t lo hi).2 = true) : Lib.itoa (numT neg s t lo hi).1 = s ∧ lo ≤ (numT neg s t lo hi).1 ∧ (numT neg s t lo hi).1 ≤ hi := by
  unfold numT at h ⊢
  split at h
  · cases h
  · rename_i h0
    rw [if_neg h0]
    split at h
    · cases h
    · rename_i v hv
      unfold numW at h
      simp only [Bool.and_eq_true, decide_eq_true_eq] at h
      exact ⟨h.1.1, h.1.2, h.2⟩
theorem drop_c {xs : List UInt8} {k : Nat} (h : k < xs.length) : xs.drop k = xs.getD k 0 :: xs.drop (k + 1) := by
  rw [List.drop_eq_getElem_cons h, List.getD_eq_getElem?_getD, List.getElem?_eq_getElem h]
  rfl
theorem numV_some {s : List UInt8} {lo hi : Int} (h : (numV s lo hi).2 = true) : Lib.itoa (numV s lo hi).1 = s ∧ lo ≤ (numV s lo hi).1 ∧ (numV s lo hi).1 ≤ hi := by
  unfold numV at h ⊢
  split at h
  · rename_i h0; rw [if_pos h0]; exact numT_some h
  · rename_i h0; rw [if_neg h0]; exact numT_some h

set_option maxRecDepth 100000 in
set_option maxHeartbeats 4000000 in
theorem numeral_pos (t : List UInt8) (lo hi : Int) (w : World) (hl : t.length ≤ 140737488355328) (hs : ([45] : List UInt8).isPrefixOf t = false) :
    Calls Tryz.prog 31 #[.string (bL t), .int .i64 lo, .int .i64 hi] w fun e w' => e = .returned (.tuple #[.int .i64 (numT false t t lo hi).1, .bool (numT false t t lo hi).2]) ∧ Below w.heap.size w w' := by
  have hp := hs
  have zt := hl
  have cP := Tryz.strings_HasPrefix (bL t) ⟨#[45]⟩ w
  rw [bL_list] at cP
  change Calls _ _ _ _ fun e w' => e = .returned (.bool (([45] : List UInt8).isPrefixOf t)) ∧ w' = w at cP
  rw [hp] at cP
  obtain ⟨R, hR⟩ : ∃ R, numT false t t lo hi = R := ⟨_, rfl⟩
  rw [hR]
  have zT : (bL t).size = t.length := bL_size t
  have HR : Hid (numT false t t lo hi = R) := hR
  clear hR hp
  by_cases h0 : t = []
  · have hR0 : R = (0, false) := by rw [← HR.out]; unfold numT; rw [if_pos (Or.inl h0)]
    subst hR0
    have em : (bL t).toList.isEmpty = true := by rw [h0]; rw [← decide_eq_emptyBytes]; exact decide_eq_true rfl
    obtain ⟨T, hT⟩ : ∃ T, bL t = T := ⟨_, rfl⟩
    rw [hT] at cP em ⊢
    clear HR hs h0
    go_enter Tryz.func31, Tryz.ntmps31
    go_wp2_with (go_at_call 30; refine cP.mono ?_; rintro e w' ⟨rfl, hw⟩; replace hw := hw.symm; subst hw)
    go_ret2
    exact ⟨rfl, Below.refl _ _⟩
  · have em : (bL t).toList.isEmpty = false := by
      rw [← decide_eq_emptyBytes]
      exact decide_eq_false (fun h => h0 (bL_inj (h.trans (rfl : ByteArray.empty = bL []))))
    by_cases h12 : 12 < t.length
    · have hR0 : R = (0, false) := by rw [← HR.out]; unfold numT; rw [if_pos (Or.inr h12)]
      subst hR0
      have g12 : (12 : Int) < ((bL t).size : Int) := by omega
      have zz : (bL t).size ≤ 140737488355328 := by omega
      clear zT
      obtain ⟨T, hT⟩ : ∃ T, bL t = T := ⟨_, rfl⟩
      rw [hT] at cP em g12 zz ⊢
      clear HR hs h0 h12
      go_enter Tryz.func31, Tryz.ntmps31
      go_wp2_with (go_at_call 30; refine cP.mono ?_; rintro e w' ⟨rfl, hw⟩; replace hw := hw.symm; subst hw)
      go_ret2
      exact ⟨rfl, Below.refl _ _⟩
    · have g12 : ¬ (12 : Int) < ((bL t).size : Int) := by omega
      have HR1 : Hid ((match digV t 0 with | none => ((0 : Int), false) | some v => numW t (if false = true then -(v : Int) else (v : Int)) lo hi) = R) := by
        have hr := HR.out
        unfold numT at hr
        rw [if_neg (fun h => h.elim h0 h12)] at hr
        exact hr
      have hbs := Lib.bytesWorld_cell w 5 (bL t)
      have HBW : Hid (Below w.heap.size w (Lib.bytesWorld w 5 (bL t))) := Lib.bytesWorld_below w 5 (bL t)
      have HC : Hid (∀ j, j < t.length → (Lib.bytesWorld w 5 (bL t)).cell? ⟨w.heap.size, j, none⟩ = some (.int .u8 ((t.getD j 0).toNat : Int))) := fun j hj => by
        have := hbs j (by omega)
        rw [bL_list] at this
        exact this
      have hcv := Lib.run_convert_string_bytes (P := Tryz.prog) w 9 73 5 (bL t) Tryz.underlying9 Tryz.underlying73 Tryz.underlying5
      have zB := Lib.bytesWorld_size w 5 (bL t)
      obtain ⟨cap, hcap⟩ : ∃ cap, grownCap w (bL t).size 0 5 = cap := ⟨_, rfl⟩
      rw [hcap] at hcv
      clear hbs HR hcap
      generalize Lib.bytesWorld w 5 (bL t) = WB at *
      have tl : t.length ≤ 12 := by omega
      have HSD : Hid (∀ x : Int, (bL (Lib.itoa x) = bL t ↔ Lib.itoa x = t)) := fun x => ⟨bL_inj, fun h => by rw [h]⟩
      have cD := fun n w hn => ref_dig n w hn
      obtain ⟨T, hT⟩ : ∃ T, bL t = T := ⟨_, rfl⟩
      rw [hT] at cP em g12 hcv zT HSD ⊢
      clear hs h0 h12
      go_enter Tryz.func31, Tryz.ntmps31
      go_wp2_with (go_at_call 30; refine cP.mono ?_; rintro e w' ⟨rfl, hw⟩; replace hw := hw.symm; subst hw)
      go_loopw [28, 8] (fun i n wr => ∃ k v : Nat, k ≤ t.length ∧ i = .int .i64 (k : Int) ∧ n = .int .i64 (v : Int) ∧ wr = WB ∧ digV (t.drop k) v = digV t 0 ∧ v < 10 ^ k) (fun i _ _ => t.length - (intOf i).toNat)
      case atStart => exact ⟨0, 0, Nat.zero_le _, rfl, rfl, rfl, rfl, by simp⟩
      case round =>
        obtain ⟨k, v, hk, rfl, rfl, rfl, hd, hv⟩ := hrel
        by_cases hlt : k < t.length
        · have gk : (k : Int) < (t.length : Int) := by omega
          have hc := HC.out k hlt
          rw [drop_c hlt, digV] at hd
          generalize t.getD k 0 = c at hc hd
          have c8 : c.toNat ≤ 255 := by have := c.toNat_lt; omega
          generalize c.toNat = x at hc hd c8
          clear c
          by_cases hg : 48 ≤ x ∧ x ≤ 57
          · rw [if_pos hg] at hd
            have g1 : ¬ (x : Int) < 48 := by omega
            have g2 : ¬ (57 : Int) < (x : Int) := by omega
            have HD : Hid (digV (t.drop (k + 1)) (10 * v + (x - 48)) = digV t 0) := hd
            have hv2 : 10 * v + (x - 48) < 10 ^ (k + 1) := by rw [Nat.pow_succ]; omega
            have HV : Hid (10 * v + (x - 48) < 10 ^ (k + 1)) := hv2
            have hv12 : (v : Int) < 1000000000000 := by
              have h1 : v < 10 ^ 12 := Nat.lt_of_lt_of_le hv (Nat.pow_le_pow_right (by omega) (by omega))
              omega
            have e1 : (((10 * v + (x - 48) : Nat)) : Int) = 10 * (v : Int) + ((x : Int) - 48) := by omega
            have w1 : wrap64 (10 * (v : Int)) = 10 * (v : Int) := by unfold wrap64; omega
            have w2 : wrap64 (10 * (v : Int) + ((x : Int) - 48)) = 10 * (v : Int) + ((x : Int) - 48) := by unfold wrap64; omega
            have HE : Hid ((((10 * v + (x - 48) : Nat)) : Int) = 10 * (v : Int) + ((x : Int) - 48)) := e1
            clear hd hv hv2 e1
            go_wp2
            go_roundw
            case rel => exact ⟨k + 1, _, by omega, rfl, by rw [HE.out], trivial, HD.out, HV.out⟩
            case measure => simp [intOf]; omega
          · rw [if_neg hg] at hd
            have hR0 : R = (0, false) := by rw [← HR1.out, ← hd]
            subst hR0
            clear HR1 hd hv
            by_cases g1 : (x : Int) < 48
            · go_wp2
              go_ret2
              exact ⟨rfl, HBW.out⟩
            · have g2 : (57 : Int) < (x : Int) := by omega
              go_wp2
              go_ret2
              exact ⟨rfl, HBW.out⟩
        · obtain rfl : k = t.length := by omega
          have gk : ¬ (t.length : Int) < (t.length : Int) := by omega
          rw [List.drop_length, digV] at hd
          have hv12 : v < 1000000000000 := Nat.lt_of_lt_of_le hv (Nat.le_trans (Nat.pow_le_pow_right (by omega) tl) (by omega))
          have hR0 : R = numW t (v : Int) lo hi := by rw [← HR1.out, ← hd]; rfl
          clear HR1 hd hv
          unfold numW at hR0
          have cD := cD (v : Int) wr (by omega)
          have zD : (bL (Lib.itoa (v : Int))).size ≤ 21 := by rw [bL_size]; exact itoa_len _ (by omega)
          have hvi : (v : Int) < 1000000000000 := by omega
          have hv0 : 0 ≤ (v : Int) := by omega
          have hmul : (v : Int) * 1 = (v : Int) := by omega
          by_cases q1 : Lib.itoa (v : Int) = t
          · have es := str_same ((HSD.out (v : Int)).2 q1)
            rw [decide_eq_true q1] at hR0
            by_cases q2 : lo ≤ (v : Int)
            · by_cases q3 : (v : Int) ≤ hi
              · rw [decide_eq_true q2, decide_eq_true q3] at hR0
                subst hR0
                clear q1
                generalize bL (Lib.itoa (v : Int)) = D at *
                go_wp2_with (go_at_call 51; refine cD.mono ?_; rintro e w2 ⟨rfl, hbb⟩; have hB2 := HBW.out.trans (hbb.mono HBW.out.size); clear hbb)
                go_ret2
                exact ⟨by first | rfl | simp_all, hB2⟩
              · rw [decide_eq_true q2, decide_eq_false q3] at hR0
                have q3' : ¬ (v : Int) ≤ hi := q3
                subst hR0
                clear q1
                generalize bL (Lib.itoa (v : Int)) = D at *
                go_wp2_with (go_at_call 51; refine cD.mono ?_; rintro e w2 ⟨rfl, hbb⟩; have hB2 := HBW.out.trans (hbb.mono HBW.out.size); clear hbb)
                go_ret2
                exact ⟨by first | rfl | simp_all, hB2⟩
            · rw [decide_eq_false q2] at hR0
              have q2' : decide (lo ≤ (v : Int)) = false := decide_eq_false q2
              clear q2
              subst hR0
              clear q1
              generalize bL (Lib.itoa (v : Int)) = D at *
              go_wp2_with (go_at_call 51; refine cD.mono ?_; rintro e w2 ⟨rfl, hbb⟩; have hB2 := HBW.out.trans (hbb.mono HBW.out.size); clear hbb)
              go_ret2
              exact ⟨by first | rfl | simp_all, hB2⟩
          · have es := str_differ (fun h => q1 ((HSD.out (v : Int)).1 h))
            rw [decide_eq_false q1] at hR0
            subst hR0
            clear q1
            generalize bL (Lib.itoa (v : Int)) = D at *
            go_wp2_with (go_at_call 51; refine cD.mono ?_; rintro e w2 ⟨rfl, hbb⟩; have hB2 := HBW.out.trans (hbb.mono HBW.out.size); clear hbb)
            go_ret2
            exact ⟨by first | rfl | simp_all, hB2⟩

set_option maxRecDepth 100000 in
set_option maxHeartbeats 4000000 in
theorem numeral_neg (s t : List UInt8) (lo hi : Int) (w : World) (hl : s.length ≤ 140737488355328) (hs : s = 45 :: t) :
    Calls Tryz.prog 31 #[.string (bL s), .int .i64 lo, .int .i64 hi] w fun e w' => e = .returned (.tuple #[.int .i64 (numT true s t lo hi).1, .bool (numT true s t lo hi).2]) ∧ Below w.heap.size w w' := by
  have hp : ([45] : List UInt8).isPrefixOf s = true := by rw [hs]; rfl
  have zt : t.length ≤ 140737488355328 := by rw [hs] at hl; simp at hl; omega
  have ex : (bL s).extract 1 (bL s).size = bL t := by rw [bL_drop, hs]; rfl
  have z1 : 1 ≤ (bL s).size := by rw [bL_size, hs]; simp
  have z2 : (bL s).size ≤ 140737488355328 := by rw [bL_size]; exact hl
  have cP := Tryz.strings_HasPrefix (bL s) ⟨#[45]⟩ w
  rw [bL_list] at cP
  change Calls _ _ _ _ fun e w' => e = .returned (.bool (([45] : List UInt8).isPrefixOf s)) ∧ w' = w at cP
  rw [hp] at cP
  obtain ⟨R, hR⟩ : ∃ R, numT true s t lo hi = R := ⟨_, rfl⟩
  rw [hR]
  have zT : (bL t).size = t.length := bL_size t
  have HR : Hid (numT true s t lo hi = R) := hR
  clear hR hp
  by_cases h0 : t = []
  · have hR0 : R = (0, false) := by rw [← HR.out]; unfold numT; rw [if_pos (Or.inl h0)]
    subst hR0
    have em : (bL t).toList.isEmpty = true := by rw [h0]; rw [← decide_eq_emptyBytes]; exact decide_eq_true rfl
    obtain ⟨T, hT⟩ : ∃ T, bL t = T := ⟨_, rfl⟩
    rw [hT] at ex em
    obtain ⟨S, hSS⟩ : ∃ S, bL s = S := ⟨_, rfl⟩
    rw [hSS] at cP ex z1 z2 ⊢
    clear HR hs h0
    go_enter Tryz.func31, Tryz.ntmps31
    go_wp2_with (go_at_call 30; refine cP.mono ?_; rintro e w' ⟨rfl, hw⟩; replace hw := hw.symm; subst hw)
    go_region
    all_goals go_wp2
    go_ret2
    exact ⟨rfl, (Below.refl _ _).drew⟩
  · have em : (bL t).toList.isEmpty = false := by
      rw [← decide_eq_emptyBytes]
      exact decide_eq_false (fun h => h0 (bL_inj (h.trans (rfl : ByteArray.empty = bL []))))
    by_cases h12 : 12 < t.length
    · have hR0 : R = (0, false) := by rw [← HR.out]; unfold numT; rw [if_pos (Or.inr h12)]
      subst hR0
      have g12 : (12 : Int) < ((bL t).size : Int) := by omega
      have zz : (bL t).size ≤ 140737488355328 := by omega
      clear zT
      obtain ⟨T, hT⟩ : ∃ T, bL t = T := ⟨_, rfl⟩
      rw [hT] at ex em g12 zz
      obtain ⟨S, hSS⟩ : ∃ S, bL s = S := ⟨_, rfl⟩
      rw [hSS] at cP ex z1 z2 ⊢
      clear HR hs h0 h12
      go_enter Tryz.func31, Tryz.ntmps31
      go_wp2_with (go_at_call 30; refine cP.mono ?_; rintro e w' ⟨rfl, hw⟩; replace hw := hw.symm; subst hw)
      go_region
      all_goals go_wp2
      go_ret2
      exact ⟨rfl, (Below.refl _ _).drew⟩
    · have g12 : ¬ (12 : Int) < ((bL t).size : Int) := by omega
      have HR1 : Hid ((match digV t 0 with | none => ((0 : Int), false) | some v => numW s (if true = true then -(v : Int) else (v : Int)) lo hi) = R) := by
        have hr := HR.out
        unfold numT at hr
        rw [if_neg (fun h => h.elim h0 h12)] at hr
        exact hr
      have hbs := Lib.bytesWorld_cell w.drew 5 (bL t)
      have HBW : Hid (Below w.heap.size w (Lib.bytesWorld w.drew 5 (bL t))) := (Below.refl _ _).drew.trans (Lib.bytesWorld_below w.drew 5 (bL t))
      have HC : Hid (∀ j, j < t.length → (Lib.bytesWorld w.drew 5 (bL t)).cell? ⟨w.heap.size, j, none⟩ = some (.int .u8 ((t.getD j 0).toNat : Int))) := fun j hj => by
        have := hbs j (by omega)
        rw [bL_list] at this
        exact this
      have hcv := Lib.run_convert_string_bytes (P := Tryz.prog) w.drew 9 73 5 (bL t) Tryz.underlying9 Tryz.underlying73 Tryz.underlying5
      have zB := Lib.bytesWorld_size w.drew 5 (bL t)
      obtain ⟨cap, hcap⟩ : ∃ cap, grownCap w.drew (bL t).size 0 5 = cap := ⟨_, rfl⟩
      rw [hcap] at hcv
      clear hbs HR hcap
      generalize Lib.bytesWorld w.drew 5 (bL t) = WB at *
      have tl : t.length ≤ 12 := by omega
      have HSD : Hid (∀ x : Int, (bL (Lib.itoa x) = bL s ↔ Lib.itoa x = s)) := fun x => ⟨bL_inj, fun h => by rw [h]⟩
      have cD := fun n w hn => ref_dig n w hn
      obtain ⟨T, hT⟩ : ∃ T, bL t = T := ⟨_, rfl⟩
      rw [hT] at ex em g12 hcv zT
      obtain ⟨S, hSS⟩ : ∃ S, bL s = S := ⟨_, rfl⟩
      rw [hSS] at cP ex z1 z2 HSD ⊢
      clear hs h0 h12
      go_enter Tryz.func31, Tryz.ntmps31
      go_wp2_with (go_at_call 30; refine cP.mono ?_; rintro e w' ⟨rfl, hw⟩; replace hw := hw.symm; subst hw)
      go_region
      all_goals go_wp2
      go_loopw [28, 8] (fun i n wr => ∃ k v : Nat, k ≤ t.length ∧ i = .int .i64 (k : Int) ∧ n = .int .i64 (v : Int) ∧ wr = WB ∧ digV (t.drop k) v = digV t 0 ∧ v < 10 ^ k) (fun i _ _ => t.length - (intOf i).toNat)
      case atStart => exact ⟨0, 0, Nat.zero_le _, rfl, rfl, rfl, rfl, by simp⟩
      case round =>
        obtain ⟨k, v, hk, rfl, rfl, rfl, hd, hv⟩ := hrel
        by_cases hlt : k < t.length
        · have gk : (k : Int) < (t.length : Int) := by omega
          have hc := HC.out k hlt
          rw [drop_c hlt, digV] at hd
          generalize t.getD k 0 = c at hc hd
          have c8 : c.toNat ≤ 255 := by have := c.toNat_lt; omega
          generalize c.toNat = x at hc hd c8
          clear c
          by_cases hg : 48 ≤ x ∧ x ≤ 57
          · rw [if_pos hg] at hd
            have g1 : ¬ (x : Int) < 48 := by omega
            have g2 : ¬ (57 : Int) < (x : Int) := by omega
            have HD : Hid (digV (t.drop (k + 1)) (10 * v + (x - 48)) = digV t 0) := hd
            have hv2 : 10 * v + (x - 48) < 10 ^ (k + 1) := by rw [Nat.pow_succ]; omega
            have HV : Hid (10 * v + (x - 48) < 10 ^ (k + 1)) := hv2
            have hv12 : (v : Int) < 1000000000000 := by
              have h1 : v < 10 ^ 12 := Nat.lt_of_lt_of_le hv (Nat.pow_le_pow_right (by omega) (by omega))
              omega
            have e1 : (((10 * v + (x - 48) : Nat)) : Int) = 10 * (v : Int) + ((x : Int) - 48) := by omega
            have w1 : wrap64 (10 * (v : Int)) = 10 * (v : Int) := by unfold wrap64; omega
            have w2 : wrap64 (10 * (v : Int) + ((x : Int) - 48)) = 10 * (v : Int) + ((x : Int) - 48) := by unfold wrap64; omega
            have HE : Hid ((((10 * v + (x - 48) : Nat)) : Int) = 10 * (v : Int) + ((x : Int) - 48)) := e1
            clear hd hv hv2 e1
            go_wp2
            go_roundw
            case rel => exact ⟨k + 1, _, by omega, rfl, by rw [HE.out], trivial, HD.out, HV.out⟩
            case measure => simp [intOf]; omega
          · rw [if_neg hg] at hd
            have hR0 : R = (0, false) := by rw [← HR1.out, ← hd]
            subst hR0
            clear HR1 hd hv
            by_cases g1 : (x : Int) < 48
            · go_wp2
              go_ret2
              exact ⟨rfl, HBW.out⟩
            · have g2 : (57 : Int) < (x : Int) := by omega
              go_wp2
              go_ret2
              exact ⟨rfl, HBW.out⟩
        · obtain rfl : k = t.length := by omega
          have gk : ¬ (t.length : Int) < (t.length : Int) := by omega
          rw [List.drop_length, digV] at hd
          have hv12 : v < 1000000000000 := Nat.lt_of_lt_of_le hv (Nat.le_trans (Nat.pow_le_pow_right (by omega) tl) (by omega))
          have hR0 : R = numW s (-(v : Int)) lo hi := by rw [← HR1.out, ← hd]; rfl
          clear HR1 hd hv
          unfold numW at hR0
          have cD := cD (-(v : Int)) wr (by omega)
          have zD : (bL (Lib.itoa (-(v : Int)))).size ≤ 21 := by rw [bL_size]; exact itoa_len _ (by omega)
          have hvi : (v : Int) < 1000000000000 := by omega
          have hv0 : 0 ≤ (v : Int) := by omega
          have hmul : (v : Int) * (-1) = (-(v : Int)) := by omega
          by_cases q1 : Lib.itoa (-(v : Int)) = s
          · have es := str_same ((HSD.out (-(v : Int))).2 q1)
            rw [decide_eq_true q1] at hR0
            by_cases q2 : lo ≤ (-(v : Int))
            · by_cases q3 : (-(v : Int)) ≤ hi
              · rw [decide_eq_true q2, decide_eq_true q3] at hR0
                subst hR0
                clear q1
                generalize bL (Lib.itoa (-(v : Int))) = D at *
                go_wp2_with (go_at_call 51; refine cD.mono ?_; rintro e w2 ⟨rfl, hbb⟩; have hB2 := HBW.out.trans (hbb.mono HBW.out.size); clear hbb)
                go_ret2
                exact ⟨by first | rfl | simp_all, hB2⟩
              · rw [decide_eq_true q2, decide_eq_false q3] at hR0
                have q3' : ¬ (-(v : Int)) ≤ hi := q3
                subst hR0
                clear q1
                generalize bL (Lib.itoa (-(v : Int))) = D at *
                go_wp2_with (go_at_call 51; refine cD.mono ?_; rintro e w2 ⟨rfl, hbb⟩; have hB2 := HBW.out.trans (hbb.mono HBW.out.size); clear hbb)
                go_ret2
                exact ⟨by first | rfl | simp_all, hB2⟩
            · rw [decide_eq_false q2] at hR0
              have q2' : decide (lo ≤ (-(v : Int))) = false := decide_eq_false q2
              clear q2
              subst hR0
              clear q1
              generalize bL (Lib.itoa (-(v : Int))) = D at *
              go_wp2_with (go_at_call 51; refine cD.mono ?_; rintro e w2 ⟨rfl, hbb⟩; have hB2 := HBW.out.trans (hbb.mono HBW.out.size); clear hbb)
              go_ret2
              exact ⟨by first | rfl | simp_all, hB2⟩
          · have es := str_differ (fun h => q1 ((HSD.out (-(v : Int))).1 h))
            rw [decide_eq_false q1] at hR0
            subst hR0
            clear q1
            generalize bL (Lib.itoa (-(v : Int))) = D at *
            go_wp2_with (go_at_call 51; refine cD.mono ?_; rintro e w2 ⟨rfl, hbb⟩; have hB2 := HBW.out.trans (hbb.mono HBW.out.size); clear hbb)
            go_ret2
            exact ⟨by first | rfl | simp_all, hB2⟩
theorem ref_numeral (s : List UInt8) (lo hi : Int) (w : World) (hl : s.length ≤ 140737488355328) :
    Calls Tryz.prog 31 #[.string (bL s), .int .i64 lo, .int .i64 hi] w fun e w' => e = .returned (.tuple #[.int .i64 (numV s lo hi).1, .bool (numV s lo hi).2]) ∧ Below w.heap.size w w' := by
  unfold numV
  by_cases hp : ([45] : List UInt8).isPrefixOf s = true
  · rw [if_pos hp]
    obtain ⟨t, ht⟩ := List.isPrefixOf_iff_prefix.1 hp
    have e : s = 45 :: t := ht.symm
    have e2 : s.drop 1 = t := by rw [e]; rfl
    rw [e2]
    exact numeral_neg s t lo hi w hl e
  · rw [if_neg hp]
    exact numeral_pos s lo hi w hl (Bool.eq_false_iff.2 hp)
end Go.Proofs.YtfafkijcejbcpaaGreatDoor
