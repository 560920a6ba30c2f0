/- For whatever value, place and byte, the law CellTurned returns true: if one byte is another one it is told; no condition. -/
import Derived.Test.YtilbijocapmjbaaRows
import Derived.Test.YtilbijocapmjbaaKeyArg
import Derived.Test.YtilbijocapmjbaaValArg
import Derived.Test.YtilbijocapmjbaaBits
import Derived.Test.YtilbijocapmjbaaKeyPure
import Derived.Test.YtilbijocapmjbaaKeyChk
import Derived.Test.YtilbijocapmjbaaCellPure
import Derived.Test.YtilbijocapmjbaaCellChk
import Derived.Test.YtilbijocapmjbaaCellPack
import Derived.Test.YtilbijocapmjbaaCellRead
import Derived.Test.YtilbijocapmjbaaCellTurn
import Derived.Test.YtilbijocapmjbaaNum
import Derived.Deep.RegionHeld3
import Derived.WalkKit
import Derived.ProofKit
import Derived.OpenShut
namespace Go.Proofs.Ytilbijocapmjbaa.cellTurned
open Go.ChangeShapes Go.WideShapes Go.ChangeAt Go.RowKit
set_option linter.unusedVariables false
set_option linter.unusedSimpArgs false

theorem own : ownKnob Try.prog.godebug = none := by kernel_rfl

theorem chk1 : chkV false 1 0 0 0 0 0 = 0 := by decide
theorem vb1 : vb 1 0 0 0 0 0 := by unfold vb kb; omega
theorem pack1 : packB false 1 0 0 0 0 0 = ⟨#[0, 128, 0, 0, 1, 0, 0, 0, 0, 129]⟩ := by decide
theorem pack_nil {i : Bool} {n p b l a s : Int} (h : ¬ chkV i n p b l a s = 0) : packB i n p b l a s = ⟨#[]⟩ := by unfold packB; rw [pack_no h]
theorem pack_size {i : Bool} {n p b l a s : Int} (h : chkV i n p b l a s = 0) : (packB i n p b l a s).size = 10 := by
  unfold packB
  rw [pack_yes h]
  show (fullL i n p b l a s).toArray.size = 10
  rw [List.size_toArray, full_len]
theorem conv1 (W : World) (b : Nat) (x : Int) (hx : 0 ≤ x ∧ x ≤ 255) (hc : W.cell? ⟨b, 0, none⟩ = some (.int .u8 x)) : (convert 36 9 (.slice (some ⟨b, 0, none⟩) 1 1)).run Try.prog W = .ok (.string ⟨#[b8 x]⟩) W := by
  refine run_convert_bytes_back (P := Try.prog) W 36 9 5 ⟨b, 0, none⟩ 1 [b8 x] Try.underlying36 Try.underlying5 Try.underlying9 ?_
  intro j hj
  obtain rfl : j = 0 := by simp at hj; omega
  have : ((b8 x).toNat : Int) = x := by rw [b8_nat]; omega
  simpa [Addr.add, this] using hc
/-- What comes of the text. -/
theorem turned (i : Bool) (n p b l a s : Int) (h : chkV i n p b l a s = 0) (k : Nat) (hk : k ≤ 9) (x : Int) (hx : 0 ≤ x ∧ x ≤ 255) (S : ByteArray) (hS : packB i n p b l a s = S) (hs : S.size = 10) :
    ∃ U, readV ((S.extract 0 k ++ ⟨#[b8 x]⟩) ++ S.extract (k + 1) 10) = U ∧ (((S[k].toNat : Int) = x ∧ U.e = 0) ∨ (¬ (S[k].toNat : Int) = x ∧ U.e = 6)) := by
  refine ⟨_, rfl, ?_⟩
  have hl : S.data.toList = fullL i n p b l a s := by rw [← hS]; unfold packB; rw [pack_yes h]
  have h10 : S.data.toList.length = 10 := by simpa using hs
  have hg : S.data.toList.getD k 0 = S[k] := by
    rw [List.getD_eq_getElem?_getD, List.getElem?_eq_getElem (by omega)]
    exact at_data S k (by omega)
  have hb : ((b8 x).toNat : Int) = x := by rw [b8_nat]; omega
  unfold readV
  rw [turn_text S hs k hk]
  by_cases he : S[k] = b8 x
  · left
    refine ⟨by rw [he, hb], ?_⟩
    rw [turn_same _ h10 k hk _ (hg.trans he)]
    have := read_pack i n p b l a s h
    rw [hS] at this
    unfold readV at this
    rw [this]
  · right
    refine ⟨fun e => he (u8_ext (by rw [e, hb])), ?_⟩
    rw [turn_read _ h10 (by rw [hl]; exact full_sum i n p b l a s) k hk _ (by rw [hg]; exact he)]
    rfl

set_option maxHeartbeats 4000000 in
set_option maxRecDepth 1000000 in
theorem walk (a0i : Bool) (a0n a0p a0b a0l a0a a0s : Int) (a1 : Int) (a2 : Int) (V0 : vb a0n a0p a0b a0l a0a a0s) (b1 : -9223372036854775808 ≤ a1 ∧ a1 ≤ 9223372036854775807) (b2 : 0 ≤ a2 ∧ a2 ≤ 255) (w : World) :
    Calls Try.prog 7 #[.agg #[.bool a0i, .int .i64 a0n, .int .i64 a0p, .int .i64 a0b, .int .i64 a0l, .int .i64 a0a, .int .i64 a0s], .int .i64 a1, .int .u8 a2] w fun e w' => e = .returned (.bool true) ∧ Below w.heap.size w w' := by
  by_cases hc0 : chkV a0i a0n a0p a0b a0l a0a a0s = 0
  · obtain ⟨k, hk, hk9⟩ : ∃ k : Nat, a1 % 10 = (k : Int) ∧ k ≤ 9 := ⟨(a1 % 10).toNat, by omega, by omega⟩
    have s0 := pack_size hc0
    obtain ⟨S, hS⟩ : ∃ S, packB a0i a0n a0p a0b a0l a0a a0s = S := ⟨_, rfl⟩
    rw [hS] at s0
    obtain ⟨U, hU, hE⟩ := turned _ _ _ _ _ _ _ hc0 k hk9 a2 b2 S hS s0
    obtain ⟨T1, hT1⟩ : ∃ T, S.extract 0 k ++ ⟨#[b8 a2]⟩ = T := ⟨_, rfl⟩
    obtain ⟨T, hT⟩ : ∃ T, T1 ++ S.extract (k + 1) 10 = T := ⟨_, rfl⟩
    rw [hT1, hT] at hU
    have z0 := ext_size S 0 k (by omega)
    have z2 := ext_size S (k + 1) 10 (by omega)
    have z3 : T1.size = k + 1 := by rw [← hT1, ByteArray.size_append, z0]; rfl
    have z4 : (⟨#[b8 a2]⟩ : ByteArray).size = 1 := rfl
    have cv1 := fun (W : World) (t : TypeId) => conv1 (W.alloc (.cells #[.int .u8 a2] t)).drew W.heap.size a2 b2 (by simp)
    have cv2 := fun (W : World) (x : Obj) (t : TypeId) => conv1 ((W.alloc x).alloc (.cells #[.int .u8 a2] t)).drew (W.heap.size + 1) a2 b2 (by simp)
    have cv3 := fun (W : World) (x : Array Value) (t u : TypeId) => conv1 ((W.alloc (.cells #[.int .u8 a2] t)).alloc (.cells x u)).drew W.heap.size a2 b2 (by simp)
    have hk1 : IntKind.i64.wrap ((k : Int) + 1) = (k : Int) + 1 := by rw [IntKind.wrap_i64]; omega
    have k1 : (k : Int) ≤ 10 := by omega
    have k2 : (k : Int) + 1 ≤ 10 := by omega
    have k3 : (0 : Int) ≤ (k : Int) + 1 := by omega
    have HE : Hid _ := hE
    clear hE
    go_enter Try.func7, Try.ntmps7
    go_wp2_with (first | (go_at_call 16; refine (ref_rest _ _ _ b1 (by omega)).mono ?_; simp only [hk]; rintro e w9 ⟨rfl, rfl⟩) | (go_at_call 9; refine (cell_pack _ _ _ _ _ _ _ _ (by first | exact V0 | exact vb1)).mono ?_; (try simp only [hc0, hS]); (try simp only [chk1, pack1]); rintro e w1 ⟨rfl, hbb⟩; first | (replace B1 := (B1.alloc _).below hbb; have B2 := (Box.new _ _ _).below hbb; clear q1 z1; have q1 := B1.cell; have z1 := B1.lt; have q2 := B2.cell; have z2 := B2.lt; replace hB := Below.step0 (hB.alloc hB.size _) hbb; clear hbb) | (replace B1 := B1.below hbb; clear q1 z1; have q1 := B1.cell; have z1 := B1.lt; replace hB := Below.step0 hB hbb; clear hbb) | (have B1 := (Box.new _ _ _).below hbb; have q1 := B1.cell; have z1 := B1.lt; have hB := Below.step0 ((Below.refl _ _).alloc (Nat.le_refl _) _) hbb; clear hbb)))
    refine wp_region_held_drew (S := fun _ => True) (by kernel_rfl) trivial (fun hHeld => ?_)
    refine wpAnyH_take (i := 0) (v := .string S) rfl (by kernel_rfl) (by kernel_rfl) (by kernel_rfl) (fun _ _ _ h => h) (Or.inl ⟨by rfl, fun w hSw => by go_simp⟩) (by assumption) ?_
    try simp only [Act.put, List.getElem_toArray, List.getElem_cons_zero, List.getElem_cons_succ, List.setIfInBounds_toArray, List.set_cons_zero, List.set_cons_succ]
    refine wpAnyH_take (i := 1) (v := .int .i64 k) rfl (by kernel_rfl) (by kernel_rfl) (by kernel_rfl) (fun _ _ _ h => h) (Or.inl ⟨by rfl, fun w hSw => by go_simp⟩) (by assumption) ?_
    try simp only [Act.put, List.getElem_toArray, List.getElem_cons_zero, List.getElem_cons_succ, List.setIfInBounds_toArray, List.set_cons_zero, List.set_cons_succ]
    refine wpAnyH_take (i := 2) (v := .string (S.extract 0 k)) rfl (by kernel_rfl) (by kernel_rfl) (by kernel_rfl) (fun _ _ _ h => h) (Or.inl ⟨by rfl, fun w hSw => by go_simp⟩) (by assumption) ?_
    try simp only [Act.put, List.getElem_toArray, List.getElem_cons_zero, List.getElem_cons_succ, List.setIfInBounds_toArray, List.set_cons_zero, List.set_cons_succ]
    refine wpAnyH_take (i := 3) (v := .int .u8 a2) rfl (by kernel_rfl) (by kernel_rfl) (by kernel_rfl) (fun _ _ _ h => h) (Or.inl ⟨by rfl, fun w hSw => by go_simp⟩) (by assumption) ?_
    try simp only [Act.put, List.getElem_toArray, List.getElem_cons_zero, List.getElem_cons_succ, List.setIfInBounds_toArray, List.set_cons_zero, List.set_cons_succ]
    refine wpAnyH_take (i := 7) (v := .string S) rfl (by kernel_rfl) (by kernel_rfl) (by kernel_rfl) (fun _ _ _ h => h) (Or.inl ⟨by rfl, fun w hSw => by go_simp⟩) (by assumption) ?_
    try simp only [Act.put, List.getElem_toArray, List.getElem_cons_zero, List.getElem_cons_succ, List.setIfInBounds_toArray, List.set_cons_zero, List.set_cons_succ]
    refine wpAnyH_take (i := 8) (v := .int .i64 k) rfl (by kernel_rfl) (by kernel_rfl) (by kernel_rfl) (fun _ _ _ h => h) (Or.inl ⟨by rfl, fun w hSw => by go_simp⟩) (by assumption) ?_
    try simp only [Act.put, List.getElem_toArray, List.getElem_cons_zero, List.getElem_cons_succ, List.setIfInBounds_toArray, List.set_cons_zero, List.set_cons_succ]
    refine wpAnyH_take (i := 9) (v := .int .i64 (k + 1)) rfl (by kernel_rfl) (by kernel_rfl) (by kernel_rfl) (fun _ _ _ h => h) (Or.inl ⟨by rfl, fun w hSw => by go_simp⟩) (by assumption) ?_
    try simp only [Act.put, List.getElem_toArray, List.getElem_cons_zero, List.getElem_cons_succ, List.setIfInBounds_toArray, List.set_cons_zero, List.set_cons_succ]
    refine wpAnyH_take (i := 10) (v := .string (S.extract (k + 1) 10)) rfl (by kernel_rfl) (by kernel_rfl) (by kernel_rfl) (fun _ _ _ h => h) (Or.inl ⟨by rfl, fun w hSw => by go_simp⟩) (by assumption) ?_
    try simp only [Act.put, List.getElem_toArray, List.getElem_cons_zero, List.getElem_cons_succ, List.setIfInBounds_toArray, List.set_cons_zero, List.set_cons_succ]
    refine wpAnyH_ready (rs := [4, 16]) (by kernel_rfl) (by simp) (AllReadyH.cons rfl (fun K hK => ?_) (AllReadyH.cons rfl (fun K hK => ?_) AllReadyH.nil))
    · go_simp
      refine hK.out _ _ trivial (fun hHeld => ?_)
      clear hK K
      try simp only [Act.put, List.getElem_toArray, List.getElem_cons_zero, List.getElem_cons_succ, List.setIfInBounds_toArray, List.set_cons_zero, List.set_cons_succ]
      refine wpAnyH_ready (rs := [5, 16]) (by kernel_rfl) (by simp) (AllReadyH.cons rfl (fun K hK => ?_) (AllReadyH.cons rfl (fun K hK => ?_) AllReadyH.nil))
      · go_simp
        refine hK.out _ _ trivial (fun hHeld => ?_)
        clear hK K
        try simp only [Act.put, List.getElem_toArray, List.getElem_cons_zero, List.getElem_cons_succ, List.setIfInBounds_toArray, List.set_cons_zero, List.set_cons_succ]
        refine wpAnyH_take (i := 6) (v := .string T1) rfl (by kernel_rfl) (by kernel_rfl) (by kernel_rfl) (fun _ _ _ h => h) (Or.inl ⟨by rfl, fun w hSw => by go_simp; omega⟩) (by assumption) ?_
        try simp only [Act.put, List.getElem_toArray, List.getElem_cons_zero, List.getElem_cons_succ, List.setIfInBounds_toArray, List.set_cons_zero, List.set_cons_succ]
        refine wpAnyH_take (i := 11) (v := .string T) rfl (by kernel_rfl) (by kernel_rfl) (by kernel_rfl) (fun _ _ _ h => h) (Or.inl ⟨by rfl, fun w hSw => by go_simp; omega⟩) (by assumption) ?_
        try simp only [Act.put, List.getElem_toArray, List.getElem_cons_zero, List.getElem_cons_succ, List.setIfInBounds_toArray, List.set_cons_zero, List.set_cons_succ]
        refine wpAnyH_ready (rs := [12, 16]) (by kernel_rfl) (by simp) (AllReadyH.cons rfl (fun K hK => ?_) (AllReadyH.cons rfl (fun K hK => ?_) AllReadyH.nil))
        · go_simp
          refine (cell_read _ _ U hU).mono ?_
          rintro e w3 ⟨rfl, hbb⟩
          have hB1 := Below.step0 (hB.alloc hB.size _).drew hbb
          clear hbb
          refine hK.out _ _ trivial (fun hHeld => ?_)
          clear hK K
          try simp only [Act.put, List.getElem_toArray, List.getElem_cons_zero, List.getElem_cons_succ, List.setIfInBounds_toArray, List.set_cons_zero, List.set_cons_succ]
          refine wpAnyH_take (i := 13) (v := .tuple #[.agg #[.bool U.i, .int .i64 U.n, .int .i64 U.p, .int .i64 U.b, .int .i64 U.l, .int .i64 U.a, .int .i64 U.s], .int .i64 U.e]) rfl (by kernel_rfl) (by kernel_rfl) (by kernel_rfl) (fun _ _ _ h => h) (Or.inl ⟨by rfl, fun w hSw => by go_simp⟩) (by assumption) ?_
          try simp only [Act.put, List.getElem_toArray, List.getElem_cons_zero, List.getElem_cons_succ, List.setIfInBounds_toArray, List.set_cons_zero, List.set_cons_succ]
          refine wpAnyH_take (i := 14) (v := .agg #[.bool U.i, .int .i64 U.n, .int .i64 U.p, .int .i64 U.b, .int .i64 U.l, .int .i64 U.a, .int .i64 U.s]) rfl (by kernel_rfl) (by kernel_rfl) (by kernel_rfl) (fun _ _ _ h => h) (Or.inl ⟨by rfl, fun w hSw => by go_simp⟩) (by assumption) ?_
          try simp only [Act.put, List.getElem_toArray, List.getElem_cons_zero, List.getElem_cons_succ, List.setIfInBounds_toArray, List.set_cons_zero, List.set_cons_succ]
          refine wpAnyH_take (i := 15) (v := .int .i64 U.e) rfl (by kernel_rfl) (by kernel_rfl) (by kernel_rfl) (fun _ _ _ h => h) (Or.inl ⟨by rfl, fun w hSw => by go_simp⟩) (by assumption) ?_
          try simp only [Act.put, List.getElem_toArray, List.getElem_cons_zero, List.getElem_cons_succ, List.setIfInBounds_toArray, List.set_cons_zero, List.set_cons_succ]
          refine wpAnyH_ready (rs := [16]) (by kernel_rfl) (by simp) (AllReadyH.cons rfl (fun K hK => ?_) AllReadyH.nil)
          · go_simp
            refine hK.out _ _ trivial (fun hHeld => ?_)
            clear hK K
            try simp only [Act.put, List.getElem_toArray, List.getElem_cons_zero, List.getElem_cons_succ, List.setIfInBounds_toArray, List.set_cons_zero, List.set_cons_succ]
            refine wpAnyH_ready (rs := [17]) (by kernel_rfl) (by simp) (AllReadyH.cons rfl (fun K hK => ?_) AllReadyH.nil)
            · go_simp
              refine hK.out _ _ trivial (fun hHeld => ?_)
              clear hK K
              try simp only [Act.put, List.getElem_toArray, List.getElem_cons_zero, List.getElem_cons_succ, List.setIfInBounds_toArray, List.set_cons_zero, List.set_cons_succ]
              refine wpAnyH_take (i := 18) (v := .int .i64 U.e) rfl (by kernel_rfl) (by kernel_rfl) (by kernel_rfl) (fun _ _ _ h => h) (Or.inl ⟨by rfl, fun w hSw => by go_simp⟩) (by assumption) ?_
              try simp only [Act.put, List.getElem_toArray, List.getElem_cons_zero, List.getElem_cons_succ, List.setIfInBounds_toArray, List.set_cons_zero, List.set_cons_succ]
              refine wpAnyH_done (by kernel_rfl) ?_ _
              rcases HE.out with ⟨hE1, hE2⟩ | ⟨hE1, hE2⟩
              · have hE3 : ((S[k].toNat : Int) == a2) = true := by simpa using hE1
                go_wp2
                go_ret
                exact ⟨rfl, hB1.alloc hB1.size _⟩
              · have hE3 : ((S[k].toNat : Int) == a2) = false := by simpa using hE1
                go_wp2
                go_ret
                exact ⟨rfl, hB1.alloc hB1.size _⟩
        · go_simp
          refine hK.out _ _ trivial (fun hHeld => ?_)
          clear hK K
          try simp only [Act.put, List.getElem_toArray, List.getElem_cons_zero, List.getElem_cons_succ, List.setIfInBounds_toArray, List.set_cons_zero, List.set_cons_succ]
          refine wpAnyH_ready (rs := [12]) (by kernel_rfl) (by simp) (AllReadyH.cons rfl (fun K hK => ?_) AllReadyH.nil)
          · go_simp
            refine (cell_read _ _ U hU).mono ?_
            rintro e w3 ⟨rfl, hbb⟩
            have B3 := (box_drew (Box.new1 _ _ _ _)).below hbb
            have q3 := B3.cell
            have f3 := B3.free
            have hB1 := Below.step0 ((hB.alloc hB.size _).alloc (hB.alloc hB.size _).size _).drew hbb
            clear hbb
            refine hK.out _ _ trivial (fun hHeld => ?_)
            clear hK K
            try simp only [Act.put, List.getElem_toArray, List.getElem_cons_zero, List.getElem_cons_succ, List.setIfInBounds_toArray, List.set_cons_zero, List.set_cons_succ]
            refine wpAnyH_take (i := 13) (v := .tuple #[.agg #[.bool U.i, .int .i64 U.n, .int .i64 U.p, .int .i64 U.b, .int .i64 U.l, .int .i64 U.a, .int .i64 U.s], .int .i64 U.e]) rfl (by kernel_rfl) (by kernel_rfl) (by kernel_rfl) (fun _ _ _ h => h) (Or.inl ⟨by rfl, fun w hSw => by go_simp⟩) (by assumption) ?_
            try simp only [Act.put, List.getElem_toArray, List.getElem_cons_zero, List.getElem_cons_succ, List.setIfInBounds_toArray, List.set_cons_zero, List.set_cons_succ]
            refine wpAnyH_take (i := 14) (v := .agg #[.bool U.i, .int .i64 U.n, .int .i64 U.p, .int .i64 U.b, .int .i64 U.l, .int .i64 U.a, .int .i64 U.s]) rfl (by kernel_rfl) (by kernel_rfl) (by kernel_rfl) (fun _ _ _ h => h) (Or.inl ⟨by rfl, fun w hSw => by go_simp⟩) (by assumption) ?_
            try simp only [Act.put, List.getElem_toArray, List.getElem_cons_zero, List.getElem_cons_succ, List.setIfInBounds_toArray, List.set_cons_zero, List.set_cons_succ]
            refine wpAnyH_take (i := 15) (v := .int .i64 U.e) rfl (by kernel_rfl) (by kernel_rfl) (by kernel_rfl) (fun _ _ _ h => h) (Or.inl ⟨by rfl, fun w hSw => by go_simp⟩) (by assumption) ?_
            try simp only [Act.put, List.getElem_toArray, List.getElem_cons_zero, List.getElem_cons_succ, List.setIfInBounds_toArray, List.set_cons_zero, List.set_cons_succ]
            refine wpAnyH_ready (rs := [17]) (by kernel_rfl) (by simp) (AllReadyH.cons rfl (fun K hK => ?_) AllReadyH.nil)
            · go_simp
              refine hK.out _ _ trivial (fun hHeld => ?_)
              clear hK K
              try simp only [Act.put, List.getElem_toArray, List.getElem_cons_zero, List.getElem_cons_succ, List.setIfInBounds_toArray, List.set_cons_zero, List.set_cons_succ]
              refine wpAnyH_take (i := 18) (v := .int .i64 U.e) rfl (by kernel_rfl) (by kernel_rfl) (by kernel_rfl) (fun _ _ _ h => h) (Or.inl ⟨by rfl, fun w hSw => by go_simp⟩) (by assumption) ?_
              try simp only [Act.put, List.getElem_toArray, List.getElem_cons_zero, List.getElem_cons_succ, List.setIfInBounds_toArray, List.set_cons_zero, List.set_cons_succ]
              refine wpAnyH_done (by kernel_rfl) ?_ _
              rcases HE.out with ⟨hE1, hE2⟩ | ⟨hE1, hE2⟩
              · have hE3 : ((S[k].toNat : Int) == a2) = true := by simpa using hE1
                go_wp2
                go_ret
                exact ⟨rfl, (((((((hB1.setCell (by simp <;> omega) _).setCell (by simp <;> omega) _).setCell (by simp <;> omega) _).setCell (by simp <;> omega) _).setCell (by simp <;> omega) _).setCell (by simp <;> omega) _).setCell (by simp <;> omega) _)⟩
              · have hE3 : ((S[k].toNat : Int) == a2) = false := by simpa using hE1
                go_wp2
                go_ret
                exact ⟨rfl, (((((((hB1.setCell (by simp <;> omega) _).setCell (by simp <;> omega) _).setCell (by simp <;> omega) _).setCell (by simp <;> omega) _).setCell (by simp <;> omega) _).setCell (by simp <;> omega) _).setCell (by simp <;> omega) _)⟩
      · go_simp
        refine hK.out _ _ trivial (fun hHeld => ?_)
        clear hK K
        try simp only [Act.put, List.getElem_toArray, List.getElem_cons_zero, List.getElem_cons_succ, List.setIfInBounds_toArray, List.set_cons_zero, List.set_cons_succ]
        refine wpAnyH_ready (rs := [5]) (by kernel_rfl) (by simp) (AllReadyH.cons rfl (fun K hK => ?_) AllReadyH.nil)
        · go_simp
          refine hK.out _ _ trivial (fun hHeld => ?_)
          clear hK K
          try simp only [Act.put, List.getElem_toArray, List.getElem_cons_zero, List.getElem_cons_succ, List.setIfInBounds_toArray, List.set_cons_zero, List.set_cons_succ]
          refine wpAnyH_take (i := 6) (v := .string T1) rfl (by kernel_rfl) (by kernel_rfl) (by kernel_rfl) (fun _ _ _ h => h) (Or.inl ⟨by rfl, fun w hSw => by go_simp; omega⟩) (by assumption) ?_
          try simp only [Act.put, List.getElem_toArray, List.getElem_cons_zero, List.getElem_cons_succ, List.setIfInBounds_toArray, List.set_cons_zero, List.set_cons_succ]
          refine wpAnyH_take (i := 11) (v := .string T) rfl (by kernel_rfl) (by kernel_rfl) (by kernel_rfl) (fun _ _ _ h => h) (Or.inl ⟨by rfl, fun w hSw => by go_simp; omega⟩) (by assumption) ?_
          try simp only [Act.put, List.getElem_toArray, List.getElem_cons_zero, List.getElem_cons_succ, List.setIfInBounds_toArray, List.set_cons_zero, List.set_cons_succ]
          refine wpAnyH_ready (rs := [12]) (by kernel_rfl) (by simp) (AllReadyH.cons rfl (fun K hK => ?_) AllReadyH.nil)
          · go_simp
            refine (cell_read _ _ U hU).mono ?_
            rintro e w3 ⟨rfl, hbb⟩
            have B3 := (box_drew (Box.new1 _ _ _ _)).below hbb
            have q3 := B3.cell
            have f3 := B3.free
            have hB1 := Below.step0 ((hB.alloc hB.size _).alloc (hB.alloc hB.size _).size _).drew hbb
            clear hbb
            refine hK.out _ _ trivial (fun hHeld => ?_)
            clear hK K
            try simp only [Act.put, List.getElem_toArray, List.getElem_cons_zero, List.getElem_cons_succ, List.setIfInBounds_toArray, List.set_cons_zero, List.set_cons_succ]
            refine wpAnyH_take (i := 13) (v := .tuple #[.agg #[.bool U.i, .int .i64 U.n, .int .i64 U.p, .int .i64 U.b, .int .i64 U.l, .int .i64 U.a, .int .i64 U.s], .int .i64 U.e]) rfl (by kernel_rfl) (by kernel_rfl) (by kernel_rfl) (fun _ _ _ h => h) (Or.inl ⟨by rfl, fun w hSw => by go_simp⟩) (by assumption) ?_
            try simp only [Act.put, List.getElem_toArray, List.getElem_cons_zero, List.getElem_cons_succ, List.setIfInBounds_toArray, List.set_cons_zero, List.set_cons_succ]
            refine wpAnyH_take (i := 14) (v := .agg #[.bool U.i, .int .i64 U.n, .int .i64 U.p, .int .i64 U.b, .int .i64 U.l, .int .i64 U.a, .int .i64 U.s]) rfl (by kernel_rfl) (by kernel_rfl) (by kernel_rfl) (fun _ _ _ h => h) (Or.inl ⟨by rfl, fun w hSw => by go_simp⟩) (by assumption) ?_
            try simp only [Act.put, List.getElem_toArray, List.getElem_cons_zero, List.getElem_cons_succ, List.setIfInBounds_toArray, List.set_cons_zero, List.set_cons_succ]
            refine wpAnyH_take (i := 15) (v := .int .i64 U.e) rfl (by kernel_rfl) (by kernel_rfl) (by kernel_rfl) (fun _ _ _ h => h) (Or.inl ⟨by rfl, fun w hSw => by go_simp⟩) (by assumption) ?_
            try simp only [Act.put, List.getElem_toArray, List.getElem_cons_zero, List.getElem_cons_succ, List.setIfInBounds_toArray, List.set_cons_zero, List.set_cons_succ]
            refine wpAnyH_ready (rs := [17]) (by kernel_rfl) (by simp) (AllReadyH.cons rfl (fun K hK => ?_) AllReadyH.nil)
            · go_simp
              refine hK.out _ _ trivial (fun hHeld => ?_)
              clear hK K
              try simp only [Act.put, List.getElem_toArray, List.getElem_cons_zero, List.getElem_cons_succ, List.setIfInBounds_toArray, List.set_cons_zero, List.set_cons_succ]
              refine wpAnyH_take (i := 18) (v := .int .i64 U.e) rfl (by kernel_rfl) (by kernel_rfl) (by kernel_rfl) (fun _ _ _ h => h) (Or.inl ⟨by rfl, fun w hSw => by go_simp⟩) (by assumption) ?_
              try simp only [Act.put, List.getElem_toArray, List.getElem_cons_zero, List.getElem_cons_succ, List.setIfInBounds_toArray, List.set_cons_zero, List.set_cons_succ]
              refine wpAnyH_done (by kernel_rfl) ?_ _
              rcases HE.out with ⟨hE1, hE2⟩ | ⟨hE1, hE2⟩
              · have hE3 : ((S[k].toNat : Int) == a2) = true := by simpa using hE1
                go_wp2
                go_ret
                exact ⟨rfl, (((((((hB1.setCell (by simp <;> omega) _).setCell (by simp <;> omega) _).setCell (by simp <;> omega) _).setCell (by simp <;> omega) _).setCell (by simp <;> omega) _).setCell (by simp <;> omega) _).setCell (by simp <;> omega) _)⟩
              · have hE3 : ((S[k].toNat : Int) == a2) = false := by simpa using hE1
                go_wp2
                go_ret
                exact ⟨rfl, (((((((hB1.setCell (by simp <;> omega) _).setCell (by simp <;> omega) _).setCell (by simp <;> omega) _).setCell (by simp <;> omega) _).setCell (by simp <;> omega) _).setCell (by simp <;> omega) _).setCell (by simp <;> omega) _)⟩
    · go_simp
      refine hK.out _ _ trivial (fun hHeld => ?_)
      clear hK K
      try simp only [Act.put, List.getElem_toArray, List.getElem_cons_zero, List.getElem_cons_succ, List.setIfInBounds_toArray, List.set_cons_zero, List.set_cons_succ]
      refine wpAnyH_ready (rs := [4]) (by kernel_rfl) (by simp) (AllReadyH.cons rfl (fun K hK => ?_) AllReadyH.nil)
      · go_simp
        refine hK.out _ _ trivial (fun hHeld => ?_)
        clear hK K
        try simp only [Act.put, List.getElem_toArray, List.getElem_cons_zero, List.getElem_cons_succ, List.setIfInBounds_toArray, List.set_cons_zero, List.set_cons_succ]
        refine wpAnyH_ready (rs := [5]) (by kernel_rfl) (by simp) (AllReadyH.cons rfl (fun K hK => ?_) AllReadyH.nil)
        · go_simp
          refine hK.out _ _ trivial (fun hHeld => ?_)
          clear hK K
          try simp only [Act.put, List.getElem_toArray, List.getElem_cons_zero, List.getElem_cons_succ, List.setIfInBounds_toArray, List.set_cons_zero, List.set_cons_succ]
          refine wpAnyH_take (i := 6) (v := .string T1) rfl (by kernel_rfl) (by kernel_rfl) (by kernel_rfl) (fun _ _ _ h => h) (Or.inl ⟨by rfl, fun w hSw => by go_simp; omega⟩) (by assumption) ?_
          try simp only [Act.put, List.getElem_toArray, List.getElem_cons_zero, List.getElem_cons_succ, List.setIfInBounds_toArray, List.set_cons_zero, List.set_cons_succ]
          refine wpAnyH_take (i := 11) (v := .string T) rfl (by kernel_rfl) (by kernel_rfl) (by kernel_rfl) (fun _ _ _ h => h) (Or.inl ⟨by rfl, fun w hSw => by go_simp; omega⟩) (by assumption) ?_
          try simp only [Act.put, List.getElem_toArray, List.getElem_cons_zero, List.getElem_cons_succ, List.setIfInBounds_toArray, List.set_cons_zero, List.set_cons_succ]
          refine wpAnyH_ready (rs := [12]) (by kernel_rfl) (by simp) (AllReadyH.cons rfl (fun K hK => ?_) AllReadyH.nil)
          · go_simp
            refine (cell_read _ _ U hU).mono ?_
            rintro e w3 ⟨rfl, hbb⟩
            have B3 := (box_drew ((Box.new _ _ _).alloc _)).below hbb
            have q3 := B3.cell
            have f3 := B3.free
            have hB1 := Below.step0 ((hB.alloc hB.size _).alloc (hB.alloc hB.size _).size _).drew hbb
            clear hbb
            refine hK.out _ _ trivial (fun hHeld => ?_)
            clear hK K
            try simp only [Act.put, List.getElem_toArray, List.getElem_cons_zero, List.getElem_cons_succ, List.setIfInBounds_toArray, List.set_cons_zero, List.set_cons_succ]
            refine wpAnyH_take (i := 13) (v := .tuple #[.agg #[.bool U.i, .int .i64 U.n, .int .i64 U.p, .int .i64 U.b, .int .i64 U.l, .int .i64 U.a, .int .i64 U.s], .int .i64 U.e]) rfl (by kernel_rfl) (by kernel_rfl) (by kernel_rfl) (fun _ _ _ h => h) (Or.inl ⟨by rfl, fun w hSw => by go_simp⟩) (by assumption) ?_
            try simp only [Act.put, List.getElem_toArray, List.getElem_cons_zero, List.getElem_cons_succ, List.setIfInBounds_toArray, List.set_cons_zero, List.set_cons_succ]
            refine wpAnyH_take (i := 14) (v := .agg #[.bool U.i, .int .i64 U.n, .int .i64 U.p, .int .i64 U.b, .int .i64 U.l, .int .i64 U.a, .int .i64 U.s]) rfl (by kernel_rfl) (by kernel_rfl) (by kernel_rfl) (fun _ _ _ h => h) (Or.inl ⟨by rfl, fun w hSw => by go_simp⟩) (by assumption) ?_
            try simp only [Act.put, List.getElem_toArray, List.getElem_cons_zero, List.getElem_cons_succ, List.setIfInBounds_toArray, List.set_cons_zero, List.set_cons_succ]
            refine wpAnyH_take (i := 15) (v := .int .i64 U.e) rfl (by kernel_rfl) (by kernel_rfl) (by kernel_rfl) (fun _ _ _ h => h) (Or.inl ⟨by rfl, fun w hSw => by go_simp⟩) (by assumption) ?_
            try simp only [Act.put, List.getElem_toArray, List.getElem_cons_zero, List.getElem_cons_succ, List.setIfInBounds_toArray, List.set_cons_zero, List.set_cons_succ]
            refine wpAnyH_ready (rs := [17]) (by kernel_rfl) (by simp) (AllReadyH.cons rfl (fun K hK => ?_) AllReadyH.nil)
            · go_simp
              refine hK.out _ _ trivial (fun hHeld => ?_)
              clear hK K
              try simp only [Act.put, List.getElem_toArray, List.getElem_cons_zero, List.getElem_cons_succ, List.setIfInBounds_toArray, List.set_cons_zero, List.set_cons_succ]
              refine wpAnyH_take (i := 18) (v := .int .i64 U.e) rfl (by kernel_rfl) (by kernel_rfl) (by kernel_rfl) (fun _ _ _ h => h) (Or.inl ⟨by rfl, fun w hSw => by go_simp⟩) (by assumption) ?_
              try simp only [Act.put, List.getElem_toArray, List.getElem_cons_zero, List.getElem_cons_succ, List.setIfInBounds_toArray, List.set_cons_zero, List.set_cons_succ]
              refine wpAnyH_done (by kernel_rfl) ?_ _
              rcases HE.out with ⟨hE1, hE2⟩ | ⟨hE1, hE2⟩
              · have hE3 : ((S[k].toNat : Int) == a2) = true := by simpa using hE1
                go_wp2
                go_ret
                exact ⟨rfl, (((((((hB1.setCell (by simp <;> omega) _).setCell (by simp <;> omega) _).setCell (by simp <;> omega) _).setCell (by simp <;> omega) _).setCell (by simp <;> omega) _).setCell (by simp <;> omega) _).setCell (by simp <;> omega) _)⟩
              · have hE3 : ((S[k].toNat : Int) == a2) = false := by simpa using hE1
                go_wp2
                go_ret
                exact ⟨rfl, (((((((hB1.setCell (by simp <;> omega) _).setCell (by simp <;> omega) _).setCell (by simp <;> omega) _).setCell (by simp <;> omega) _).setCell (by simp <;> omega) _).setCell (by simp <;> omega) _).setCell (by simp <;> omega) _)⟩
  · have hp := pack_nil hc0
    have hc' : (chkV a0i a0n a0p a0b a0l a0a a0s == 0) = false := by simpa using hc0
    go_enter Try.func7, Try.ntmps7
    go_wp2_with (first | (go_at_call 9; refine (cell_pack _ _ _ _ _ _ _ _ (by first | exact V0 | exact vb1)).mono ?_; (try simp only [hp]); (try simp only [chk1, pack1]); rintro e w1 ⟨rfl, hbb⟩; first | (replace B1 := (B1.alloc _).below hbb; have B2 := (Box.new _ _ _).below hbb; clear q1 z1; have q1 := B1.cell; have z1 := B1.lt; have q2 := B2.cell; have z2 := B2.lt; replace hB := Below.step0 (hB.alloc hB.size _) hbb; clear hbb) | (replace B1 := B1.below hbb; clear q1 z1; have q1 := B1.cell; have z1 := B1.lt; replace hB := Below.step0 hB hbb; clear hbb) | (have B1 := (Box.new _ _ _).below hbb; have q1 := B1.cell; have z1 := B1.lt; have hB := Below.step0 ((Below.refl _ _).alloc (Nat.le_refl _) _) hbb; clear hbb)))
    go_ret
    exact ⟨rfl, hB⟩

set_option maxRecDepth 100000 in
theorem lifted (os : Os) (started : os.Started) (H : Type) (enc : TypeId × Value → H) :
    ReturnsInHanded {} Try.checked os 7 .any (Rows.cellTurnedSpec.pre6 enc Try.prog Try.f7 Rows.cellTurnedRow.domain false) (Rows.cellTurnedSpec.post enc Try.prog Try.f7 false true false false) := by
  refine returnsInHanded_of_change (C := Try.checked) own started (by kernel_rfl) Try.func7
    (ChangeSpec.witness6 (enc := enc) (C := Try.checked) false ⟨#[], #[.agg #[.bool false, .int .i64 0, .int .i64 0, .int .i64 0, .int .i64 0, .int .i64 0, .int .i64 0], .int .i64 0, .int .u8 0], []⟩ 8 (by kernel_rfl) (by kernel_rfl) (by kernel_rfl) (by kernel_rfl)) ?_
  intro W base args ds gs before hval0 hW hcnd _
  have hval : ∀ (j : Nat) t v, Try.f7.params[j]? = some t → args[j]? = some v → Value.okWide Try.prog W .any base t v := hval0
  have hW' := hW
  obtain ⟨p, q, hA0, hV, rfl, hfz, hnd⟩ := hW
  have hA : DataW.TrodAll enc Try.prog W 0 (fun _ => true) true Try.f7.params.toList args.toList ds p := hA0
  rw [Try.params7] at hA hval
  obtain ⟨v0, vs0, d0, ds0, p0, q0, hargs, rfl, rfl, h0, r0⟩ := trodAll_cons hA
  obtain ⟨v1, vs1, d1, ds1, p1, q1, rfl, rfl, rfl, h1, r1⟩ := trodAll_cons r0
  obtain ⟨v2, vs2, d2, ds2, p2, q2, rfl, rfl, rfl, h2, r2⟩ := trodAll_cons r1
  obtain ⟨rfl, rfl, rfl⟩ := trodAll_nil r2
  obtain rfl : args = #[v0, v1, v2] := by cases args; simp_all
  obtain ⟨rfl, rfl⟩ := trodVars_none hV
  obtain ⟨a0i, a0n, a0p, a0b, a0l, a0a, a0s, rfl, rfl, rfl, w0n, w0p, w0b, w0l, w0a, w0s⟩ := open_val (hval 0 25 v0 rfl rfl) h0
  obtain ⟨a1, rfl, rfl, rfl, w1⟩ := open_int Try.underlying3 (hval 1 3 v1 rfl rfl) h1
  obtain ⟨a2, rfl, rfl, rfl, w2⟩ := open_int Try.underlying5 (hval 2 5 v2 rfl rfl) h2
  clear hA0 hval0
  refine (walk a0i a0n a0p a0b a0l a0a a0s a1 a2 ⟨bounds_i64 w0n, bounds_i64 w0p, bounds_i64 w0b, bounds_i64 w0l, bounds_i64 w0a, bounds_i64 w0s⟩ (bounds_i64 w1) (bounds_u8 w2) W).mono fun e W' ⟨he, bel⟩ => ?_
  subst he
  exact ⟨_, rfl, _, _, _, [], [], [], hW', trodAll_mk1 (shut_bool Try.underlying4 _), (trodAll_cons_mk (shut_val w0n w0p w0b w0l w0a w0s) (trodAll_cons_mk (shut_int Try.underlying3 w1) (trodAll_cons_mk (shut_int Try.underlying5 w2) trodAll_mk0))), rfl, bel.frame _, fun h => by cases h⟩

theorem over : Rows.cellTurnedRow.holds Try.pinned (OpenSpec.ofChange Rows.cellTurnedSpec) :=
  OpenClaim.holds_of_wide 7 Try.f7 rfl rfl rfl rfl rfl rfl rfl ⟨rfl, rfl, rfl, rfl, rfl⟩ rfl rfl rfl rfl rfl (by kernel_rfl) Try.func7 (by kernel_rfl)
    (of_decide_eq_true (by kernel_rfl)) (by unfold Func.isWrapper; first | (rw [if_pos (by decide +kernel)]; kernel_rfl) | (rw [if_neg (by decide +kernel)]; exact ⟨rfl, rfl⟩))
    (fun os started H enc _ => lifted os started H enc)

theorem proved : Rows.CellTurnedSaid :=
  over
#print axioms proved
end Go.Proofs.Ytilbijocapmjbaa.cellTurned
