/- package prog: readJump, in one def: what chapter 7 says of a line with a NAME as its C. -/
import Derived.Test.YtfafkijcejbcpaaGreatDoorRows
import Derived.Test.YtfafkijcejbcpaaGreatDoorKeyPure
import Derived.Test.YtfafkijcejbcpaaGreatDoorShelf
import Derived.Test.YtfafkijcejbcpaaGreatDoorInstShape
import Derived.Test.YtfafkijcejbcpaaGreatDoorInstLaid
import Derived.Test.YtfafkijcejbcpaaGreatDoorInstDev
import Derived.Test.YtfafkijcejbcpaaGreatDoorTextPure
import Derived.Test.YtfafkijcejbcpaaGreatDoorParsePure
import Derived.Test.YtfafkijcejbcpaaGreatDoorInstText
import Derived.Test.YtfafkijcejbcpaaGreatDoorInstOp
import Derived.Test.YtfafkijcejbcpaaGreatDoorInstCut
import Derived.Test.YtfafkijcejbcpaaGreatDoorInstParse2
import Derived.Test.YtfafkijcejbcpaaGreatDoorProgPure
import Derived.Test.YtfafkijcejbcpaaGreatDoorProgSmall
import Derived.WalkKit
import Derived.ProofKit
namespace Go.Proofs.YtfafkijcejbcpaaGreatDoor
open Go.ChangeShapes Go.WideShapes Go.ChangeAt Go.RowKit
set_option linter.unusedSimpArgs false

/-- What readJump answers. -/
def jumpR (l : List UInt8) : JL := (jumpL l).getD ⟨0, 0, 0, 0, []⟩
set_option maxRecDepth 100000 in
set_option maxHeartbeats 2000000 in
theorem prog_readJump (l : List UInt8) (w : World) (hS : Shp w) (hP : Pw w) (hE : Er w) (hl : l.length ≤ 140737488351000) :
    Calls Tryz.prog 45 #[.string (bL l)] w fun e w' => e = .returned (.tuple #[.agg #[.int .i64 (jumpR l).o, .int .i64 (jumpR l).a, .int .i64 (jumpR l).b, .int .i64 (jumpR l).c], .string (bL (jumpR l).lab), .bool (jumpL l).isSome]) ∧ Below w.heap.size w w' := by
  have b0 := Below.one w (.cells #[.int .i64 0, .int .i64 0, .int .i64 0, .int .i64 0] 43)
  have B0 := Box.new w #[.int .i64 0, .int .i64 0, .int .i64 0, .int .i64 0] 43
  have zl : (bL l).size = l.length := bL_size l
  have cI := fun w => Tryz.strings_LastIndex (bL l) ⟨#[32]⟩ (by omega) w
  rw [bL_list] at cI
  change ∀ w, Calls _ _ _ _ fun e w' => e = .returned (.int .i64 (Lib.lastIndex l [32])) ∧ w' = w at cI
  rcases last_cases 32 l with ⟨h1, _, _⟩ | ⟨p, q, hl1, _, h1, _⟩
  · unfold jumpR
    rw [jumpL_none h1]
    rw [h1] at cI
    show Calls _ _ _ _ fun e w' => e = .returned (.tuple #[.agg #[.int .i64 0, .int .i64 0, .int .i64 0, .int .i64 0], .string ⟨#[]⟩, .bool false]) ∧ _
    generalize bL l = S at *
    go_enter Tryz.func45, Tryz.ntmps45
    go_wp2_with (go_at_call 65; refine (cI _).mono ?_; rintro e w' ⟨rfl, rfl⟩)
    refine bodyPost_ret (v := .tuple #[.agg #[.int .i64 0, .int .i64 0, .int .i64 0, .int .i64 0], .string ⟨#[]⟩, .bool false]) (by simp [results, Tryz.results45, go_sem]) rfl ⟨rfl, ?_⟩
    exact b0
  · unfold jumpR
    rw [jumpL_at hl1 h1]
    rw [h1] at cI
    have zl1 : l.length = p.length + 1 + q.length := by rw [hl1]; simp; omega
    have cN := fun w => prog_isName q w (by omega)
    have e1 : (bL l).extract (p.length + 1) (bL l).size = bL q := by rw [bL_drop, hl1, ← List.drop_drop]; simp
    have e0 : (bL l).extract 0 p.length = bL p := by rw [bL_take, hl1]; simp
    have e2 : bL p ++ ⟨#[32, 48]⟩ = bL (p ++ [32, 48]) := bL_add p [32, 48]
    have zp : (bL p).size = p.length := bL_size p
    have cP := fun w hS hP hE => inst_parse (p ++ [32, 48]) w hS hP hE (by simp; omega) _ rfl
    have hz1 : p.length + 1 ≤ (bL l).size := by omega
    have hz2 : (bL l).size ≤ 140737488351000 := by omega
    have hz3 : p.length ≤ 140737488351000 := by omega
    clear zl zl1
    generalize p.length = k at *
    by_cases hq : nameL q = true
    · rw [hq] at cN
      rw [if_neg (by rw [hq]; simp)]
      generalize parseD (p ++ [32, 48]) = U at *
      generalize bL (p ++ [32, 48]) = T at *
      generalize bL p = S0 at *
      generalize hq0 : bL q = S1 at *
      generalize bL l = S at *
      clear hl1 h1 hq
      obtain ⟨o, a, b, c, e⟩ := U
      dsimp only at cP ⊢
      by_cases he : e = 0
      · subst he
        by_cases h8 : o = 8
        · subst h8
          rw [if_pos ⟨rfl, Or.inl rfl⟩]
          dsimp only [Option.getD_some, Option.isSome_some]
          go_enter Tryz.func45, Tryz.ntmps45
          go_wp2_with (first | (go_at_call 65; refine (cI _).mono ?_; rintro e w' ⟨rfl, rfl⟩) | (go_at_call 42; refine (cN _).mono ?_; rintro e w1 ⟨rfl, hbb⟩; have B1 := B0.below hbb; have b1 := Below.step0 b0 hbb; clear hbb cN) | (go_at_call 64; refine (cP _ (hS.below b1) (hP.below b1) (hE.below b1)).mono ?_; rintro e w2 ⟨rfl, hbb⟩; have B2 := (B1.below hbb).alloc (.cells #[.int .i64 8, .int .i64 a, .int .i64 b, .int .i64 c] 43); have b2 := (Below.step0 b1 hbb).alloc (Below.step0 b1 hbb).size (.cells #[.int .i64 8, .int .i64 a, .int .i64 b, .int .i64 c] 43); have b3 := Below.step0 b1 hbb; have q2 := (B1.below hbb).cell; have f2 := (B1.below hbb).free; have z2 := (B1.below hbb).lt; clear hbb cP))
          go_region
          all_goals go_wp2
          refine bodyPost_ret (v := .tuple #[.agg #[.int .i64 8, .int .i64 a, .int .i64 b, .int .i64 c], .string (bL q), .bool true]) (by rw [hq0]; simp [results, Tryz.results45, go_sem, q2, z2]) rfl ⟨rfl, ?_⟩
          exact (((((b3.setCell (by simp) _).setCell (by simp) _).setCell (by simp) _).setCell (by simp) _).alloc (by have := b3.size; simpa using this) _).drew
        · have g8 : (o != 8) = true := by simpa using h8
          by_cases h9 : o = 9
          · subst h9
            rw [if_pos ⟨rfl, Or.inr rfl⟩]
            dsimp only [Option.getD_some, Option.isSome_some]
            go_enter Tryz.func45, Tryz.ntmps45
            go_wp2_with (first | (go_at_call 65; refine (cI _).mono ?_; rintro e w' ⟨rfl, rfl⟩) | (go_at_call 42; refine (cN _).mono ?_; rintro e w1 ⟨rfl, hbb⟩; have B1 := B0.below hbb; have b1 := Below.step0 b0 hbb; clear hbb cN) | (go_at_call 64; refine (cP _ (hS.below b1) (hP.below b1) (hE.below b1)).mono ?_; rintro e w2 ⟨rfl, hbb⟩; have B2 := (B1.below hbb).alloc (.cells #[.int .i64 9, .int .i64 a, .int .i64 b, .int .i64 c] 43); have b2 := (Below.step0 b1 hbb).alloc (Below.step0 b1 hbb).size (.cells #[.int .i64 9, .int .i64 a, .int .i64 b, .int .i64 c] 43); have b3 := Below.step0 b1 hbb; have q2 := (B1.below hbb).cell; have f2 := (B1.below hbb).free; have z2 := (B1.below hbb).lt; clear hbb cP))
            go_region
            all_goals go_wp2
            refine bodyPost_ret (v := .tuple #[.agg #[.int .i64 9, .int .i64 a, .int .i64 b, .int .i64 c], .string (bL q), .bool true]) (by rw [hq0]; simp [results, Tryz.results45, go_sem, q2, z2]) rfl ⟨rfl, ?_⟩
            exact (((((b3.setCell (by simp) _).setCell (by simp) _).setCell (by simp) _).setCell (by simp) _).alloc (by have := b3.size; simpa using this) _).drew
          · have g9 : (o != 9) = true := by simpa using h9
            rw [if_neg (fun h => h.2.elim h8 h9)]
            show Calls _ _ _ _ fun e w' => e = .returned (.tuple #[.agg #[.int .i64 0, .int .i64 0, .int .i64 0, .int .i64 0], .string ⟨#[]⟩, .bool false]) ∧ _
            go_enter Tryz.func45, Tryz.ntmps45
            go_wp2_with (first | (go_at_call 65; refine (cI _).mono ?_; rintro e w' ⟨rfl, rfl⟩) | (go_at_call 42; refine (cN _).mono ?_; rintro e w1 ⟨rfl, hbb⟩; have B1 := B0.below hbb; have b1 := Below.step0 b0 hbb; clear hbb cN) | (go_at_call 64; refine (cP _ (hS.below b1) (hP.below b1) (hE.below b1)).mono ?_; rintro e w2 ⟨rfl, hbb⟩; have B2 := (B1.below hbb).alloc (.cells #[.int .i64 o, .int .i64 a, .int .i64 b, .int .i64 c] 43); have b2 := (Below.step0 b1 hbb).alloc (Below.step0 b1 hbb).size (.cells #[.int .i64 o, .int .i64 a, .int .i64 b, .int .i64 c] 43); have b3 := Below.step0 b1 hbb; have q2 := (B1.below hbb).cell; have f2 := (B1.below hbb).free; have z2 := (B1.below hbb).lt; clear hbb cP))
            refine bodyPost_ret (v := .tuple #[.agg #[.int .i64 0, .int .i64 0, .int .i64 0, .int .i64 0], .string ⟨#[]⟩, .bool false]) (by simp [results, Tryz.results45, go_sem, q2, z2]) rfl ⟨rfl, ?_⟩
            exact ((((b3.setCell (by simp) _).setCell (by simp) _).setCell (by simp) _).setCell (by simp) _).alloc (by have := b3.size; simpa using this) _
      · have he' : (e != 0) = true := by simpa using he
        rw [if_neg (fun h => he h.1)]
        show Calls _ _ _ _ fun e w' => e = .returned (.tuple #[.agg #[.int .i64 0, .int .i64 0, .int .i64 0, .int .i64 0], .string ⟨#[]⟩, .bool false]) ∧ _
        clear he
        go_enter Tryz.func45, Tryz.ntmps45
        go_wp2_with (first | (go_at_call 65; refine (cI _).mono ?_; rintro e w' ⟨rfl, rfl⟩) | (go_at_call 42; refine (cN _).mono ?_; rintro e w1 ⟨rfl, hbb⟩; have B1 := B0.below hbb; have b1 := Below.step0 b0 hbb; clear hbb cN) | (go_at_call 64; refine (cP _ (hS.below b1) (hP.below b1) (hE.below b1)).mono ?_; rintro e w2 ⟨rfl, hbb⟩; have B2 := (B1.below hbb).alloc (.cells #[.int .i64 o, .int .i64 a, .int .i64 b, .int .i64 c] 43); have b2 := (Below.step0 b1 hbb).alloc (Below.step0 b1 hbb).size (.cells #[.int .i64 o, .int .i64 a, .int .i64 b, .int .i64 c] 43); have b3 := Below.step0 b1 hbb; have q2 := (B1.below hbb).cell; have f2 := (B1.below hbb).free; have z2 := (B1.below hbb).lt; clear hbb cP))
        refine bodyPost_ret (v := .tuple #[.agg #[.int .i64 0, .int .i64 0, .int .i64 0, .int .i64 0], .string ⟨#[]⟩, .bool false]) (by simp [results, Tryz.results45, go_sem, q2, z2]) rfl ⟨rfl, ?_⟩
        exact ((((b3.setCell (by simp) _).setCell (by simp) _).setCell (by simp) _).setCell (by simp) _).alloc (by have := b3.size; simpa using this) _
    · have hq' := Bool.eq_false_iff.2 hq
      rw [hq'] at cN
      rw [if_pos hq']
      show Calls _ _ _ _ fun e w' => e = .returned (.tuple #[.agg #[.int .i64 0, .int .i64 0, .int .i64 0, .int .i64 0], .string ⟨#[]⟩, .bool false]) ∧ _
      clear cP e2 e0 hl1 h1 hq hq'
      generalize bL q = S1 at *
      generalize bL l = S at *
      go_enter Tryz.func45, Tryz.ntmps45
      go_wp2_with (first | (go_at_call 65; refine (cI _).mono ?_; rintro e w' ⟨rfl, rfl⟩) | (go_at_call 42; refine (cN _).mono ?_; rintro e w1 ⟨rfl, hbb⟩; have B1 := B0.below hbb; have b1 := Below.step0 b0 hbb; have q1 := B1.cell; have f1 := B1.free; clear hbb))
      refine bodyPost_ret (v := .tuple #[.agg #[.int .i64 0, .int .i64 0, .int .i64 0, .int .i64 0], .string ⟨#[]⟩, .bool false]) (by simp [results, Tryz.results45, go_sem, q1]) rfl ⟨rfl, ?_⟩
      exact (((b1.setCell (by simp) _).setCell (by simp) _).setCell (by simp) _).setCell (by simp) _
end Go.Proofs.YtfafkijcejbcpaaGreatDoor
