/- package cell's Pack: for whatever value just the bytes that chapter 5 tells, in new memory. -/
import Derived.Test.YtilbijocapmjbaaRows
import Derived.Test.YtilbijocapmjbaaBits
import Derived.Test.YtilbijocapmjbaaKeyPure
import Derived.Test.YtilbijocapmjbaaKeyChk
import Derived.Test.YtilbijocapmjbaaCellPure
import Derived.Test.YtilbijocapmjbaaCellChk
import Derived.Test.YtilbijocapmjbaaCellBytes
import Derived.Test.YtilbijocapmjbaaCellApp
import Derived.WalkKit
import Derived.ProofKit
import Derived.OpenShut
import Derived.Laws.IdiomStrings
import Derived.Laws.AppendOwn
import Derived.Deep.AppendLies
namespace Go.Proofs.Ytilbijocapmjbaa
open Go.ChangeShapes Go.WideShapes Go.ChangeAt Go.RowKit

/-- string(b), of bytes that are owned. -/
theorem conv_own {w : World} {base n : Nat} {v : Value} {l : List UInt8} (h : w.ownsRow base 5 1 v n (l.map bc)) (hn : 0 < n) :
    (convert 36 9 v).run Try.prog w = .ok (.string ⟨l.toArray⟩) w := by
  obtain ⟨h1, h2⟩ := h
  rcases h2 with ⟨-, h2⟩ | ⟨g, cap, cur, rfl, e2, e3, e4, e5, e6, e7⟩
  · omega
  · have hl : l.length = n := by simpa using h1
    have := run_convert_bytes_back (P := Try.prog) w 36 9 5 ⟨g, 0, none⟩ cap l Try.underlying36 Try.underlying5 Try.underlying9 (by
      intro j hj
      have h3 : cur.toList[j]? = some (bc l[j]) := by
        have h4 : (cur.toList.take (n * 1))[j]? = (l.map bc)[j]? := by rw [e7]
        rw [List.getElem?_take_of_lt (by omega)] at h4
        rw [h4]; simp [hj]
      have h5 : w.cell? ⟨g, j, none⟩ = cur[j]? := by simp [World.cell?, e3]
      rw [Array.getElem?_toList] at h3
      rw [← h5] at h3
      have h6 : (⟨g, 0, none⟩ : Addr).add j = ⟨g, j, none⟩ := by
        unfold Addr.add
        by_cases hz : j = 0
        · rw [if_pos hz, hz]
        · rw [if_neg hz]; simp
      rw [h6]
      exact h3)
    rw [hl] at this
    exact this
theorem own_new (w : World) (l : List UInt8) (c : Array Value) (hc : c.toList = l.map bc) (hl : l.length ≤ 16) : (w.alloc (.cells c 5)).ownsRow w.heap.size 5 1 (.slice (some ⟨w.heap.size, 0, none⟩) l.length l.length) l.length (l.map bc) := by
  have hs : c.size = l.length := by rw [← Array.length_toList, hc]; simp
  refine ⟨by simp, .inr ⟨w.heap.size, l.length, c, rfl, Nat.le_refl _, heap_alloc_new _ _, Nat.le_refl _, by unfold maxLen; omega, by omega, ?_⟩⟩
  rw [hc, Nat.mul_one]
  exact List.take_of_length_le (by simp)
theorem cell_packnumber (n : Int) (w : World) (hn : -2147483648 ≤ n ∧ n ≤ 2147483647) :
    Calls Try.prog 17 #[.int .i64 n] w fun e w' => ∃ v, e = .returned v ∧ w'.ownsRow w.heap.size 5 1 v 9 ((numL n).map bc) ∧ Below w.heap.size w w' := by
  have O : (w.alloc (.cells #[.int .u8 0] 5)).ownsRow w.heap.size 5 1 (.slice (some ⟨w.heap.size, 0, none⟩) 1 1) 1 (([0] : List UInt8).map bc) := own_new w [0] #[.int .u8 0] rfl (by decide)
  have hB : Below w.heap.size w (w.alloc (.cells #[.int .u8 0] 5)) := (Below.refl _ _).alloc (Nat.le_refl _) _
  have e1 : n - -2147483648 = n + 2147483648 := by omega
  have hN : Hid (numL n = [0] ++ hiK (n + 2147483648) 4 4 ++ hiK 0 4 4) := by rw [hiK_4, hiK_4]; exact rfl
  go_enter Try.func17, Try.ntmps17
  go_wp2_with (go_at_call 29; refine (cell_append w.heap.size _ 4 _ _ _ _ O (by omega) (by omega) hB.size).mono ?_; rintro e w1 ⟨v1, rfl, O1, hb1, -⟩; replace O := O1; replace hB := hB.trans hb1; clear O1 hb1)
  go_ret
  refine ⟨_, rfl, ?_, hB⟩
  rw [hN.out]
  exact O
theorem own_u8 {w : World} {base n : Nat} {v : Value} {l : List Value} (h : w.ownsRow base 5 1 v n l) {k : Nat} {c : Array Value} (hk : w.heap[k]? = some (.cells c 3)) : some k ≠ v.ownBlock := by
  obtain ⟨h1, h2⟩ := h
  rcases h2 with ⟨rfl, -⟩ | ⟨g, cap, cur, rfl, e2, e3, -⟩
  · exact fun h => by cases h
  · intro h
    have : k = g := Option.some.inj h
    subst this
    rw [hk] at e3
    cases e3
/-- A key's bytes by and by. -/
def kpre (p b l a s : Int) : Nat → List UInt8
  | 0 => [1, b8 p, b8 s]
  | 1 => [1, b8 p, b8 s] ++ hi2 b
  | 2 => [1, b8 p, b8 s] ++ hi2 b ++ hi2 l
  | _ => keyL p b l a s
def kint (b l a : Int) : Nat → Int
  | 0 => b
  | 1 => l
  | _ => a
theorem kpre_step (p b l a s : Int) : ∀ k : Nat, k < 3 → kpre p b l a s (k + 1) = kpre p b l a s k ++ hiK (kint b l a k) 2 2
  | 0, _ => by rw [hiK_2]; rfl
  | 1, _ => by rw [hiK_2]; rfl
  | 2, _ => by rw [hiK_2]; rfl
theorem kint_at (b l a : Int) : ∀ k : Nat, k < 3 → (#[.int .i64 b, .int .i64 l, .int .i64 a] : Array Value)[k]? = some (.int .i64 (kint b l a k))
  | 0, _ => rfl
  | 1, _ => rfl
  | 2, _ => rfl
set_option maxHeartbeats 400000 in
theorem cell_packkey (p b l a s : Int) (w : World) :
    Calls Try.prog 18 #[.agg #[.int .i64 p, .int .i64 b, .int .i64 l, .int .i64 a, .int .i64 s]] w fun e w' => ∃ v, e = .returned v ∧ w'.ownsRow w.heap.size 5 1 v 9 ((keyL p b l a s).map bc) ∧ Below w.heap.size w w' := by
  have O0 := own_new (w.alloc (.cells #[.int .i64 p, .int .i64 b, .int .i64 l, .int .i64 a, .int .i64 s] 23)) [1, b8 p, b8 s] #[.int .u8 1, .int .u8 (p % 256), .int .u8 (s % 256)] (by simp [bc, b8_nat]) (by simp)
  have O1 := O0.alloc (.cells #[.int .i64 b, .int .i64 l, .int .i64 a] 3)
  have hN := heap_alloc_new ((w.alloc (.cells #[.int .i64 p, .int .i64 b, .int .i64 l, .int .i64 a, .int .i64 s] 23)).alloc (.cells #[.int .u8 1, .int .u8 (p % 256), .int .u8 (s % 256)] 5)) (.cells #[.int .i64 b, .int .i64 l, .int .i64 a] 3)
  rw [World.size_alloc] at O1
  rw [World.size_alloc, World.size_alloc] at hN
  have O : Hid _ := own_mono O1 (show w.heap.size ≤ w.heap.size + 1 by omega)
  have HN : Hid _ := hN
  clear O0 O1 hN
  go_enter Try.func18, Try.ntmps18
  go_wp2
  go_loopw [3, 21] (fun r i wr => ∃ k : Nat, k ≤ 3 ∧ i = .int .i64 (k : Int) ∧ wr.ownsRow w.heap.size 5 1 r (3 + 2 * k) ((kpre p b l a s k).map bc) ∧ Below w.heap.size w wr ∧ wr.heap[w.heap.size + 1 + 1]? = some (.cells #[.int .i64 b, .int .i64 l, .int .i64 a] 3)) (fun _ i _ => 3 - (intOf i).toNat)
  case atStart => exact ⟨0, by decide, rfl, O.out, three _ _ _, HN.out⟩
  case round =>
    obtain ⟨k, hk, rfl, ho, hB, hint⟩ := hrel
    by_cases hlt : k < 3
    · have hX := own_u8 ho hint
      have hst := kpre_step p b l a s k hlt
      have hsz := (Array.getElem?_eq_some_iff.1 hint).1
      have q : ∀ o, wr.cell? ⟨w.heap.size + 1 + 1, o, none⟩ = (#[.int .i64 b, .int .i64 l, .int .i64 a] : Array Value)[o]? := fun o => by simp only [World.cell?, hint]; simp
      have qk := (q k).trans (kint_at b l a k hlt)
      clear O HN q
      go_wp2_with (go_at_call 29; refine (cell_append w.heap.size _ 2 _ _ _ _ ho (by omega) (by omega) hB.size).mono ?_; rintro e w1 ⟨v1, rfl, O1, hb1, hx1⟩)
      have HO : Hid (w1.ownsRow w.heap.size 5 1 v1 (3 + 2 * (k + 1)) ((kpre p b l a s (k + 1)).map bc)) := by rw [hst]; exact O1
      have HI : Hid (w1.heap[w.heap.size + 1 + 1]? = some (.cells #[.int .i64 b, .int .i64 l, .int .i64 a] 3)) := by rw [(hx1 _ hsz hX).1]; exact hint
      clear O1 hx1 hst hX hint
      go_wp2
      go_roundw
      case rel => exact ⟨k + 1, by omega, by go_num, HO.out, hB.trans hb1, HI.out⟩
      case measure => simp [intOf]; omega
    · obtain rfl : k = 3 := by omega
      go_wp2
      go_ret
      exact ⟨_, rfl, ho, hB⟩
theorem pack_ok {i : Bool} {n p b l a s : Int} (h : chkV i n p b l a s = 0) : -2147483648 ≤ n ∧ n ≤ 2147483647 := by
  cases i
  · exact (numE_ok h).1
  · have := (keyE_ok h).1; omega
set_option maxHeartbeats 4000000 in
theorem cell_pack (i : Bool) (n p b l a s : Int) (w : World) (hb : vb n p b l a s) :
    Calls Try.prog 9 #[.agg #[.bool i, .int .i64 n, .int .i64 p, .int .i64 b, .int .i64 l, .int .i64 a, .int .i64 s]] w fun e w' => e = .returned (.tuple #[.string (packB i n p b l a s), .int .i64 (chkV i n p b l a s)]) ∧ Below w.heap.size w w' := by
  by_cases hc : chkV i n p b l a s = 0
  · have hr := pack_ok hc
    have hp := pack_yes hc
    have hP : packB i n p b l a s = ⟨(fullL i n p b l a s).toArray⟩ := by unfold packB; rw [hp]
    rw [hP, hc]
    clear hp hP
    obtain ⟨i0, hi, hz0, hz1, hz2⟩ := info_u8'
    cases i
    · go_enter Try.func9, Try.ntmps9
      go_wp2_with (first | (go_at_call 11; refine (cell_check _ _ _ _ _ _ _ _ hb).mono ?_; simp only [hc]; rintro e w1 ⟨rfl, hbb⟩; have B1 := (Box.new _ _ _).below hbb; have q1 := B1.cell; have hB := Below.step0 ((Below.refl _ _).alloc (Nat.le_refl _) _) hbb; clear hbb) | (go_at_call 17; refine (cell_packnumber _ _ hr).mono ?_; rintro e w2 ⟨v2, rfl, O2, hbb⟩; replace B1 := B1.below hbb; clear q1; have q1 := B1.cell; replace O2 := own_mono O2 hB.size; replace hB := Below.step0 hB hbb; have cv := conv_own O2 (by decide); clear hbb) | (go_at_call 18; refine (cell_packkey _ _ _ _ _ _).mono ?_; rintro e w2 ⟨v2, rfl, O3, hbb⟩; replace B1 := B1.below hbb; clear q1 O2 cv; have q1 := B1.cell; have O2 := own_mono O3 hB.size; replace hB := Below.step0 hB hbb; have cv := conv_own O2 (by decide); clear hbb O3) | (go_at_call 19; refine (cell_sum _ _ (by show 9 ≤ 16; decide)).mono ?_; rintro e w3 ⟨rfl, rfl⟩) | (at_builtin; refine wpList_append_lies _ rfl _ _ _ rfl w.heap.size 5 i0 _ 1 1 Try.underlying36 hi hz0 hz1 hz2 rfl (by omega) _ 9 _ rfl (O2.alloc _) ⟨_, 0, none⟩ 1 1 [bc (sumL (numL n))] rfl rfl (World.news_of_block (cs := #[bc (sumL (numL n))]) (t := 5) (fr := (0, 0)) (heap_alloc_new _ (.cells #[bc (sumL (numL n))] 5))) (by intro u hu; simp only [List.mem_cons, List.not_mem_nil, or_false] at hu; subst hu; rfl) (by omega) (by unfold maxLen; omega) (by omega) (by have := hB.size; simp; omega) _ rfl ?_; intro g cap w4 hown1 hgrow hat hlt1; replace hB := Below.grown (hB.alloc hB.size _) hgrow (by have := hB.size; simp; omega) (fun j hj => (O2.lt j hj).1); have cv2 := conv_own (l := numL n ++ [sumL (numL n)]) (n := 10) (by rw [List.map_append]; exact hown1) (by decide); clear hown1 hgrow hat cv O2 q1 B1))
      go_ret2
      exact ⟨rfl, hB⟩
    · go_enter Try.func9, Try.ntmps9
      go_wp2_with (first | (go_at_call 11; refine (cell_check _ _ _ _ _ _ _ _ hb).mono ?_; simp only [hc]; rintro e w1 ⟨rfl, hbb⟩; have B1 := (Box.new _ _ _).below hbb; have q1 := B1.cell; have hB := Below.step0 ((Below.refl _ _).alloc (Nat.le_refl _) _) hbb; clear hbb) | (go_at_call 17; refine (cell_packnumber _ _ hr).mono ?_; rintro e w2 ⟨v2, rfl, O2, hbb⟩; replace B1 := B1.below hbb; clear q1; have q1 := B1.cell; replace O2 := own_mono O2 hB.size; replace hB := Below.step0 hB hbb; have cv := conv_own O2 (by decide); clear hbb) | (go_at_call 18; refine (cell_packkey _ _ _ _ _ _).mono ?_; rintro e w2 ⟨v2, rfl, O3, hbb⟩; replace B1 := B1.below hbb; clear q1 O2 cv; have q1 := B1.cell; have O2 := own_mono O3 hB.size; replace hB := Below.step0 hB hbb; have cv := conv_own O2 (by decide); clear hbb O3) | (go_at_call 19; refine (cell_sum _ _ (by show 9 ≤ 16; decide)).mono ?_; rintro e w3 ⟨rfl, rfl⟩) | (at_builtin; refine wpList_append_lies _ rfl _ _ _ rfl w.heap.size 5 i0 _ 1 1 Try.underlying36 hi hz0 hz1 hz2 rfl (by omega) _ 9 _ rfl (O2.alloc _) ⟨_, 0, none⟩ 1 1 [bc (sumL (keyL p b l a s))] rfl rfl (World.news_of_block (cs := #[bc (sumL (keyL p b l a s))]) (t := 5) (fr := (0, 0)) (heap_alloc_new _ (.cells #[bc (sumL (keyL p b l a s))] 5))) (by intro u hu; simp only [List.mem_cons, List.not_mem_nil, or_false] at hu; subst hu; rfl) (by omega) (by unfold maxLen; omega) (by omega) (by have := hB.size; simp; omega) _ rfl ?_; intro g cap w4 hown1 hgrow hat hlt1; replace hB := Below.grown (hB.alloc hB.size _) hgrow (by have := hB.size; simp; omega) (fun j hj => (O2.lt j hj).1); have cv2 := conv_own (l := keyL p b l a s ++ [sumL (keyL p b l a s)]) (n := 10) (by rw [List.map_append]; exact hown1) (by decide); clear hown1 hgrow hat cv O2 q1 B1))
      go_ret2
      exact ⟨rfl, hB⟩
  · have hP : packB i n p b l a s = ⟨#[]⟩ := by unfold packB; rw [pack_no hc]
    have hc' : (chkV i n p b l a s == 0) = false := by simpa using hc
    rw [hP]
    clear hc hP
    go_enter Try.func9, Try.ntmps9
    go_wp2_with (go_at_call 11; refine (cell_check _ _ _ _ _ _ _ _ hb).mono ?_; rintro e w1 ⟨rfl, hbb⟩; have B1 := (Box.new _ _ _).below hbb; have q1 := B1.cell; have hB := Below.step0 ((Below.refl _ _).alloc (Nat.le_refl _) _) hbb; clear hbb)
    go_ret2
    exact ⟨rfl, hB⟩
end Go.Proofs.Ytilbijocapmjbaa
