/-
  The walks of drawn mats.
-/
import Derived.Test.YtplbamcoobafgaaDrawPt
import Derived.Test.YtplbamcoobafgaaPlaceS
namespace Go.Proofs.Ytplbamcoobafgaa
open Go.RowKit

set_option maxHeartbeats 2000000 in
set_option maxRecDepth 100000 in
theorem l04Mat_any (g B : Nat) (a : Option Addr) (len cap : Nat) (w : World) (hl : len ≤ 1048576) (h : DS w w g B a len cap) :
    Calls Try.prog 31 #[.pointer (some ⟨g, 0, none⟩)] w fun e w' => ∃ m0 m1 m2 m3 m4 m5 : Int, ((-98304 ≤ m0 ∧ m0 ≤ 98304) ∧ (-98304 ≤ m1 ∧ m1 ≤ 98304) ∧ (-98304 ≤ m2 ∧ m2 ≤ 98304) ∧ (-98304 ≤ m3 ∧ m3 ≤ 98304) ∧ (-400 ≤ m4 ∧ m4 ≤ 800) ∧ (-400 ≤ m5 ∧ m5 ≤ 800)) ∧ e = .returned (.agg #[.int .i64 m0, .int .i64 m1, .int .i64 m2, .int .i64 m3, .int .i64 m4, .int .i64 m5]) ∧ DS w w' g B a len cap := by
  have D0 := hide h
  clear h
  go_enter Try.func31, Try.ntmps31
  go_wp2_with fail
  have D1 := hide ((unhide D0).alloc (.cells #[.int .i64 0, .int .i64 0, .int .i64 0, .int .i64 0, .int .i64 0, .int .i64 0] 37))
  refine (draw_any (unhide D1) hl 1200 (by omega) (by omega)).mono ?_
  rintro e w1 ⟨x, hx, rfl, d2, g2⟩
  have R1 := hide ((unhide D1).heap g2 (Nat.le_refl _) (al1_0 _ _))
  have D2 := hide d2
  clear d2 g2
  go_wp2_with fail
  refine (draw_any (unhide D2) hl 1200 (by omega) (by omega)).mono ?_
  rintro e w2 ⟨y, hy, rfl, d3, g3⟩
  have R2 := hide ((unhide D2).heap g3 (Nat.le_refl _) (unhide R1))
  have D3 := hide d3
  clear d3 g3
  go_wp2_with fail
  refine (specShift_any ((x : Int) - 400) ((y : Int) - 400) _).mono ?_
  rintro e w3 ⟨rfl, hb3⟩
  have R3 := hide ((unhide D3).heap (grows_by hb3 _) (Nat.le_refl _) (unhide R2))
  have D4 := hide ((unhide D3).calls hb3)
  have hs3 : w.heap.size < w3.heap.size := heap_lt (unhide R3)
  clear hb3
  go_wp2_with fail
  have D5 := hide ((unhide D4).alloc (.cells #[.int .i64 65536, .int .i64 0, .int .i64 0, .int .i64 65536, .int .i64 ((x : Int) - 400), .int .i64 ((y : Int) - 400)] 37))
  have R4 := hide ((unhide D4).heap (World.grownBy_alloc w3 (.cells #[.int .i64 65536, .int .i64 0, .int .i64 0, .int .i64 65536, .int .i64 ((x : Int) - 400), .int .i64 ((y : Int) - 400)] 37) _) (Nat.le_refl _) (unhide R3))
  refine (draw_any (unhide D5) hl 6 (by omega) (by omega)).mono ?_
  rintro e w4 ⟨k, hk, rfl, d6, g6⟩
  have M6 := hide ((unhide D5).heap g6 (Nat.le_of_lt hs3) (al1_0 _ _))
  have R6 := hide ((unhide D5).heap g6 (Nat.le_refl _) (unhide R4))
  have D6 := hide d6
  clear d6 g6
  have ne1 : ¬ w3.heap.size = w.heap.size := by omega
  have ne2 : ¬ w.heap.size = w3.heap.size := by omega
  have hle : w.heap.size ≤ w3.heap.size := by omega
  obtain rfl | rfl | rfl | hk3 : k = 0 ∨ k = 1 ∨ k = 2 ∨ 3 ≤ k := by omega
  · go_wp2_with fail
    refine (draw_any (unhide D6) hl 65536 (by omega) (by omega)).mono ?_
    rintro e w5 ⟨p, hp, rfl, d7, g7⟩
    have m7 := (unhide D6).heap g7 hle (unhide M6)
    have r7 := (unhide D6).heap g7 (Nat.le_refl _) (unhide R6)
    obtain ⟨c0, c1, c2, c3, c4, c5⟩ := row6 m7
    obtain ⟨e0, e1, e2, e3, e4, e5⟩ := free6 m7
    have M8 := hide (set6_0 (v := .int .i64 (32768 + (p : Int))) m7)
    have R8 := hide (set_other (b := w3.heap.size) (j := 0) (v := .int .i64 (32768 + (p : Int))) ne2 r7)
    have D8 := hide (d7.put (b := w3.heap.size) 0 (.int .i64 (32768 + (p : Int))) hle)
    clear d7 g7 m7 r7
    go_wp2_with fail
    refine (draw_any (unhide D8) hl 65536 (by omega) (by omega)).mono ?_
    rintro e w6 ⟨q, hq, rfl, d9, g9⟩
    have m9 := (unhide D8).heap g9 hle (unhide M8)
    have r9 := (unhide D8).heap g9 (Nat.le_refl _) (unhide R8)
    clear c0 c1 c2 c3 c4 c5 e0 e1 e2 e3 e4 e5
    obtain ⟨c0, c1, c2, c3, c4, c5⟩ := row6 m9
    obtain ⟨e0, e1, e2, e3, e4, e5⟩ := free6 m9
    obtain ⟨r0, r1, r2, r3, r4, r5⟩ := row6 r9
    obtain ⟨f0, f1, f2, f3, f4, f5⟩ := free6 r9
    have D9 := hide d9
    clear d9 g9 m9 r9
    go_wp2_with fail
    refine bodyPost_ret (v := .agg #[.int .i64 (32768 + (p : Int)), .int .i64 0, .int .i64 0, .int .i64 (32768 + (q : Int)), .int .i64 ((x : Int) - 400), .int .i64 ((y : Int) - 400)]) (by simp [results, Try.results31, go_sem, *]) rfl ⟨_, _, _, _, _, _, ⟨?_, ?_, ?_, ?_, ?_, ?_⟩, rfl, ?_⟩
    all_goals first | omega | exact ((((((((unhide D9).put 3 _ hle).put 0 _ (Nat.le_refl _)).put 1 _ (Nat.le_refl _)).put 2 _ (Nat.le_refl _)).put 3 _ (Nat.le_refl _)).put 4 _ (Nat.le_refl _)).put 5 _ (Nat.le_refl _))
  · have m7 := unhide M6
    have r7 := unhide R6
    obtain ⟨c0, c1, c2, c3, c4, c5⟩ := row6 m7
    obtain ⟨e0, e1, e2, e3, e4, e5⟩ := free6 m7
    obtain ⟨r0, r1, r2, r3, r4, r5⟩ := row6 r7
    obtain ⟨f0, f1, f2, f3, f4, f5⟩ := free6 r7
    clear m7 r7
    go_wp2_with fail
    refine bodyPost_ret (v := .agg #[.int .i64 0, .int .i64 65536, .int .i64 (-65536), .int .i64 0, .int .i64 ((x : Int) - 400), .int .i64 ((y : Int) - 400)]) (by simp [results, Try.results31, go_sem, *]) rfl ⟨_, _, _, _, _, _, ⟨?_, ?_, ?_, ?_, ?_, ?_⟩, rfl, ?_⟩
    all_goals first | omega | exact (((((((((((unhide D6).put 0 _ hle).put 1 _ hle).put 2 _ hle).put 3 _ hle).put 0 _ (Nat.le_refl _)).put 1 _ (Nat.le_refl _)).put 2 _ (Nat.le_refl _)).put 3 _ (Nat.le_refl _)).put 4 _ (Nat.le_refl _)).put 5 _ (Nat.le_refl _))
  · go_wp2_with fail
    refine (draw_any (unhide D6) hl 65536 (by omega) (by omega)).mono ?_
    rintro e w5 ⟨p, hp, rfl, d7, g7⟩
    have m7 := (unhide D6).heap g7 hle (unhide M6)
    have r7 := (unhide D6).heap g7 (Nat.le_refl _) (unhide R6)
    obtain ⟨c0, c1, c2, c3, c4, c5⟩ := row6 m7
    obtain ⟨e0, e1, e2, e3, e4, e5⟩ := free6 m7
    obtain ⟨r0, r1, r2, r3, r4, r5⟩ := row6 r7
    obtain ⟨f0, f1, f2, f3, f4, f5⟩ := free6 r7
    have D7 := hide d7
    clear d7 g7 m7 r7
    go_wp2_with fail
    refine bodyPost_ret (v := .agg #[.int .i64 65536, .int .i64 0, .int .i64 ((p : Int) - 32768), .int .i64 65536, .int .i64 ((x : Int) - 400), .int .i64 ((y : Int) - 400)]) (by simp [results, Try.results31, go_sem, *]) rfl ⟨_, _, _, _, _, _, ⟨?_, ?_, ?_, ?_, ?_, ?_⟩, rfl, ?_⟩
    all_goals first | omega | exact ((((((((unhide D7).put 2 _ hle).put 0 _ (Nat.le_refl _)).put 1 _ (Nat.le_refl _)).put 2 _ (Nat.le_refl _)).put 3 _ (Nat.le_refl _)).put 4 _ (Nat.le_refl _)).put 5 _ (Nat.le_refl _))
  · have k0 : ((k : Int) == 0) = false := beq_eq_false_iff_ne.2 (by omega)
    have k1 : ((k : Int) == 1) = false := beq_eq_false_iff_ne.2 (by omega)
    have k2 : ((k : Int) == 2) = false := beq_eq_false_iff_ne.2 (by omega)
    have m7 := unhide M6
    have r7 := unhide R6
    obtain ⟨c0, c1, c2, c3, c4, c5⟩ := row6 m7
    obtain ⟨e0, e1, e2, e3, e4, e5⟩ := free6 m7
    obtain ⟨r0, r1, r2, r3, r4, r5⟩ := row6 r7
    obtain ⟨f0, f1, f2, f3, f4, f5⟩ := free6 r7
    clear m7 r7
    go_wp2_with fail
    refine bodyPost_ret (v := .agg #[.int .i64 65536, .int .i64 0, .int .i64 0, .int .i64 65536, .int .i64 ((x : Int) - 400), .int .i64 ((y : Int) - 400)]) (by simp [results, Try.results31, go_sem, *]) rfl ⟨_, _, _, _, _, _, ⟨?_, ?_, ?_, ?_, ?_, ?_⟩, rfl, ?_⟩
    all_goals first | omega | exact (((((((unhide D6).put 0 _ (Nat.le_refl _)).put 1 _ (Nat.le_refl _)).put 2 _ (Nat.le_refl _)).put 3 _ (Nat.le_refl _)).put 4 _ (Nat.le_refl _)).put 5 _ (Nat.le_refl _))
end Go.Proofs.Ytplbamcoobafgaa
