/-
  The program's RectPath.
-/
import Derived.Test.YtplbamcoobafgaaRectS
import Derived.Test.YtplbamcoobafgaaRectR
import Derived.Test.YtplbamcoobafgaaBoxI
import Derived.Test.YtplbamcoobafgaaPathI
import Derived.Test.YtplbamcoobafgaaPathV
namespace Go.Proofs.Ytplbamcoobafgaa
open Go.RowKit

set_option maxHeartbeats 4000000 in
set_option maxRecDepth 100000 in
theorem implCornersOf_any (a b c d : Int) (w : World) :
    Calls Try.prog 22 #[.agg #[.int .i64 a, .int .i64 b, .int .i64 c, .int .i64 d]] w fun r w' => r = .returned (.slice (some ⟨w.heap.size + 1, 0, none⟩) 4 4) ∧ w'.heap[w.heap.size + 1]? = some (.cells #[.int .i64 a, .int .i64 b, .int .i64 c, .int .i64 b, .int .i64 c, .int .i64 d, .int .i64 a, .int .i64 d] 39 (0, 0)) ∧ Below w.heap.size w w' := by
  go_enter Try.func22, Try.ntmps22
  go_wp2_with fail
  go_ret
  exact ⟨rfl, al2_1 _ _ _, al2_below _ _ _⟩

set_option maxHeartbeats 4000000 in
set_option maxRecDepth 100000 in
theorem implRectPath_any (a b c d : Int) (w : World) :
    Calls Try.prog 7 #[.agg #[.int .i64 a, .int .i64 b, .int .i64 c, .int .i64 d]] w fun r w' => PathRes w r w' (rectN (rectOk a b c d)) (rectM (rectOk a b c d)) rectV (rectP a b c d) := by
  have E0 := hide (implEmpty_any a b c d)
  have EC := hide (implCornersOf_any a b c d)
  have eo : Hid (rectOk a b c d = (!emptyB a b c d && (pointOkB a b && pointOkB c d))) := rfl
  have e4 := hide (four_ok a b c d)
  generalize rectOk a b c d = ok at eo ⊢
  generalize emptyB a b c d = e0 at E0 eo
  generalize (pointOkB a b && pointOkB c d) = e1 at e4 eo
  go_enter Try.func7, Try.ntmps7
  go_wp2_with fail
  obtain ⟨W, hW⟩ : ∃ W, W = ((w.alloc (.cells #[.int .i64 a, .int .i64 b, .int .i64 c, .int .i64 d] 29)).alloc (.cells #[.slice none 0 0, .slice none 0 0] 27)).alloc (.cells #[.int .i64 1, .int .i64 2, .int .i64 2, .int .i64 2, .int .i64 5] 3) := ⟨_, rfl⟩
  have HB := hide (show Below w.heap.size w W by rw [hW]; exact al3_below _ _ _ _)
  have R0 := hide (show W.heap[w.heap.size]? = some (.cells #[.int .i64 a, .int .i64 b, .int .i64 c, .int .i64 d] 29 (0, 0)) by rw [hW]; exact al3_0 _ _ _ _)
  have R1 := hide (show W.heap[w.heap.size + 1]? = some (.cells #[.slice none 0 0, .slice none 0 0] 27 (0, 0)) by rw [hW]; exact al3_1 _ _ _ _)
  have R2 := hide (show W.heap[w.heap.size + 1 + 1]? = some (.cells #[.int .i64 1, .int .i64 2, .int .i64 2, .int .i64 2, .int .i64 5] 3 (0, 0)) by rw [hW]; exact al3_2 _ _ _ _)
  have hz := hide (show w.heap.size + 1 + 1 < W.heap.size from heap_lt (unhide R2))
  rw [← hW]
  clear hW
  go_fit (unhide EC _)
  rintro r w0 ⟨rfl, h3, hb⟩
  obtain ⟨p, hp⟩ : ∃ p, Hid (p = W.heap.size + 1) := ⟨_, rfl⟩
  rw [← unhide hp] at h3 ⊢
  have hpz : Hid (w.heap.size + 1 + 1 < p) := by rw [unhide hp]; exact Nat.lt_succ_of_lt (unhide hz)
  have R3 := hide h3
  replace HB := hide (below_two (unhide HB) hb)
  replace R0 := hide (row_next hb (unhide R0))
  replace R1 := hide (row_next hb (unhide R1))
  replace R2 := hide (row_next hb (unhide R2))
  clear hb h3 hp hz EC
  have E1 := hide (implPathOk_any rectV (rectP a b c d) (some ⟨w.heap.size + 1 + 1, 0, none⟩) (some ⟨p, 0, none⟩) 5 5 4 4 (by omega) (by omega))
  obtain ⟨b0, b1, b2, b3⟩ := row4 (old_row (.cells #[.slice (some ⟨w.heap.size + 1 + 1, 0, none⟩) 5 5, .slice (some ⟨p, 0, none⟩) 4 4] 27) (unhide R0))
  go_wp2_with fail
  clear b0 b1 b2 b3
  obtain ⟨V, hV⟩ : ∃ V, V = w0.alloc (.cells #[.slice (some ⟨w.heap.size + 1 + 1, 0, none⟩) 5 5, .slice (some ⟨p, 0, none⟩) 4 4] 27) := ⟨_, rfl⟩
  have hn := hide (show Below w0.heap.size w0 V by rw [hV]; exact al1_below _ _)
  have R4 := hide (show V.heap[w0.heap.size]? = some (.cells #[.slice (some ⟨w.heap.size + 1 + 1, 0, none⟩) 5 5, .slice (some ⟨p, 0, none⟩) 4 4] 27 (0, 0)) by rw [hV]; exact al1_0 _ _)
  replace HB := hide (below_two (unhide HB) (unhide hn))
  replace R1 := hide (row_next (unhide hn) (unhide R1))
  replace R2 := hide (row_next (unhide hn) (unhide R2))
  replace R3 := hide (row_next (unhide hn) (unhide R3))
  rw [← hV]
  clear hV hn R0
  go_fit (unhide E0 _)
  rintro r w1 ⟨rfl, hb⟩
  replace HB := hide (below_two (unhide HB) hb)
  replace R1 := hide (row_next hb (unhide R1))
  replace R2 := hide (row_next hb (unhide R2))
  replace R3 := hide (row_next hb (unhide R3))
  replace R4 := hide (row_next hb (unhide R4))
  clear hb E0
  cases e0 with
  | true =>
    obtain rfl : ok = false := unhide eo
    obtain ⟨f0, f1⟩ := free2 (unhide R1)
    obtain ⟨c0, c1⟩ := row2 (unhide R1)
    go_wp2_with fail
    refine bodyPost_ret (v := .agg #[.slice none 0 0, .slice none 0 0]) (by simp [results, Try.results7, go_sem, c0, c1]) rfl ?_
    exact res_none (below_put2 (unhide HB) (by omega) _ _)
  | false =>
    obtain ⟨k0, k1⟩ := row2 (unhide R4)
    have PV : Hid (PathV w1 w.heap.size (.slice (some ⟨w.heap.size + 1 + 1, 0, none⟩) 5 5) (.slice (some ⟨p, 0, none⟩) 4 4) 5 4 rectV (rectP a b c d)) := ⟨_, _, ⟨own_of_row (cs := #[.int .i64 1, .int .i64 2, .int .i64 2, .int .i64 2, .int .i64 5]) (unhide R2) (by omega) rfl (by decide), own_of_row (cs := #[.int .i64 a, .int .i64 b, .int .i64 c, .int .i64 b, .int .i64 c, .int .i64 d, .int .i64 a, .int .i64 d]) (unhide R3) (by have := unhide hpz; omega) rfl (by decide), .inr (fun h => by have h' : w.heap.size + 1 + 1 = p := Option.some.inj h; have := unhide hpz; omega)⟩, ix_list [1, 2, 2, 2, 5], px_list [(a, b), (c, b), (c, d), (a, d)]⟩
    go_wp2_with fail
    go_fit (unhide E1 _ e1 (unhide e4) (unhide PV).ints (unhide PV).pts)
    rintro r w2 ⟨rfl, hb⟩
    replace HB := hide (below_two (unhide HB) hb)
    replace R1 := hide (row_next hb (unhide R1))
    replace R4 := hide (row_next hb (unhide R4))
    replace PV := hide ((unhide PV).next hb)
    clear hb k0 k1 E1 R2 R3
    cases e1 with
    | false =>
      obtain rfl : ok = false := unhide eo
      obtain ⟨f0, f1⟩ := free2 (unhide R1)
      obtain ⟨c0, c1⟩ := row2 (unhide R1)
      go_wp2_with fail
      refine bodyPost_ret (v := .agg #[.slice none 0 0, .slice none 0 0]) (by simp [results, Try.results7, go_sem, c0, c1]) rfl ?_
      exact res_none (below_put2 (unhide HB) (by omega) _ _)
    | true =>
      obtain rfl : ok = true := unhide eo
      obtain ⟨f0, f1⟩ := free2 (unhide R1)
      obtain ⟨c0, c1⟩ := row2 (unhide R1)
      obtain ⟨k0, k1⟩ := row2 (unhide R4)
      go_wp2_with fail
      refine bodyPost_ret (v := .agg #[.slice (some ⟨w.heap.size + 1 + 1, 0, none⟩) 5 5, .slice (some ⟨p, 0, none⟩) 4 4]) (by simp [results, Try.results7, go_sem, c0, c1]) rfl ?_
      obtain ⟨xs, ys, o, hx, hy⟩ := (unhide PV).put (q := w.heap.size + 1) (x := .slice (some ⟨w.heap.size + 1 + 1, 0, none⟩) 5 5) (y := .slice (some ⟨p, 0, none⟩) 4 4) ⟨fun e => by have h' : w.heap.size + 1 = w.heap.size + 1 + 1 := Option.some.inj e; omega, fun e => by have h' : w.heap.size + 1 = p := Option.some.inj e; have := unhide hpz; omega⟩
      exact ⟨_, _, xs, ys, rfl, o, hx, hy, below_put2 (unhide HB) (by omega) _ _⟩
end Go.Proofs.Ytplbamcoobafgaa
