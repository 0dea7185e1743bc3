/-
  The program's RectPath.
-/
import Derived.Test.YtmonjackmhijcaaRectS
import Derived.Test.YtmonjackmhijcaaRectR
import Derived.Test.YtmonjackmhijcaaBoxI
import Derived.Test.YtmonjackmhijcaaPathI
import Derived.Test.YtmonjackmhijcaaPathV
namespace Go.Proofs.Ytmonjackmhijcaa
open Go.RowKit

set_option maxHeartbeats 4000000 in
set_option maxRecDepth 100000 in
theorem implRectPath_any (a b c d : Int) (w : World) :
    Calls Try.prog 15 #[.agg #[.int .i64 a, .int .i64 b, .int .i64 c, .int .i64 d]] w fun r w' => PathRes w r w' (rectN (rectOk a b c d)) (rectM (rectOk a b c d)) rectV (rectP a b c d) := by
  have E0 := hide (implEmpty_any a b c d)
  have E1 := hide (implPathOk_any rectV (rectP a b c d) (some ⟨w.heap.size + 1 + 1, 0, none⟩) (some ⟨w.heap.size + 1 + 1 + 1, 0, none⟩) 5 5 4 4 (by omega) (by omega))
  have eo : Hid (rectOk a b c d = (!emptyB a b c d && (pointOkB a b && pointOkB c d))) := rfl
  have e4 := hide (four_ok a b c d)
  generalize rectOk a b c d = ok at eo ⊢
  generalize emptyB a b c d = e0 at E0 eo
  generalize (pointOkB a b && pointOkB c d) = e1 at e4 eo
  go_enter Try.func15, Try.ntmps15
  go_wp2_with fail
  obtain ⟨W, hW⟩ : ∃ W, W = ((((w.alloc (.cells #[.int .i64 a, .int .i64 b, .int .i64 c, .int .i64 d] 40)).alloc (.cells #[.slice none 0 0, .slice none 0 0] 33)).alloc (.cells #[.int .i64 1, .int .i64 2, .int .i64 2, .int .i64 2, .int .i64 5] 3)).alloc (.cells #[.int .i64 a, .int .i64 b, .int .i64 c, .int .i64 b, .int .i64 c, .int .i64 d, .int .i64 a, .int .i64 d] 27)).alloc (.cells #[.slice (some ⟨w.heap.size + 1 + 1, 0, none⟩) 5 5, .slice (some ⟨w.heap.size + 1 + 1 + 1, 0, none⟩) 4 4] 33) := ⟨_, rfl⟩
  have HB := hide (show Below w.heap.size w W by rw [hW]; exact below_new _ (al4_below _ _ _ _ _) (Nat.le_refl _))
  have R1 := hide (show W.heap[w.heap.size + 1]? = some (.cells #[.slice none 0 0, .slice none 0 0] 33 (0, 0)) by rw [hW]; exact old_row _ (al4_1 _ _ _ _ _))
  have R2 := hide (show W.heap[w.heap.size + 1 + 1]? = some (.cells #[.int .i64 1, .int .i64 2, .int .i64 2, .int .i64 2, .int .i64 5] 3 (0, 0)) by rw [hW]; exact old_row _ (al4_2 _ _ _ _ _))
  have R3 := hide (show W.heap[w.heap.size + 1 + 1 + 1]? = some (.cells #[.int .i64 a, .int .i64 b, .int .i64 c, .int .i64 b, .int .i64 c, .int .i64 d, .int .i64 a, .int .i64 d] 27 (0, 0)) by rw [hW]; exact old_row _ (al4_3 _ _ _ _ _))
  have R4 := hide (show W.heap[w.heap.size + 1 + 1 + 1 + 1]? = some (.cells #[.slice (some ⟨w.heap.size + 1 + 1, 0, none⟩) 5 5, .slice (some ⟨w.heap.size + 1 + 1 + 1, 0, none⟩) 4 4] 33 (0, 0)) by rw [hW]; have h := new_row ((((w.alloc (.cells #[.int .i64 a, .int .i64 b, .int .i64 c, .int .i64 d] 40)).alloc (.cells #[.slice none 0 0, .slice none 0 0] 33)).alloc (.cells #[.int .i64 1, .int .i64 2, .int .i64 2, .int .i64 2, .int .i64 5] 3)).alloc (.cells #[.int .i64 a, .int .i64 b, .int .i64 c, .int .i64 b, .int .i64 c, .int .i64 d, .int .i64 a, .int .i64 d] 27)) (.cells #[.slice (some ⟨w.heap.size + 1 + 1, 0, none⟩) 5 5, .slice (some ⟨w.heap.size + 1 + 1 + 1, 0, none⟩) 4 4] 33); rw [al4_size] at h; exact h)
  rw [← hW]
  clear hW
  go_fit (unhide E0 _)
  rintro r w1 ⟨rfl, hb⟩
  replace HB := hide (below_two (unhide HB) hb)
  replace R1 := hide (row_next hb (unhide R1))
  replace R2 := hide (row_next hb (unhide R2))
  replace R3 := hide (row_next hb (unhide R3))
  replace R4 := hide (row_next hb (unhide R4))
  clear hb E0
  cases e0 with
  | true =>
    obtain rfl : ok = false := unhide eo
    obtain ⟨f0, f1⟩ := free2 (unhide R1)
    obtain ⟨c0, c1⟩ := row2 (unhide R1)
    go_wp2_with fail
    refine bodyPost_ret (v := .agg #[.slice none 0 0, .slice none 0 0]) (by simp [results, Try.results15, go_sem, c0, c1]) rfl ?_
    exact res_none (below_put2 (unhide HB) (by omega) _ _)
  | false =>
    obtain ⟨k0, k1⟩ := row2 (unhide R4)
    have PV : Hid (PathV w1 w.heap.size (.slice (some ⟨w.heap.size + 1 + 1, 0, none⟩) 5 5) (.slice (some ⟨w.heap.size + 1 + 1 + 1, 0, none⟩) 4 4) 5 4 rectV (rectP a b c d)) := ⟨_, _, ⟨own_of_row (cs := #[.int .i64 1, .int .i64 2, .int .i64 2, .int .i64 2, .int .i64 5]) (unhide R2) (by omega) rfl (by decide), own_of_row (cs := #[.int .i64 a, .int .i64 b, .int .i64 c, .int .i64 b, .int .i64 c, .int .i64 d, .int .i64 a, .int .i64 d]) (unhide R3) (by omega) rfl (by decide), .inr (fun h => by have h' : w.heap.size + 1 + 1 = w.heap.size + 1 + 1 + 1 := Option.some.inj h; omega)⟩, ix_list [1, 2, 2, 2, 5], px_list [(a, b), (c, b), (c, d), (a, d)]⟩
    go_wp2_with fail
    go_fit (unhide E1 _ e1 (unhide e4) (unhide PV).ints (unhide PV).pts)
    rintro r w2 ⟨rfl, hb⟩
    replace HB := hide (below_two (unhide HB) hb)
    replace R1 := hide (row_next hb (unhide R1))
    replace R4 := hide (row_next hb (unhide R4))
    replace PV := hide ((unhide PV).next hb)
    clear hb k0 k1 E1 R2 R3
    cases e1 with
    | false =>
      obtain rfl : ok = false := unhide eo
      obtain ⟨f0, f1⟩ := free2 (unhide R1)
      obtain ⟨c0, c1⟩ := row2 (unhide R1)
      go_wp2_with fail
      refine bodyPost_ret (v := .agg #[.slice none 0 0, .slice none 0 0]) (by simp [results, Try.results15, go_sem, c0, c1]) rfl ?_
      exact res_none (below_put2 (unhide HB) (by omega) _ _)
    | true =>
      obtain rfl : ok = true := unhide eo
      obtain ⟨f0, f1⟩ := free2 (unhide R1)
      obtain ⟨c0, c1⟩ := row2 (unhide R1)
      obtain ⟨k0, k1⟩ := row2 (unhide R4)
      go_wp2_with fail
      refine bodyPost_ret (v := .agg #[.slice (some ⟨w.heap.size + 1 + 1, 0, none⟩) 5 5, .slice (some ⟨w.heap.size + 1 + 1 + 1, 0, none⟩) 4 4]) (by simp [results, Try.results15, go_sem, c0, c1]) rfl ?_
      obtain ⟨xs, ys, o, hx, hy⟩ := (unhide PV).put (q := w.heap.size + 1) (x := .slice (some ⟨w.heap.size + 1 + 1, 0, none⟩) 5 5) (y := .slice (some ⟨w.heap.size + 1 + 1 + 1, 0, none⟩) 4 4) ⟨fun e => by have h' : w.heap.size + 1 = w.heap.size + 1 + 1 := Option.some.inj e; omega, fun e => by have h' : w.heap.size + 1 = w.heap.size + 1 + 1 + 1 := Option.some.inj e; omega⟩
      exact ⟨_, _, xs, ys, rfl, o, hx, hy, below_put2 (unhide HB) (by omega) _ _⟩
end Go.Proofs.Ytmonjackmhijcaa
