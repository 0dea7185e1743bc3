/-
  The walk of the program's joined: the least box around a row of boxes.
-/
import Derived.Test.YtkhacppaemilgaaJoinN
import Derived.Test.YtkhacppaemilgaaBoxI
import Derived.Lib.MinMax
import Derived.Deep.RegionHeld3
namespace Go.Proofs.Ytkhacppaemilgaa
open Go.RowKit

set_option maxHeartbeats 4000000 in
set_option maxRecDepth 100000 in
theorem implJoined_any (F : Nat → B4) (s n cap : Nat) (hn : n ≤ 1048576) (w : World) (H : ∀ i, i < n → HasBox w s i (F i)) :
    Calls Try.prog 57 #[.slice (some ⟨s, 0, none⟩) n cap] w fun r w' => r = .returned (.agg #[.int .i64 (joinN F n).x0, .int .i64 (joinN F n).y0, .int .i64 (joinN F n).x1, .int .i64 (joinN F n).y1]) ∧ Below w.heap.size w w' := by
  have HH := hide H
  clear H
  go_enter Try.func57, Try.ntmps57
  go_wp2_with fail
  go_loopw [9] (fun i u => ∃ k : Nat, k ≤ n ∧ i = .int .i64 k ∧ u.heap[w.heap.size]? = some (.cells #[.int .i64 0, .int .i64 0, .int .i64 0, .int .i64 0] 29 (0, 0)) ∧ u.heap[w.heap.size + 1]? = some (.cells #[.int .i64 (joinN F k).x0, .int .i64 (joinN F k).y0, .int .i64 (joinN F k).x1, .int .i64 (joinN F k).y1] 29 (0, 0)) ∧ Below w.heap.size w u) (fun i _ => n - (intOf i).toNat)
  case atStart => exact ⟨0, Nat.zero_le _, rfl, al2_0 _ _ _, al2_1 _ _ _, al2_below _ _ _⟩
  case round =>
    obtain ⟨k, hk, rfl, R, A, hb⟩ := hrel
    by_cases hlt : k < n
    · have HF := (unhide HH k hlt)
      have ex : Hid (joinN F (k + 1) = joinB (joinN F k) (F k)) := rfl
      have hp := hide (joinN_none F k)
      generalize joinN F k = P at A ex hp
      generalize F k = Q at HF ex
      obtain ⟨p0, p1, p2, p3⟩ := P
      obtain ⟨q0, q1, q2, q3⟩ := Q
      obtain ⟨g0, g1, g2, g3⟩ := HF
      replace g0 := kc hb g0
      replace g1 := kc hb g1
      replace g2 := kc hb g2
      replace g3 := kc hb g3
      have HB := hide hb
      clear hb
      dsimp only at A g0 g1 g2 g3
      have E1 := implEmpty_any q0 q1 q2 q3
      have E2 := implEmpty_any p0 p1 p2 p3
      obtain ⟨W, hW⟩ : ∃ W, W = wr.alloc (.cells #[.int .i64 q0, .int .i64 q1, .int .i64 q2, .int .i64 q3] 29) := ⟨_, rfl⟩
      have Q : W.heap[wr.heap.size]? = some (.cells #[.int .i64 q0, .int .i64 q1, .int .i64 q2, .int .i64 q3] 29 (0, 0)) := by rw [hW]; exact new_row _ _
      have R' : W.heap[w.heap.size]? = some (.cells #[.int .i64 0, .int .i64 0, .int .i64 0, .int .i64 0] 29 (0, 0)) := by rw [hW]; exact old_row _ R
      have A' : W.heap[w.heap.size + 1]? = some (.cells #[.int .i64 p0, .int .i64 p1, .int .i64 p2, .int .i64 p3] 29 (0, 0)) := by rw [hW]; exact old_row _ A
      have HB' := hide (show Below w.heap.size w W by rw [hW]; exact below_new _ (unhide HB) (Nat.le_refl _))
      have hne : ¬ w.heap.size = w.heap.size + 1 := by omega
      have hne2 : ¬ wr.heap.size = w.heap.size + 1 := by have := heap_lt A; omega
      cases hq : emptyB q0 q1 q2 q3
      · simp only [hq] at E1
        replace E1 := hide E1
        cases hpe : emptyB p0 p1 p2 p3
        · simp only [hpe] at E2
          replace E2 := hide E2
          have ej : Hid (joinN F (k + 1) = ⟨min p0 q0, min p1 q1, max p2 q2, max p3 q3⟩) := (unhide ex).trans (joinB_both hq hpe)
          clear ex hp R A HB hq hpe
          go_wp2_with fail
          rw [← hW]
          clear hW g0 g1 g2 g3
          go_fit (unhide E1 _)
          rintro r w1 ⟨rfl, hb⟩
          replace Q := row_next hb Q
          replace R' := row_next hb R'
          replace A' := row_next hb A'
          replace HB' := hide (below_two (unhide HB') hb)
          clear hb
          obtain ⟨a0, a1, a2, a3⟩ := row4 A'
          go_wp2_with fail
          go_fit (unhide E2 _)
          rintro r w2 ⟨rfl, hb⟩
          replace Q := row_next hb Q
          replace R' := row_next hb R'
          replace A' := row_next hb A'
          replace HB' := hide (below_two (unhide HB') hb)
          clear hb a0 a1 a2 a3
          obtain ⟨a0, a1, a2, a3⟩ := row4 A'
          obtain ⟨f0, f1, f2, f3⟩ := free4 A'
          obtain ⟨b0, b1, b2, b3⟩ := row4 Q
          go_wp2_with fail
          go_roundw
          case rel => exact ⟨k + 1, by omega, by go_num, put4_other hne R', by rw [unhide ej]; exact put4_row A', below_put4 (unhide HB') (by omega) _ _ _ _⟩
          case measure => simp [intOf]; omega
        · simp only [hpe] at E2
          replace E2 := hide E2
          have ej : Hid (joinN F (k + 1) = ⟨q0, q1, q2, q3⟩) := (unhide ex).trans (joinB_first hq hpe)
          clear ex hp R A HB hq hpe
          go_wp2_with fail
          rw [← hW]
          clear hW g0 g1 g2 g3
          go_fit (unhide E1 _)
          rintro r w1 ⟨rfl, hb⟩
          replace Q := row_next hb Q
          replace R' := row_next hb R'
          replace A' := row_next hb A'
          replace HB' := hide (below_two (unhide HB') hb)
          clear hb
          obtain ⟨a0, a1, a2, a3⟩ := row4 A'
          go_wp2_with fail
          go_fit (unhide E2 _)
          rintro r w2 ⟨rfl, hb⟩
          replace Q := row_next hb Q
          replace R' := row_next hb R'
          replace A' := row_next hb A'
          replace HB' := hide (below_two (unhide HB') hb)
          clear hb a0 a1 a2 a3
          obtain ⟨a0, a1, a2, a3⟩ := row4 A'
          obtain ⟨f0, f1, f2, f3⟩ := free4 A'
          obtain ⟨b0, b1, b2, b3⟩ := row4 Q
          go_wp2_with fail
          go_roundw
          case rel => exact ⟨k + 1, by omega, by go_num, put4_other hne R', by rw [unhide ej]; exact put4_row A', below_put4 (unhide HB') (by omega) _ _ _ _⟩
          case measure => simp [intOf]; omega
      · simp only [hq] at E1
        replace E1 := hide E1
        have ej : Hid (joinN F (k + 1) = ⟨p0, p1, p2, p3⟩) := (unhide ex).trans (joinB_bare hq (unhide hp))
        clear ex hp R A HB hq E2
        go_wp2_with fail
        rw [← hW]
        clear hW g0 g1 g2 g3
        go_fit (unhide E1 _)
        rintro r w1 ⟨rfl, hb⟩
        replace R' := row_next hb R'
        replace A' := row_next hb A'
        replace HB' := hide (below_two (unhide HB') hb)
        clear hb Q
        go_wp2_with fail
        go_roundw
        case rel => exact ⟨k + 1, by omega, by go_num, R', by rw [unhide ej]; exact A', unhide HB'⟩
        case measure => simp [intOf]; omega
    · have hke : k = n := by omega
      subst hke
      have HB := hide hb
      clear hb
      obtain ⟨a0, a1, a2, a3⟩ := row4 A
      obtain ⟨r0, r1, r2, r3⟩ := row4 R
      obtain ⟨f0, f1, f2, f3⟩ := free4 R
      go_wp2_with fail
      refine bodyPost_ret (v := .agg #[.int .i64 (joinN F k).x0, .int .i64 (joinN F k).y0, .int .i64 (joinN F k).x1, .int .i64 (joinN F k).y1]) (by simp [results, Try.results57, go_sem, r0, r1, r2, r3]) rfl ⟨rfl, ?_⟩
      exact below_put4 (unhide HB) (Nat.le_refl _) _ _ _ _

end Go.Proofs.Ytkhacppaemilgaa
