/-
  The walk of the specification's BoxOf.
-/
import Derived.Test.YtplbamcoobafgaaJoinN
import Derived.Test.YtplbamcoobafgaaGrowS
import Derived.Test.YtplbamcoobafgaaPtRow
namespace Go.Proofs.Ytplbamcoobafgaa
open Go.RowKit

/-- The box of one point. -/
def pbox (p : Int × Int) : B4 := ⟨k5 p.1, k5 p.2, k5 p.1 + 1, k5 p.2 + 1⟩

set_option maxHeartbeats 4000000 in
set_option maxRecDepth 100000 in
theorem specBoxOf_any (f : Nat → Int × Int) (ao : Option Addr) (n cap : Nat) (hn : n ≤ 1048576) (w : World) (H : ∀ i, i < n → PtIn w ao i (f i)) :
    Calls Try.prog 20 #[.slice ao n cap] w fun r w' => r = .returned (.agg #[.int .i64 (joinN (fun i => pbox (f i)) n).x0, .int .i64 (joinN (fun i => pbox (f i)) n).y0, .int .i64 (joinN (fun i => pbox (f i)) n).x1, .int .i64 (joinN (fun i => pbox (f i)) n).y1]) ∧ Below w.heap.size w w' := by
  have HH := hide H
  clear H
  go_enter Try.func20, Try.ntmps20
  go_wp2_with fail
  go_loopw [4] (fun i u => ∃ k : Nat, k ≤ n ∧ i = .int .i64 k ∧ u.heap[w.heap.size]? = some (.cells #[.int .i64 0, .int .i64 0, .int .i64 0, .int .i64 0] 29 (0, 0)) ∧ u.heap[w.heap.size + 1]? = some (.cells #[.int .i64 (joinN (fun i => pbox (f i)) k).x0, .int .i64 (joinN (fun i => pbox (f i)) k).y0, .int .i64 (joinN (fun i => pbox (f i)) k).x1, .int .i64 (joinN (fun i => pbox (f i)) k).y1] 29 (0, 0)) ∧ Below w.heap.size w u) (fun i _ => n - (intOf i).toNat)
  case atStart => exact ⟨0, Nat.zero_le _, rfl, al2_0 _ _ _, al2_1 _ _ _, al2_below _ _ _⟩
  case round =>
    obtain ⟨k, hk, rfl, R, A, hb⟩ := hrel
    by_cases hlt : k < n
    · have HP := (unhide HH k hlt).next hb
      have ex : Hid (joinN (fun i => pbox (f i)) (k + 1) = joinB (joinN (fun i => pbox (f i)) k) (pbox (f k))) := rfl
      generalize joinN (fun i => pbox (f i)) k = P at A ex
      generalize f k = p at HP ex
      obtain ⟨x, y⟩ := p
      obtain ⟨p0, p1, p2, p3⟩ := P
      obtain ⟨s, rfl, g0, g1⟩ := HP
      have HB := hide hb
      clear hb
      have K0 := hide (specK5_any x)
      have K1 := hide (specK5_any y)
      have E := hide (specJoinBox_any p0 p1 p2 p3 (k5 x) (k5 y) (k5 x + 1) (k5 y + 1))
      change Hid (∀ w, Calls _ _ _ w fun r w' => r = .returned (.agg #[.int .i64 (joinB ⟨p0, p1, p2, p3⟩ (pbox (x, y))).x0, .int .i64 (joinB ⟨p0, p1, p2, p3⟩ (pbox (x, y))).y0, .int .i64 (joinB ⟨p0, p1, p2, p3⟩ (pbox (x, y))).x1, .int .i64 (joinB ⟨p0, p1, p2, p3⟩ (pbox (x, y))).y1]) ∧ Below w.heap.size w w') at E
      generalize joinB ⟨p0, p1, p2, p3⟩ (pbox (x, y)) = J at E ex
      obtain ⟨b1, b2⟩ := k5_bd x
      obtain ⟨b3, b4⟩ := k5_bd y
      generalize k5 x = kx at K0 E b1 b2
      generalize k5 y = ky at K1 E b3 b4
      have v0 : IntKind.i64.wrap (kx + 1) = kx + 1 := IntWalk.i64_in _ (by omega)
      have v1 : IntKind.i64.wrap (ky + 1) = ky + 1 := IntWalk.i64_in _ (by omega)
      dsimp only at A g0 g1
      obtain ⟨a0, a1, a2, a3⟩ := row4 A
      go_wp2_with fail
      go_fit (unhide K0 _)
      rintro r w1 ⟨rfl, rfl⟩
      go_wp2_with fail
      go_fit (unhide K1 _)
      rintro r w1 ⟨rfl, rfl⟩
      go_wp2_with fail
      go_fit (unhide E _)
      rintro r w2 ⟨rfl, hb⟩
      replace R := row_next hb R
      replace A := row_next hb A
      replace HB := hide (below_two (unhide HB) hb)
      clear hb a0 a1 a2 a3 g0 g1
      obtain ⟨a0, a1, a2, a3⟩ := row4 A
      obtain ⟨f0, f1, f2, f3⟩ := free4 A
      go_wp2_with fail
      go_roundw
      case rel => exact ⟨k + 1, by omega, by go_num, put4_other (by omega) R, by rw [unhide ex]; exact put4_row A, below_put4 (unhide HB) (by omega) _ _ _ _⟩
      case measure => simp [intOf]; omega
    · have hke : k = n := by omega
      subst hke
      have HB := hide hb
      clear hb
      obtain ⟨a0, a1, a2, a3⟩ := row4 A
      obtain ⟨r0, r1, r2, r3⟩ := row4 R
      obtain ⟨f0, f1, f2, f3⟩ := free4 R
      go_wp2_with fail
      refine bodyPost_ret (v := .agg #[.int .i64 (joinN (fun i => pbox (f i)) k).x0, .int .i64 (joinN (fun i => pbox (f i)) k).y0, .int .i64 (joinN (fun i => pbox (f i)) k).x1, .int .i64 (joinN (fun i => pbox (f i)) k).y1]) (by simp [results, Try.results20, go_sem, r0, r1, r2, r3]) rfl ⟨rfl, ?_⟩
      exact below_put4 (unhide HB) (Nat.le_refl _) _ _ _ _
end Go.Proofs.Ytplbamcoobafgaa
