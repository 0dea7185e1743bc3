/-
  The walk of the program's BoxOf.
-/
import Derived.Test.YtkhacppaemilgaaBoxRow
import Derived.Test.YtkhacppaemilgaaJoinI
import Derived.Test.YtkhacppaemilgaaGrowS
import Derived.Test.YtkhacppaemilgaaBoxOfS
namespace Go.Proofs.Ytkhacppaemilgaa
open Go.RowKit

set_option maxHeartbeats 1000000 in
theorem implBoxAround_any (x y : Int) (w : World) :
    Calls Try.prog 56 #[.agg #[.int .i64 x, .int .i64 y]] w fun r w' => r = .returned (.agg #[.int .i64 (k5 x), .int .i64 (k5 y), .int .i64 (k5 x + 1), .int .i64 (k5 y + 1)]) ∧ Below w.heap.size w w' := by
  have K0 := hide (implClamp_any x (-33554432) 33554432)
  have K1 := hide (implClamp_any y (-33554432) 33554432)
  change Hid (∀ w, Calls _ _ _ w fun e w' => e = .returned (.int .i64 (k5 x)) ∧ w' = w) at K0
  change Hid (∀ w, Calls _ _ _ w fun e w' => e = .returned (.int .i64 (k5 y)) ∧ w' = w) at K1
  obtain ⟨b1, b2⟩ := k5_bd x
  obtain ⟨b3, b4⟩ := k5_bd y
  generalize k5 x = kx at K0 b1 b2 ⊢
  generalize k5 y = ky at K1 b3 b4 ⊢
  have v0 : IntKind.i64.wrap (kx + 1) = kx + 1 := IntWalk.i64_in _ (by omega)
  have v1 : IntKind.i64.wrap (ky + 1) = ky + 1 := IntWalk.i64_in _ (by omega)
  go_enter Try.func56, Try.ntmps56
  go_wp2_with fail
  go_fit (unhide K0 _)
  rintro r w1 ⟨rfl, rfl⟩
  go_wp2_with fail
  go_fit (unhide K1 _)
  rintro r w1 ⟨rfl, rfl⟩
  go_wp2_with fail
  refine bodyPost_ret (v := .agg #[.int .i64 kx, .int .i64 ky, .int .i64 (kx + 1), .int .i64 (ky + 1)]) (by simp [results, Try.results56, go_sem]) rfl ⟨rfl, ?_⟩
  exact al2_below _ _ _

set_option maxHeartbeats 4000000 in
set_option maxRecDepth 100000 in
theorem implBoxOf_any (f : Nat → Int × Int) (ao : Option Addr) (n cap : Nat) (hn : n ≤ 1048576) (w : World) (H : ∀ i, i < n → PtIn w ao i (f i)) :
    Calls Try.prog 39 #[.slice ao n cap] w fun r w' => r = .returned (.agg #[.int .i64 (joinN (fun i => pbox (f i)) n).x0, .int .i64 (joinN (fun i => pbox (f i)) n).y0, .int .i64 (joinN (fun i => pbox (f i)) n).x1, .int .i64 (joinN (fun i => pbox (f i)) n).y1]) ∧ Below w.heap.size w w' := by
  obtain ⟨i0, hi, hz0, hz1, hz2⟩ := info_parts infoBox
  have HH := hide H
  clear H
  go_enter Try.func39, Try.ntmps39
  have s0 := hide (al1_size w (.cells #[.int .i64 0, .int .i64 0, .int .i64 0, .int .i64 0] 29))
  go_wp2_with (at_make; go_must (refine wpList_make_full (w.alloc (.cells #[.int .i64 0, .int .i64 0, .int .i64 0, .int .i64 0] 29)) rfl _ _ 84 rfl (w.heap.size + 1) 29 i0 (.agg #[.int .i64 0, .int .i64 0, .int .i64 0, .int .i64 0]) 4 Try.underlying84 hi hz0 hz1 .i64 .i64 _ _ n (by rfl) (by rfl) (by omega) (by omega) (by rw [hz2]; omega) (by unfold maxLen; omega) (by have := unhide s0; omega) ?_); intro w1 hown1 hg1)
  rw [unhide s0] at hown1
  have R1 := hg1.block w.heap.size (by have := unhide s0; omega) (by simp)
  rw [al1_0] at R1
  have B1 : Below w.heap.size w w1 := (al1_below w (.cells #[.int .i64 0, .int .i64 0, .int .i64 0, .int .i64 0] 29)).grown hg1 (by have := unhide s0; omega) (by simp)
  have l1 := heap_lt R1
  clear hg1
  go_loopw [11] (fun i u => ∃ (k : Nat) (xs : List Value), k ≤ n ∧ i = .int .i64 k ∧ u.heap[w.heap.size]? = some (.cells #[.int .i64 0, .int .i64 0, .int .i64 0, .int .i64 0] 29 (0, 0)) ∧ u.ownsRow (w.heap.size + 1) 29 4 (.slice (some ⟨w.heap.size + 1, 0, none⟩) n n) n xs ∧ Hid (BxAt xs (fun i => pbox (f i)) k) ∧ Below w.heap.size w u) (fun i _ => n - (intOf i).toNat)
  case atStart => exact ⟨0, _, Nat.zero_le _, rfl, R1, hown1, fun j hj => absurd hj (by omega), B1⟩
  case round =>
    obtain ⟨k, xs, hk, rfl, R, hown, HX, hb⟩ := hrel
    clear hown1 R1 B1 l1
    have O := hide hown
    by_cases hlt : k < n
    · have HP := (unhide HH k hlt).next hb
      have hst := hide ((unhide HX).step (by have := hown.1; omega))
      generalize hfk : f k = p at HP
      obtain ⟨x, y⟩ := p
      have ea : Hid (pbox (f k) = ⟨k5 x, k5 y, k5 x + 1, k5 y + 1⟩) := by unfold Hid; rw [hfk]; rfl
      clear hfk
      obtain ⟨s, rfl, g0, g1⟩ := HP
      dsimp only at g0 g1
      have HB := hide hb
      clear hb hown
      have E := hide (implBoxAround_any x y)
      generalize k5 x = ax at E ea
      generalize k5 y = ay at E ea
      go_wp2_with fail
      obtain ⟨W, hW⟩ : ∃ W, W = wr.alloc (.cells #[.int .i64 x, .int .i64 y] 27) := ⟨_, rfl⟩
      replace R := hide (show W.heap[w.heap.size]? = some (.cells #[.int .i64 0, .int .i64 0, .int .i64 0, .int .i64 0] 29 (0, 0)) by rw [hW]; exact old_row _ R)
      replace O := hide (show W.ownsRow (w.heap.size + 1) 29 4 (.slice (some ⟨w.heap.size + 1, 0, none⟩) n n) n xs by rw [hW]; exact (unhide O).alloc _)
      replace HB := hide (show Below w.heap.size w W by rw [hW]; exact below_new _ (unhide HB) (Nat.le_refl _))
      rw [← hW]
      clear hW g0 g1
      go_fit (unhide E _)
      rintro r w2 ⟨rfl, hb⟩
      replace R := hide (row_next hb (unhide R))
      replace O := hide (own_below (unhide O) hb)
      replace HB := hide (below_two (unhide HB) hb)
      clear hb
      obtain ⟨v0, v1, v2, v3, c0, c1, c2, c3⟩ := own_cell4 (unhide O) hlt
      have f0 := (unhide O).frozenAt (k * 4)
      have f1 := (unhide O).frozenAt (k * 4 + 1)
      have f2 := (unhide O).frozenAt (k * 4 + 2)
      have f3 := (unhide O).frozenAt (k * 4 + 3)
      go_wp2_with fail
      go_roundw
      case rel =>
        refine ⟨k + 1, _, by omega, by go_num, ?_, own_put4 (unhide O) _ _ _ _, ?_, below_at4 (unhide HB) (by omega) _ _ _ _ _ _ _ _⟩
        · exact setc_other (by omega) (setc_other (by omega) (setc_other (by omega) (setc_other (by omega) (unhide R))))
        · have := unhide hst; rw [unhide ea] at this; exact this
      case measure => simp [intOf]; omega
    · have hke : k = n := by omega
      subst hke
      have HJ := hide (implJoined_any (fun i => pbox (f i)) (w.heap.size + 1) k k hn wr (own_boxes hown (unhide HX)))
      have HB := hide hb
      clear hb hown O HX
      go_wp2_with fail
      go_fit (unhide HJ)
      rintro r w2 ⟨rfl, hb⟩
      replace R := row_next hb R
      replace HB := hide (below_two (unhide HB) hb)
      clear hb
      obtain ⟨r0, r1, r2, r3⟩ := row4 R
      obtain ⟨f0, f1, f2, f3⟩ := free4 R
      go_wp2_with fail
      refine bodyPost_ret (v := .agg #[.int .i64 (joinN (fun i => pbox (f i)) k).x0, .int .i64 (joinN (fun i => pbox (f i)) k).y0, .int .i64 (joinN (fun i => pbox (f i)) k).x1, .int .i64 (joinN (fun i => pbox (f i)) k).y1]) (by simp [results, Try.results39, go_sem, r0, r1, r2, r3]) rfl ⟨rfl, ?_⟩
      exact below_put4 (unhide HB) (Nat.le_refl _) _ _ _ _
end Go.Proofs.Ytkhacppaemilgaa
