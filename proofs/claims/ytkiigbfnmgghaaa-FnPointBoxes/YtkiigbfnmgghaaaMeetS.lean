/-
  The walk of MeetBox (spec).
-/
import Derived.Test.YtkiigbfnmgghaaaBoxS
import Derived.Deep.RegionHeld3
import Derived.Deep.DeepCutAuto
namespace Go.Proofs.Ytkiigbfnmgghaaa
open Go.RowKit

def meetNo (a b c d e f g h : Int) : Bool := emptyB (mostI a e) (mostI b f) (leastI c g) (leastI d h)
def meet0 (a b c d e f g h : Int) : Int := bif meetNo a b c d e f g h then 0 else mostI a e
def meet1 (a b c d e f g h : Int) : Int := bif meetNo a b c d e f g h then 0 else mostI b f
def meet2 (a b c d e f g h : Int) : Int := bif meetNo a b c d e f g h then 0 else leastI c g
def meet3 (a b c d e f g h : Int) : Int := bif meetNo a b c d e f g h then 0 else leastI d h

set_option maxHeartbeats 4000000 in
set_option maxRecDepth 100000 in
theorem specMeetBox_any (a b c d e f g h : Int) (w : World) :
    Calls Try.prog 25 #[.agg #[.int .i64 a, .int .i64 b, .int .i64 c, .int .i64 d], .agg #[.int .i64 e, .int .i64 f, .int .i64 g, .int .i64 h]] w fun r w' => r = .returned (.agg #[.int .i64 (meet0 a b c d e f g h), .int .i64 (meet1 a b c d e f g h), .int .i64 (meet2 a b c d e f g h), .int .i64 (meet3 a b c d e f g h)]) ∧ Below w.heap.size w w' := by
  unfold meet0 meet1 meet2 meet3 meetNo
  have K0 := hide (specMost_any a e)
  have K1 := hide (specMost_any b f)
  have K2 := hide (specLeast_any c g)
  have K3 := hide (specLeast_any d h)
  generalize mostI a e = l0 at K0 ⊢
  generalize mostI b f = l1 at K1 ⊢
  generalize leastI c g = l2 at K2 ⊢
  generalize leastI d h = l3 at K3 ⊢
  have HE := hide (specEmpty_any l0 l1 l2 l3)
  generalize emptyB l0 l1 l2 l3 = p at HE ⊢
  go_enter Try.func25, Try.ntmps25
  go_wp2_with fail
  obtain ⟨W, hW⟩ : ∃ W, W = ((w.alloc (.cells #[.int .i64 a, .int .i64 b, .int .i64 c, .int .i64 d] 25)).alloc (.cells #[.int .i64 e, .int .i64 f, .int .i64 g, .int .i64 h] 25)).alloc (.cells #[.int .i64 0, .int .i64 0, .int .i64 0, .int .i64 0] 25) := ⟨_, rfl⟩
  obtain ⟨a0, a1, a2, a3⟩ := row4 (w1 := W) (b := w.heap.size) (by rw [hW]; exact al3_0 _ _ _ _)
  obtain ⟨b0, b1, b2, b3⟩ := row4 (w1 := W) (b := w.heap.size + 1) (by rw [hW]; exact al3_1 _ _ _ _)
  have R : Hid (W.heap[w.heap.size + 1 + 1]? = some (.cells #[.int .i64 0, .int .i64 0, .int .i64 0, .int .i64 0] 25 (0, 0))) := by unfold Hid; rw [hW]; exact al3_2 _ _ _ _
  have HB := hide (show Below w.heap.size w W by rw [hW]; exact al3_below _ _ _ _)
  rw [← hW]
  clear hW
  have k0 : ∀ u, Below W.heap.size W u → (u.cell? ⟨w.heap.size, 0, none⟩ = some (.int .i64 a) ∧ u.cell? ⟨w.heap.size, 1, none⟩ = some (.int .i64 b) ∧ u.cell? ⟨w.heap.size, 2, none⟩ = some (.int .i64 c) ∧ u.cell? ⟨w.heap.size, 3, none⟩ = some (.int .i64 d) ∧ u.cell? ⟨w.heap.size + 1, 0, none⟩ = some (.int .i64 e) ∧ u.cell? ⟨w.heap.size + 1, 1, none⟩ = some (.int .i64 f) ∧ u.cell? ⟨w.heap.size + 1, 2, none⟩ = some (.int .i64 g) ∧ u.cell? ⟨w.heap.size + 1, 3, none⟩ = some (.int .i64 h) ∧ Below W.heap.size W u) := fun u h => ⟨kc h a0, kc h a1, kc h a2, kc h a3, kc h b0, kc h b1, kc h b2, kc h b3, h⟩
  have kS : ∀ u, (u.cell? ⟨w.heap.size, 0, none⟩ = some (.int .i64 a) ∧ u.cell? ⟨w.heap.size, 1, none⟩ = some (.int .i64 b) ∧ u.cell? ⟨w.heap.size, 2, none⟩ = some (.int .i64 c) ∧ u.cell? ⟨w.heap.size, 3, none⟩ = some (.int .i64 d) ∧ u.cell? ⟨w.heap.size + 1, 0, none⟩ = some (.int .i64 e) ∧ u.cell? ⟨w.heap.size + 1, 1, none⟩ = some (.int .i64 f) ∧ u.cell? ⟨w.heap.size + 1, 2, none⟩ = some (.int .i64 g) ∧ u.cell? ⟨w.heap.size + 1, 3, none⟩ = some (.int .i64 h) ∧ Below W.heap.size W u) → Below W.heap.size W u := fun u h => h.2.2.2.2.2.2.2.2
  go_cut [5] (fun s u => ∃ q, s = .pointer (some ⟨q, 0, none⟩) ∧ u.cell? ⟨q, 0, none⟩ = some (.int .i64 l0) ∧ u.cell? ⟨q, 1, none⟩ = some (.int .i64 l1) ∧ u.cell? ⟨q, 2, none⟩ = some (.int .i64 l2) ∧ u.cell? ⟨q, 3, none⟩ = some (.int .i64 l3) ∧ Below W.heap.size W u)
  case first =>
    go_region_held3 (fun u => u.cell? ⟨w.heap.size, 0, none⟩ = some (.int .i64 a) ∧ u.cell? ⟨w.heap.size, 1, none⟩ = some (.int .i64 b) ∧ u.cell? ⟨w.heap.size, 2, none⟩ = some (.int .i64 c) ∧ u.cell? ⟨w.heap.size, 3, none⟩ = some (.int .i64 d) ∧ u.cell? ⟨w.heap.size + 1, 0, none⟩ = some (.int .i64 e) ∧ u.cell? ⟨w.heap.size + 1, 1, none⟩ = some (.int .i64 f) ∧ u.cell? ⟨w.heap.size + 1, 2, none⟩ = some (.int .i64 g) ∧ u.cell? ⟨w.heap.size + 1, 3, none⟩ = some (.int .i64 h) ∧ Below W.heap.size W u) ((refine k0 _ ?_; first | with_reducible exact (Below.refl _ _).drew | (with_reducible refine Below.drew ?_; with_reducible exact below_new _ (Below.refl _ _) (Nat.le_refl _)) | (with_reducible refine below_new _ ?_ (Nat.le_refl _); with_reducible exact (Below.refl _ _).drew))) (first | (go_at_call 37; (first | go_fit (unhide K0 _) | go_fit (unhide K1 _)); rintro r w4 ⟨rfl, rfl⟩) | (go_at_call 36; (first | go_fit (unhide K2 _) | go_fit (unhide K3 _)); rintro r w4 ⟨rfl, rfl⟩))
    all_goals
      go_wp2_with fail
      go_meet
      exact ⟨_, rfl, (by first | (rw [World.cell?_alloc_mark]; rfl) | (show (W.alloc _).cell? _ = _; rw [World.cell?_alloc_mark]; rfl)), (by first | (rw [World.cell?_alloc_mark]; rfl) | (show (W.alloc _).cell? _ = _; rw [World.cell?_alloc_mark]; rfl)), (by first | (rw [World.cell?_alloc_mark]; rfl) | (show (W.alloc _).cell? _ = _; rw [World.cell?_alloc_mark]; rfl)), (by first | (rw [World.cell?_alloc_mark]; rfl) | (show (W.alloc _).cell? _ = _; rw [World.cell?_alloc_mark]; rfl)), kS _ (by with_reducible assumption)⟩
  case rest =>
    obtain ⟨q, rfl, q0, q1, q2, q3, hb⟩ := hcut
    replace R := hide ((hb.block _ (heap_lt (unhide R))).trans (unhide R))
    replace HB := hide (below_two (unhide HB) hb)
    clear hb k0 kS a0 a1 a2 a3 b0 b1 b2 b3
    go_wp2_with fail
    go_fit (unhide HE _)
    rintro r w2 ⟨rfl, hb⟩
    replace q0 := kc hb q0
    replace q1 := kc hb q1
    replace q2 := kc hb q2
    replace q3 := kc hb q3
    replace R := hide ((hb.block _ (heap_lt (unhide R))).trans (unhide R))
    replace HB := hide (below_two (unhide HB) hb)
    clear hb
    obtain ⟨r0, r1, r2, r3⟩ := row4 (unhide R)
    obtain ⟨f0, f1, f2, f3⟩ := free4 (unhide R)
    cases p
    · go_wp2_with fail
      refine bodyPost_ret (v := .agg #[.int .i64 l0, .int .i64 l1, .int .i64 l2, .int .i64 l3]) (by simp [results, Try.results25, go_sem, r0, r1, r2, r3]) rfl ⟨rfl, ?_⟩
      exact below_put4 (unhide HB) (by omega) _ _ _ _
    · go_wp2_with fail
      refine bodyPost_ret (v := .agg #[.int .i64 0, .int .i64 0, .int .i64 0, .int .i64 0]) (by simp [results, Try.results25, go_sem, r0, r1, r2, r3]) rfl ⟨rfl, ?_⟩
      exact below_put4 (unhide HB) (by omega) _ _ _ _
end Go.Proofs.Ytkiigbfnmgghaaa
