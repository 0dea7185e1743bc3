/-
  Both sides' Hull.
-/
import Derived.Test.YtkhacppaemilgaaPathI
import Derived.Test.YtkhacppaemilgaaPathV
import Derived.Test.YtkhacppaemilgaaBoxOfI
namespace Go.Proofs.Ytkhacppaemilgaa
open Go.RowKit

def hullB (x : Bool) (pf : Nat → Int × Int) (m : Nat) : B4 := bif x then joinN (fun i => pbox (pf i)) m else B4.none
theorem PathV.ptsIn {w : World} {base n m c d : Nat} {a b : Option Addr} {vf : Nat → Int} {pf : Nat → Int × Int} (h : PathV w base (.slice a n c) (.slice b m d) n m vf pf) : ∀ i, i < m → PtIn w b i (pf i) := by
  obtain ⟨_, _, h1, _, h3⟩ := h
  intro i hi
  obtain ⟨g, c, e, _, _⟩ := own_at h1.two (by omega)
  cases e
  exact own_px h1.two h3 i hi

set_option maxHeartbeats 4000000 in
set_option maxRecDepth 100000 in
theorem implHull_any (vf : Nat → Int) (pf : Nat → Int × Int) (a b : Option Addr) (n c m d : Nat) (hn : n ≤ 1048576) (hm : m ≤ 1048576) (w : World)
    (x : Bool) (hx : x = true ↔ Right vf n pf m) (V : ∀ i, i < n → IntAt w a i (vf i)) (P : ∀ i, i < m → PtIn w b i (pf i)) :
    Calls Try.prog 16 #[.agg #[.slice a n c, .slice b m d]] w fun r w' => r = .returned (.agg #[.int .i64 (hullB x pf m).x0, .int .i64 (hullB x pf m).y0, .int .i64 (hullB x pf m).x1, .int .i64 (hullB x pf m).y1]) ∧ Below w.heap.size w w' := by
  have EO := hide (fun u V P => implPathOk_any vf pf a b n c m d hn hm u x hx V P)
  have EB := hide (fun u P => implBoxOf_any pf b m d hm u P)
  replace V := hide V
  replace P := hide P
  clear hx
  go_enter Try.func16, Try.ntmps16
  go_wp2_with fail
  obtain ⟨W, hW⟩ : ∃ W, W = (w.alloc (.cells #[.slice a n c, .slice b m d] 36)).alloc (.cells #[.int .i64 0, .int .i64 0, .int .i64 0, .int .i64 0] 29) := ⟨_, rfl⟩
  have A := hide (show W.heap[w.heap.size]? = some (.cells #[.slice a n c, .slice b m d] 36 (0, 0)) by rw [hW]; exact al2_0 _ _ _)
  have R := hide (show W.heap[w.heap.size + 1]? = some (.cells #[.int .i64 0, .int .i64 0, .int .i64 0, .int .i64 0] 29 (0, 0)) by rw [hW]; exact al2_1 _ _ _)
  have HB := hide (show Below w.heap.size w W by rw [hW]; exact al2_below _ _ _)
  rw [← hW]
  clear hW
  go_fit (unhide EO _ (fun i hi => (unhide V i hi).next (unhide HB)) (fun i hi => ((unhide P i hi).next (unhide HB)).arg))
  rintro r w1 ⟨rfl, hb⟩
  replace A := hide (row_next hb (unhide A))
  replace R := hide (row_next hb (unhide R))
  replace HB := hide (below_two (unhide HB) hb)
  clear hb EO
  cases x with
  | false =>
    obtain ⟨r0, r1, r2, r3⟩ := row4 (unhide R)
    obtain ⟨f0, f1, f2, f3⟩ := free4 (unhide R)
    go_wp2_with fail
    refine bodyPost_ret (v := .agg #[.int .i64 0, .int .i64 0, .int .i64 0, .int .i64 0]) (by simp [results, Try.results16, go_sem, r0, r1, r2, r3]) rfl ⟨rfl, ?_⟩
    exact below_put4 (unhide HB) (by omega) _ _ _ _
  | true =>
    obtain ⟨J, hJ⟩ : ∃ J, Hid (J = joinN (fun i => pbox (pf i)) m) := ⟨_, rfl⟩
    rw [← unhide hJ] at EB
    obtain ⟨q0, q1⟩ := row2 (unhide A)
    go_wp2_with fail
    go_fit (unhide EB _ (fun i hi => (unhide P i hi).next (unhide HB)))
    rintro r w2 ⟨rfl, hb⟩
    replace R := hide (row_next hb (unhide R))
    replace HB := hide (below_two (unhide HB) hb)
    clear hb EB q0 q1
    obtain ⟨r0, r1, r2, r3⟩ := row4 (unhide R)
    obtain ⟨f0, f1, f2, f3⟩ := free4 (unhide R)
    go_wp2_with fail
    refine bodyPost_ret (v := .agg #[.int .i64 J.x0, .int .i64 J.y0, .int .i64 J.x1, .int .i64 J.y1]) (by simp [results, Try.results16, go_sem, r0, r1, r2, r3]) rfl ⟨?_, ?_⟩
    · rw [unhide hJ]; rfl
    · exact below_put4 (unhide HB) (by omega) _ _ _ _
end Go.Proofs.Ytkhacppaemilgaa
