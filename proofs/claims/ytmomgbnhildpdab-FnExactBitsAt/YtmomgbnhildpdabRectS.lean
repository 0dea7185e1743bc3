/-
  The specification's RectPath.
-/
import Derived.Test.YtmomgbnhildpdabPathS
import Derived.Test.YtmomgbnhildpdabBoxS
namespace Go.Proofs.Ytmomgbnhildpdab
open Go.RowKit

theorem row_at {w : World} {b j : Nat} {cs : Array Value} {t : TypeId} {v : Value} (h : w.heap[b]? = some (.cells cs t (0, 0))) (hj : cs[j]? = some v) : w.cell? ⟨b, j, none⟩ = some v := by
  simp [World.cell?, h, hj]

/-- What a call hands back is a path of its own, with these verbs and points. -/
def PathRes (w : World) (r : Ending) (w' : World) (n m : Nat) (vf : Nat → Int) (pf : Nat → Int × Int) : Prop :=
  ∃ v1 v2 xs ys, r = .returned (.agg #[v1, v2]) ∧ OwnPath w' w.heap.size v1 v2 n m xs ys ∧ IxAt xs vf n ∧ PxAt ys pf m ∧ Below w.heap.size w w'

def listI (l : List Int) (i : Nat) : Int := l.getD i 0
def listP (l : List (Int × Int)) (i : Nat) : Int × Int := l.getD i (0, 0)
theorem ix_list (l : List Int) : IxAt (l.map fun z => Value.int .i64 z) (listI l) l.length := fun j hj => by
  simp [listI, List.getD_eq_getElem?_getD, hj]
theorem px_list (l : List (Int × Int)) : PxAt (ptsV l) (listP l) l.length := fun j hj => by
  have h := ptsV_get l j hj
  simp [listP, List.getD_eq_getElem?_getD, hj, h.1, h.2]

theorem own_of_row {w : World} {g base e size n : Nat} {cs : Array Value} (h : w.heap[g]? = some (.cells cs e (0, 0))) (hb : base ≤ g) (hs : cs.size = n * size) (hm : n ≤ maxLen) : w.ownsRow base e size (.slice (some ⟨g, 0, none⟩) n n) n cs.toList :=
  ⟨by simp [hs], .inr ⟨g, n, cs, rfl, hb, h, Nat.le_refl _, hm, hs, by rw [List.take_of_length_le (by simp [hs])]⟩⟩

def rectOk (a b c d : Int) : Bool := !emptyB a b c d && (pointOkB a b && pointOkB c d)
def rectN (ok : Bool) : Nat := if ok then 5 else 0
def rectM (ok : Bool) : Nat := if ok then 4 else 0
def rectV : Nat → Int := listI [1, 2, 2, 2, 5]
def rectP (a b c d : Int) : Nat → Int × Int := listP [(a, b), (c, b), (c, d), (a, d)]

theorem res_none {w w' : World} {vf : Nat → Int} {pf : Nat → Int × Int} (hb : Below w.heap.size w w') : PathRes w (.returned (.agg #[.slice none 0 0, .slice none 0 0])) w' 0 0 vf pf :=
  ⟨_, _, [], [], rfl, ⟨World.ownsRow_nil _ _ _ _, World.ownsRow_nil _ _ _ _, .inl rfl⟩, fun j hj => absurd hj (by omega), fun j hj => absurd hj (by omega), hb⟩

set_option maxHeartbeats 4000000 in
set_option maxRecDepth 100000 in
theorem specRectPath_any (a b c d : Int) (w : World) :
    Calls Try.prog 133 #[.agg #[.int .i64 a, .int .i64 b, .int .i64 c, .int .i64 d]] w fun r w' => PathRes w r w' (rectN (rectOk a b c d)) (rectM (rectOk a b c d)) rectV (rectP a b c d) := by
  have E0 := hide (specEmpty_any a b c d)
  have E1 := hide (specPointOk_any a b)
  have E2 := hide (specPointOk_any c d)
  have eo : Hid (rectOk a b c d = (!emptyB a b c d && (pointOkB a b && pointOkB c d))) := rfl
  generalize rectOk a b c d = ok at eo ⊢
  generalize emptyB a b c d = e0 at E0 eo
  generalize pointOkB a b = e1 at E1 eo
  generalize pointOkB c d = e2 at E2 eo
  go_enter Try.func133, Try.ntmps133
  go_wp2_with fail
  obtain ⟨W, hW⟩ : ∃ W, W = ((w.alloc (.cells #[.int .i64 a, .int .i64 b, .int .i64 c, .int .i64 d] 42)).alloc (.cells #[.slice none 0 0, .slice none 0 0] 130)).alloc (.cells #[.int .i64 a, .int .i64 b, .int .i64 c, .int .i64 b, .int .i64 c, .int .i64 d, .int .i64 a, .int .i64 d] 105) := ⟨_, rfl⟩
  have HB := hide (show Below w.heap.size w W by rw [hW]; exact al3_below _ _ _ _)
  have R0 := hide (show W.heap[w.heap.size]? = some (.cells #[.int .i64 a, .int .i64 b, .int .i64 c, .int .i64 d] 42 (0, 0)) by rw [hW]; exact al3_0 _ _ _ _)
  have R1 := hide (show W.heap[w.heap.size + 1]? = some (.cells #[.slice none 0 0, .slice none 0 0] 130 (0, 0)) by rw [hW]; exact al3_1 _ _ _ _)
  have R2 := hide (show W.heap[w.heap.size + 1 + 1]? = some (.cells #[.int .i64 a, .int .i64 b, .int .i64 c, .int .i64 b, .int .i64 c, .int .i64 d, .int .i64 a, .int .i64 d] 105 (0, 0)) by rw [hW]; exact al3_2 _ _ _ _)
  rw [← hW]
  clear hW
  go_fit (unhide E0 _)
  rintro r w1 ⟨rfl, hb⟩
  replace HB := hide (below_two (unhide HB) hb)
  replace R1 := hide (row_next hb (unhide R1))
  replace R2 := hide (row_next hb (unhide R2))
  clear hb R0 E0
  cases e0 with
  | true =>
    obtain rfl : ok = false := unhide eo
    obtain ⟨f0, f1⟩ := free2 (unhide R1)
    obtain ⟨c0, c1⟩ := row2 (unhide R1)
    go_wp2_with fail
    refine bodyPost_ret (v := .agg #[.slice none 0 0, .slice none 0 0]) (by simp [results, Try.results133, go_sem, c0, c1]) rfl ?_
    exact res_none (below_put2 (unhide HB) (by omega) _ _)
  | false =>
    have k0 := row_at (j := 0) (unhide R2) rfl
    have k1 := row_at (j := 1) (unhide R2) rfl
    go_wp2_with fail
    go_fit (unhide E1 _)
    rintro r w2 ⟨rfl, hb⟩
    replace HB := hide (below_two (unhide HB) hb)
    replace R1 := hide (row_next hb (unhide R1))
    replace R2 := hide (row_next hb (unhide R2))
    clear hb k0 k1 E1
    cases e1 with
    | false =>
      obtain rfl : ok = false := unhide eo
      obtain ⟨f0, f1⟩ := free2 (unhide R1)
      obtain ⟨c0, c1⟩ := row2 (unhide R1)
      go_wp2_with fail
      refine bodyPost_ret (v := .agg #[.slice none 0 0, .slice none 0 0]) (by simp [results, Try.results133, go_sem, c0, c1]) rfl ?_
      exact res_none (below_put2 (unhide HB) (by omega) _ _)
    | true =>
      have k0 := row_at (j := 4) (unhide R2) rfl
      have k1 := row_at (j := 5) (unhide R2) rfl
      go_wp2_with fail
      go_fit (unhide E2 _)
      rintro r w3 ⟨rfl, hb⟩
      replace HB := hide (below_two (unhide HB) hb)
      replace R1 := hide (row_next hb (unhide R1))
      replace R2 := hide (row_next hb (unhide R2))
      clear hb k0 k1 E2
      cases e2 with
      | false =>
        obtain rfl : ok = false := unhide eo
        obtain ⟨f0, f1⟩ := free2 (unhide R1)
        obtain ⟨c0, c1⟩ := row2 (unhide R1)
        go_wp2_with fail
        refine bodyPost_ret (v := .agg #[.slice none 0 0, .slice none 0 0]) (by simp [results, Try.results133, go_sem, c0, c1]) rfl ?_
        exact res_none (below_put2 (unhide HB) (by omega) _ _)
      | true =>
        obtain rfl : ok = true := unhide eo
        have R1' := hide (old_row (.cells #[.int .i64 1, .int .i64 2, .int .i64 2, .int .i64 2, .int .i64 5] 3) (unhide R1))
        obtain ⟨f0, f1⟩ := free2 (unhide R1')
        obtain ⟨c0, c1⟩ := row2 (unhide R1')
        go_wp2_with fail
        have ls := heap_lt (unhide R2)
        refine bodyPost_ret (v := .agg #[.slice (some ⟨w3.heap.size, 0, none⟩) 5 5, .slice (some ⟨w.heap.size + 1 + 1, 0, none⟩) 4 4]) (by simp [results, Try.results133, go_sem, c0, c1]) rfl ?_
        refine ⟨_, _, _, _, rfl, ⟨own_of_row (cs := #[.int .i64 1, .int .i64 2, .int .i64 2, .int .i64 2, .int .i64 5]) (put2_other (by omega) (new_row _ _)) (by omega) rfl (by decide), own_of_row (cs := #[.int .i64 a, .int .i64 b, .int .i64 c, .int .i64 b, .int .i64 c, .int .i64 d, .int .i64 a, .int .i64 d]) (put2_other (by omega) (old_row _ (unhide R2))) (by omega) rfl (by decide), .inr (fun h => by have h' : w3.heap.size = w.heap.size + 1 + 1 := Option.some.inj h; omega)⟩, ix_list [1, 2, 2, 2, 5], px_list [(a, b), (c, b), (c, d), (a, d)], ?_⟩
        exact below_put2 (below_new _ (unhide HB) (Nat.le_refl _)) (by omega) _ _
end Go.Proofs.Ytmomgbnhildpdab
