/-
  The program's ParsePath.
-/
import Derived.Test.YtkhacppaemilgaaDoorLooseI
import Derived.Test.YtkhacppaemilgaaDoorTextI
import Derived.Test.YtkhacppaemilgaaDoorParseV
namespace Go.Proofs.YtkhacppaemilgaaDoor
open Go.RowKit

theorem parse_bad {S : List UInt8} {vs : List Int} {ps : List (Int × Int)} (hq : AllQ S (fun vf n pf m => n = vs.length ∧ m = ps.length ∧ (∀ j, j < n → vf j = listI vs j) ∧ ∀ j, j < m → pf j = listP ps j))
    (hn : ¬ (Right (listI vs) vs.length (listP ps) ps.length ∧ textN (listI vs) (listP ps) vs.length = S)) : AllQ S (fun _ _ _ _ => False) := by
  intro vf n pf m hR ht
  obtain ⟨rfl, rfl, h1, h2⟩ := hq vf n pf m hR ht
  refine hn ⟨hR.same h1 h2, ?_⟩
  rw [← ht]
  exact (textN_same h2 h1 (by rw [hR.sum]; exact Nat.le_refl _)).symm

set_option maxHeartbeats 4000000 in
set_option maxRecDepth 100000 in
theorem implParsePath_any (s : ByteArray) (hs : s.size ≤ 1048576) (w : World) (T : Tabs w) (hP : Pow w) :
    Calls Tryd.prog 8 #[.string s] w fun r w' => ParseRes w r w' s.data.toList := by
  have EL := hide (fun u T P => looselyRead_any s hs u T P)
  replace hP := hide hP
  replace T := hide T
  go_enter Tryd.func8, Tryd.ntmps8
  go_wp2_with fail
  obtain ⟨W, hW⟩ : ∃ W, W = w.alloc (.cells #[.slice none 0 0, .slice none 0 0] 27) := ⟨_, rfl⟩
  have R := hide (show W.heap[w.heap.size]? = some (.cells #[.slice none 0 0, .slice none 0 0] 27 (0, 0)) by rw [hW]; exact new_row _ _)
  have HB := hide (show Below w.heap.size w W by rw [hW]; exact al1_below _ _)
  have hsz : W.heap.size = w.heap.size + 1 := by rw [hW]; exact al1_size _ _
  rw [← hW]
  clear hW
  go_fit (unhide EL _ ((unhide T).next (unhide HB)) (tab_below pow10_at (unhide hP) (unhide HB)))
  intro r w1 hres
  clear EL
  rcases hres with ⟨a1, c1, vs, a2, c2, ps, rfl, ho, hq, hv24, hp24, hb⟩ | ⟨rfl, hq, hb⟩
  · have HV : Hid (PathV w1 W.heap.size (.slice a1 vs.length c1) (.slice a2 ps.length c2) vs.length ps.length (listI vs) (listP ps)) := ⟨_, _, ho, ix_map vs, px_list ps⟩
    replace R := hide (row_next hb (unhide R))
    replace HB := hide (below_two (unhide HB) hb)
    replace ho := hide ho
    replace hq := hide hq
    clear hb
    obtain ⟨n, hn⟩ : ∃ n, Hid (n = vs.length) := ⟨_, rfl⟩
    obtain ⟨m, hm⟩ : ∃ m, Hid (m = ps.length) := ⟨_, rfl⟩
    rw [← unhide hn] at HV ho hv24 ⊢
    rw [← unhide hm] at HV ho hp24 ⊢
    go_wp2_with fail
    obtain ⟨W2, hW⟩ : ∃ W2, W2 = w1.alloc (.cells #[.slice a1 n c1, .slice a2 m c2] 27) := ⟨_, rfl⟩
    have hbn := hide (show Below w1.heap.size w1 W2 by rw [hW]; exact al1_below _ _)
    have Q := hide (show W2.heap[w1.heap.size]? = some (.cells #[.slice a1 n c1, .slice a2 m c2] 27 (0, 0)) by rw [hW]; exact new_row _ _)
    rw [← hW]
    clear hW
    replace R := hide (row_next (unhide hbn) (unhide R))
    replace HB := hide (below_two (unhide HB) (unhide hbn))
    replace ho := hide ((unhide ho).next (unhide hbn))
    replace HV := hide ((unhide HV).next (unhide hbn))
    clear hbn
    obtain ⟨x, hx⟩ : ∃ x : Bool, x = true ↔ Right (listI vs) n (listP ps) m := by
      by_cases h : Right (listI vs) n (listP ps) m
      · exact ⟨true, fun _ => h, fun _ => rfl⟩
      · exact ⟨false, fun e => (by cases e), fun e => absurd e h⟩
    go_fit (implPathText_any (listI vs) (listP ps) a1 a2 n c1 m c2 (by omega) (by omega) (unhide HV).capP W2 x hx (unhide HV).ints (unhide HV).pts (tab_below pow10_at (unhide hP) (unhide HB)))
    rintro r w3 ⟨rfl, hb⟩
    replace R := hide (row_next hb (unhide R))
    replace Q := hide (row_next hb (unhide Q))
    replace HB := hide (below_two (unhide HB) hb)
    replace ho := hide ((unhide ho).next hb)
    replace hx := hide hx
    clear hb HV
    cases x with
    | false =>
      obtain ⟨r0, r1⟩ := row2 (unhide R)
      obtain ⟨f0, f1⟩ := free2 (unhide R)
      go_wp2_with fail
      refine bodyPost_ret (v := .tuple #[.agg #[.slice none 0 0, .slice none 0 0], .bool false]) (by simp [results, Tryd.results8, go_sem, r0, r1]) rfl ?_
      exact .inr ⟨rfl, parse_bad (unhide hq) (fun h => by have := (unhide hx).2 (by rw [unhide hn, unhide hm]; exact h.1); cases this), below_put2 (unhide HB) (Nat.le_refl _) _ _⟩
    | true =>
      have hR := (unhide hx).1 rfl
      replace hR := hide hR
      rw [show pathT true (listI vs) (listP ps) n = textN (listI vs) (listP ps) n from rfl]
      generalize ht : textN (listI vs) (listP ps) n = t
      replace ht := hide ht
      obtain ⟨r0, r1⟩ := row2 (unhide R)
      obtain ⟨f0, f1⟩ := free2 (unhide R)
      obtain ⟨q0, q1⟩ := row2 (unhide Q)
      by_cases he : t = s.data.toList
      · have he' : (t == s.toList) = true := by rw [ByteArray.toList_eq]; simpa using he
        replace he := hide he
        go_wp2_with fail
        refine bodyPost_ret (v := .tuple #[.agg #[.slice a1 n c1, .slice a2 m c2], .bool true]) (by simp [results, Tryd.results8, go_sem, r0, r1]) rfl ?_
        have ho1 := unhide ho
        refine .inl ⟨_, _, vs, ps, rfl, ⟨?_, ?_, ho1.apart⟩, ?_, ?_, unhide hq, below_put2 (unhide HB) (Nat.le_refl _) _ _⟩
        · rw [← unhide hn]; exact own_low (own_setc_ne (own_setc_ne ho1.one (fun k hk e => by have := (ho1.one.lt k hk).1; omega)) (fun k hk e => by have := (ho1.one.lt k hk).1; omega)) (by omega)
        · rw [← unhide hm]; exact own_low (own_setc_ne (own_setc_ne ho1.two (fun k hk e => by have := (ho1.two.lt k hk).1; omega)) (fun k hk e => by have := (ho1.two.lt k hk).1; omega)) (by omega)
        · rw [← unhide hn, ← unhide hm]; exact unhide hR
        · rw [← unhide hn, unhide ht]; exact unhide he
      · have he' : (t == s.toList) = false := by rw [ByteArray.toList_eq]; simpa using he
        replace he := hide he
        go_wp2_with fail
        refine bodyPost_ret (v := .tuple #[.agg #[.slice none 0 0, .slice none 0 0], .bool false]) (by simp [results, Tryd.results8, go_sem, r0, r1]) rfl ?_
        refine .inr ⟨rfl, parse_bad (unhide hq) (fun h => unhide he ?_), below_put2 (unhide HB) (Nat.le_refl _) _ _⟩
        rw [← unhide ht, unhide hn]; exact h.2
  · replace R := hide (row_next hb (unhide R))
    replace HB := hide (below_two (unhide HB) hb)
    obtain ⟨r0, r1⟩ := row2 (old_row (.cells #[.slice none 0 0, .slice none 0 0] 27) (unhide R))
    obtain ⟨f0, f1⟩ := free2 (old_row (.cells #[.slice none 0 0, .slice none 0 0] 27) (unhide R))
    go_wp2_with fail
    refine bodyPost_ret (v := .tuple #[.agg #[.slice none 0 0, .slice none 0 0], .bool false]) (by simp [results, Tryd.results8, go_sem, r0, r1]) rfl ?_
    exact .inr ⟨rfl, hq, below_put2 (below_new _ (unhide HB) (Nat.le_refl _)) (Nat.le_refl _) _ _⟩
end Go.Proofs.YtkhacppaemilgaaDoor
