/-
  Drawn paths of any kind and drawn texts of paths.
-/
import Derived.Test.YtkhacppaemilgaaDoorDrawAny
import Derived.Test.YtkhacppaemilgaaDoorDrawS
import Derived.Test.YtkhacppaemilgaaDoorTextS
namespace Go.Proofs.YtkhacppaemilgaaDoor
open Go.RowKit
set_option linter.unusedVariables false

theorem AnyI.pick {u : World} {a : Option Addr} {n : Nat} (h : AnyI u a n) : ∃ vf : Nat → Int, ∀ i, i < n → IntAt u a i (vf i) :=
  ⟨fun i => if hi : i < n then Classical.choose (show ∃ z, IntAt u a i z from h i hi) else 0, fun i hi => by simp only [dif_pos hi]; exact Classical.choose_spec (show ∃ z, IntAt u a i z from h i hi)⟩
theorem AnyPt.pick {u : World} {a : Option Addr} {n : Nat} (h : AnyPt u a n) : ∃ pf : Nat → Int × Int, ∀ i, i < n → PtArg u a i (pf i) :=
  ⟨fun i => if hi : i < n then Classical.choose (show ∃ z, PtArg u a i z from h i hi) else (0, 0), fun i hi => by simp only [dif_pos hi]; exact Classical.choose_spec (show ∃ z, PtArg u a i z from h i hi)⟩
theorem int_beside {u : World} {p q : Addr} {z : Int} {x v : Value} (h : u.cell? q = some (.int .i64 z)) (hp : u.cell? p = some x) (hx : ∀ m, x ≠ .int .i64 m) : (u.setCell p v).cell? q = some (.int .i64 z) := by
  have hne : p ≠ q := by
    intro e; subst e; rw [hp] at h; injection h with h; exact hx z h
  exact (World.cell?_setCell_other _ _ _ _ hne).trans h
theorem anyP_beside {u : World} {v1 v2 x y : Value} {q : Nat} {t : TypeId} (h : AnyP v1 v2 u) (hr : u.heap[q]? = some (.cells #[.slice none 0 0, .slice none 0 0] t (0, 0))) : AnyP v1 v2 ((u.setCell ⟨q, 0, none⟩ x).setCell ⟨q, 1, none⟩ y) := by
  obtain ⟨r0, r1⟩ := row2 hr
  obtain ⟨_, r2⟩ := row2 (set2_0 (v := x) hr)
  have one : ∀ {p : Addr} {z : Int}, u.cell? p = some (.int .i64 z) → ((u.setCell ⟨q, 0, none⟩ x).setCell ⟨q, 1, none⟩ y).cell? p = some (.int .i64 z) := fun hp =>
    int_beside (int_beside hp r0 (fun m => by intro e; cases e)) r2 (fun m => by intro e; cases e)
  obtain ⟨a, n, c, b, m, d, h1, h2, h3, h4, h5, h6, h7⟩ := h
  refine ⟨a, n, c, b, m, d, h1, h2, h3, h4, h5, fun i hi => ?_, fun i hi => ?_⟩
  · obtain ⟨z, s, o, e, h8⟩ := h6 i hi
    exact ⟨z, s, o, e, one h8⟩
  · obtain ⟨z, s, o, e, h8, h9⟩ := h7 i hi
    exact ⟨z, s, o, e, one h8, one h9⟩
theorem pathT_small {x : Bool} {vf : Nat → Int} {pf : Nat → Int × Int} {n m : Nat} (hx : x = true ↔ Right vf n pf m) : (pathT x vf pf n).length ≤ 2000 := by
  unfold pathT
  cases x with
  | false => simp
  | true =>
    have hR := hx.1 rfl
    have h1 := textN_len (vf := vf) (pf := pf) hR.points (k := n) (by rw [hR.sum]; exact Nat.le_refl _)
    rw [hR.sum] at h1
    have := hR.nv24
    have := hR.np24
    show (textN vf pf n).length ≤ 2000
    omega
theorem size_mk (l : List UInt8) : (⟨l.toArray⟩ : ByteArray).size = l.length := by show l.toArray.size = _; simp

set_option maxHeartbeats 4000000 in
theorem drawPathText_any (a : Option Addr) (len cap : Nat) (w : World) (hl : len ≤ 1048576) (hin : InB w.heap.size w a len) :
    Calls Tryd.prog 6 #[.slice a len cap] w fun e w' => ∃ v1 v2, e = .returned (.agg #[v1, v2]) ∧ AnyP v1 v2 w' ∧ Below w.heap.size w w' := by
  have HI := hide hin
  clear hin
  go_enter Tryd.func6, Tryd.ntmps6
  go_wp2_with fail
  obtain ⟨W, hW⟩ : ∃ W, W = w.alloc (.cells #[.slice none 0 0, .slice none 0 0] 27) := ⟨_, rfl⟩
  have R := hide (show W.heap[w.heap.size]? = some (.cells #[.slice none 0 0, .slice none 0 0] 27 (0, 0)) by rw [hW]; exact al1_0 _ _)
  have HB := hide (show Below w.heap.size w W by rw [hW]; exact al1_below _ _)
  rw [← hW]
  clear hW
  refine (l01New_any a len cap _ hl ((unhide HI).next (unhide HB))).mono ?_
  rintro e w1 ⟨g, hg, rfl, hc, hb1⟩
  have D1 := hide (DS.start hc (((unhide HI).next (unhide HB)).below hb1) hb1.size hg)
  have B1 := hide hb1
  clear hc hb1
  go_wp2_with fail
  refine (l06Any_any g _ a len cap _ hl (unhide D1)).mono ?_
  rintro e w2 ⟨v1, v2, rfl, hd, d2⟩
  have hb2 := d2.below (unhide B1) (unhide B1).size
  replace R := hide (row_next hb2 (unhide R))
  have HB2 := hide (below_two (unhide HB) hb2)
  clear d2 hb2
  have hf : ∃ a n c b m d, v1 = .slice a n c ∧ v2 = .slice b m d := by obtain ⟨a, n, c, b, m, d, h1, h2, _⟩ := hd; exact ⟨a, n, c, b, m, d, h1, h2⟩
  obtain ⟨a1, n1, c1, a2, n2, c2, rfl, rfl⟩ := hf
  have AP := hide (anyP_beside (x := .slice a1 n1 c1) (y := .slice a2 n2 c2) hd (unhide R))
  clear hd
  obtain ⟨e0, e1⟩ := row2 (unhide R)
  obtain ⟨f0, f1⟩ := free2 (unhide R)
  go_wp2_with fail
  refine bodyPost_ret (v := .agg #[.slice a1 n1 c1, .slice a2 n2 c2]) (by simp [results, Tryd.results6, go_sem, e0, e1]) rfl ?_
  exact ⟨_, _, rfl, unhide AP, below_put2 (unhide HB2) (Nat.le_refl _) _ _⟩

def tenS : List ByteArray := [⟨#[]⟩, ⟨#[77]⟩, ⟨#[77, 32, 49]⟩, ⟨#[77, 32, 49, 32, 50, 32]⟩, ⟨#[76, 32, 49, 32, 50]⟩, ⟨#[77, 32, 49, 32, 50, 32, 90, 32, 90]⟩, ⟨#[77, 32, 45, 48, 32, 49]⟩, ⟨#[77, 32, 49, 32, 32, 50]⟩, ⟨#[77, 32, 48, 49, 32, 50]⟩, ⟨#[77, 32, 49, 32, 50, 32, 76, 32, 51, 32, 45, 52, 32, 90]⟩]

set_option maxHeartbeats 4000000 in
set_option maxRecDepth 100000 in
theorem drawParsePath_any (a : Option Addr) (len cap : Nat) (w : World) (hl : len ≤ 1048576) (hin : InB w.heap.size w a len) :
    Calls Tryd.prog 12 #[.slice a len cap] w fun e w' => ∃ t : ByteArray, t.size ≤ 1000000 ∧ e = .returned (.string t) ∧ Below w.heap.size w w' := by
  have HI := hide hin
  clear hin
  go_enter Tryd.func12, Tryd.ntmps12
  go_wp2_with fail
  refine (l01New_any a len cap _ hl (unhide HI)).mono ?_
  rintro e w1 ⟨g, hg, rfl, hc, hb1⟩
  have D1 := hide (DS.start hc ((unhide HI).below hb1) hb1.size hg)
  have B1 := hide hb1
  clear hc hb1
  go_wp2_with fail
  refine (l06Any_any g _ a len cap _ hl (unhide D1)).mono ?_
  rintro e w2 ⟨v1, v2, rfl, hd, d2⟩
  obtain ⟨a1, n, c1, a2, m, c2, rfl, rfl, hn, hm, _, hI, hPp⟩ := hd
  obtain ⟨vf, V⟩ := hI.pick
  obtain ⟨pf, P⟩ := hPp.pick
  obtain ⟨x, hx⟩ : ∃ x : Bool, x = true ↔ Right vf n pf m := by
    by_cases h : Right vf n pf m
    · exact ⟨true, fun _ => h, fun _ => rfl⟩
    · exact ⟨false, fun e => (by cases e), fun e => absurd e h⟩
  have hT := pathT_small hx
  have EP := hide (specPathText_any vf pf a1 a2 n c1 m c2 (by omega) (by omega) _ x hx V P)
  replace d2 := hide d2
  clear V P hI hPp hx hn hm
  go_wp2_with fail
  go_fit (unhide EP)
  rintro r w3 ⟨rfl, hb3⟩
  have D3 := hide ((unhide d2).calls hb3)
  clear hb3 d2 EP
  generalize hs : (⟨(pathT x vf pf n).toArray⟩ : ByteArray) = s
  have hsz : s.size ≤ 2000 := by rw [← hs, size_mk]; exact hT
  clear hs hT
  go_wp2_with fail
  refine (draw_any (unhide D3) hl 6 (by omega) (by omega)).mono ?_
  rintro e w4 ⟨y, hy, rfl, d4, g4⟩
  have D4 := hide d4
  clear d4 g4 D3
  have h6 : y = 0 ∨ y = 1 ∨ 2 ≤ y := by omega
  rcases h6 with rfl | rfl | h2
  · have ES := hide (spoilt_ds (unhide D4) hl s (by omega))
    go_wp2_with fail
    go_fit (unhide ES)
    rintro r w5 ⟨t, ht, rfl, d5⟩
    have B5 := hide (d5.below (unhide B1) (unhide B1).size)
    clear d5
    go_wp2_with fail
    go_ret
    exact ⟨t, by omega, rfl, unhide B5⟩
  · have D5 := hide ((unhide D4).alloc (.cells (tenS.map (fun s => Value.string s)).toArray 9))
    have EK := hide (pickS_ds (unhide D5) hl w4.heap.size 10 (by omega) (by omega) (unhide D4).size (new_lt _ _) (fun j hj => ⟨tenS.getD j ⟨#[]⟩, by match j, hj with | 0, _ => decide | 1, _ => decide | 2, _ => decide | 3, _ => decide | 4, _ => decide | 5, _ => decide | 6, _ => decide | 7, _ => decide | 8, _ => decide | 9, _ => decide, by rw [World.cell?_alloc_mark w4 _ 9 (0, 0) j]; match j, hj with | 0, _ => rfl | 1, _ => rfl | 2, _ => rfl | 3, _ => rfl | 4, _ => rfl | 5, _ => rfl | 6, _ => rfl | 7, _ => rfl | 8, _ => rfl | 9, _ => rfl⟩))
    go_wp2_with fail
    refine (show Calls _ _ _ _ _ from unhide EK).mono ?_
    rintro r w5 ⟨t, ht, rfl, d5⟩
    have B5 := hide (d5.below (unhide B1) (unhide B1).size)
    clear d5
    go_wp2_with fail
    go_ret
    exact ⟨t, by omega, rfl, unhide B5⟩
  · have e0 : ((y : Int) == 0) = false := by simp; omega
    have e1 : ((y : Int) == 1) = false := by simp; omega
    have B5 := hide ((unhide D4).below (unhide B1) (unhide B1).size)
    go_wp2_with fail
    go_ret
    exact ⟨s, by omega, rfl, unhide B5⟩
end Go.Proofs.YtkhacppaemilgaaDoor
