/-
  DrawAny: texts of one claim, in one.
-/
import Derived.Test.YtdbphpekhmlmdaaGreatDoorFnPlacesM8
import Derived.Test.YtdbphpekhmlmdaaGreatDoorFnPlacesM7
import Derived.Maps.OwnIn
import Derived.Test.YtdbphpekhmlmdaaGreatDoorFnPlacesM2
import Derived.Deep.RegionLaw
import Derived.HandedShaped
import Derived.Deep.DeepCutAuto
import Derived.Deep.DeepFit

/-
  Drawn paths of any kind.
-/
namespace Go.Proofs.YtdbphpekhmlmdaaGreatDoor
open Go.RowKit
set_option linter.unusedVariables false

theorem own_cap {u : World} {base e s n c : Nat} {a : Option Addr} {xs : List Value} (h : u.ownsRow base e s (.slice a n c) n xs) : n ≤ c := by
  rcases h.2 with ⟨h2, h3⟩ | ⟨g, cap, cur, h2, _, _, h4, _⟩
  · omega
  · injection h2 with _ _ h5; omega
theorem own_put {u : World} {base e s n q : Nat} {v : Value} {xs : List Value} (h : u.ownsRow base e s v n xs) (hq : q < base) (x y : Value) : ((u.setCell ⟨q, 0, none⟩ x).setCell ⟨q, 1, none⟩ y).ownsRow base e s v n xs :=
  own_setc_ne (own_setc_ne h (fun k hk e => by have := (h.lt k hk).1; omega)) (fun k hk e => by have := (h.lt k hk).1; omega)
theorem anyI_put {u : World} {a : Option Addr} {n : Nat} (h : AnyI u a n) (p : Addr) (z : Int) : AnyI (u.setCell p (.int .i64 z)) a n := fun i hi => by
  obtain ⟨x, s, o, e, hx⟩ := h i hi
  obtain ⟨y, hy⟩ := int_set (p := p) (z := z) hx
  exact ⟨y, s, o, e, hy⟩
theorem anyPt_put {u : World} {b : Option Addr} {m : Nat} (h : AnyPt u b m) (p : Addr) (z : Int) : AnyPt (u.setCell p (.int .i64 z)) b m := fun i hi => by
  obtain ⟨q, s, o, e, h0, h1⟩ := h i hi
  obtain ⟨y0, k0⟩ := int_set (p := p) (z := z) h0
  obtain ⟨y1, k1⟩ := int_set (p := p) (z := z) h1
  exact ⟨(y0, y1), s, o, e, k0, k1⟩
theorem set2_far {u : World} {q : Nat} {p : Addr} (h : q ≠ p.block) (x y : Value) : ((u.setCell ⟨q, 0, none⟩ x).setCell ⟨q, 1, none⟩ y).cell? p = u.cell? p := by
  rw [World.cell?_setCell_far _ _ _ _ h, World.cell?_setCell_far _ _ _ _ h]
theorem anyI_far {u : World} {n q g o : Nat} {x y : Value} (h : AnyI u (some ⟨g, o, none⟩) n) (hq : q ≠ g) : AnyI ((u.setCell ⟨q, 0, none⟩ x).setCell ⟨q, 1, none⟩ y) (some ⟨g, o, none⟩) n := fun i hi => by
  obtain ⟨z, s, o', e, h1⟩ := h i hi
  cases e
  exact ⟨z, g, o, rfl, by rw [set2_far hq]; exact h1⟩
theorem anyPt_far {u : World} {n q g o : Nat} {x y : Value} (h : AnyPt u (some ⟨g, o, none⟩) n) (hq : q ≠ g) : AnyPt ((u.setCell ⟨q, 0, none⟩ x).setCell ⟨q, 1, none⟩ y) (some ⟨g, o, none⟩) n := fun i hi => by
  obtain ⟨z, s, o', e, h1, h2⟩ := h i hi
  cases e
  exact ⟨z, g, o, rfl, by rw [set2_far hq]; exact h1, by rw [set2_far hq]; exact h2⟩
theorem own_drew {u : World} {base e s n : Nat} {v : Value} {xs : List Value} (h : u.ownsRow base e s v n xs) : u.drew.ownsRow base e s v n xs := h
theorem anyI_next {u v : World} {a : Option Addr} {n : Nat} (h : AnyI u a n) (hb : Below u.heap.size u v) : AnyI v a n := fun i hi => let ⟨z, hz⟩ := h i hi; ⟨z, hz.next hb⟩
theorem anyPt_next {u v : World} {a : Option Addr} {n : Nat} (h : AnyPt u a n) (hb : Below u.heap.size u v) : AnyPt v a n := fun i hi => let ⟨z, hz⟩ := h i hi; ⟨z, hz.next hb⟩
theorem AnyP.next {v1 v2 : Value} {u v : World} (h : AnyP v1 v2 u) (hb : Below u.heap.size u v) : AnyP v1 v2 v := by
  obtain ⟨a, n, c, b, m, d, h1, h2, h3, h4, h5, h6, h7⟩ := h
  exact ⟨a, n, c, b, m, d, h1, h2, h3, h4, h5, anyI_next h6 hb, anyPt_next h7 hb⟩

/-- A path's lists: their capacities, and where they lie. -/
def CapP (base : Nat) (v1 v2 : Value) : Prop := ∃ a n c b m d, v1 = .slice a n c ∧ v2 = .slice b m d ∧ (n ≤ c ∧ (a = none → c = 0)) ∧ (m ≤ d ∧ (b = none → d = 0)) ∧ (∀ q, a = some q → base ≤ q.block) ∧ ∀ q, b = some q → base ≤ q.block
theorem caps2 {base q1 q2 o1 o2 n c m d : Nat} (h1 : n ≤ c) (h2 : m ≤ d) (h3 : base ≤ q1) (h4 : base ≤ q2) : CapP base (.slice (some ⟨q1, o1, none⟩) n c) (.slice (some ⟨q2, o2, none⟩) m d) :=
  ⟨_, _, _, _, _, _, rfl, rfl, ⟨h1, fun h => by cases h⟩, ⟨h2, fun h => by cases h⟩, fun q h => by cases h; exact h3, fun q h => by cases h; exact h4⟩
theorem caps0 (base : Nat) : CapP base (.slice none 0 0) (.slice none 0 0) :=
  ⟨_, _, _, _, _, _, rfl, rfl, ⟨Nat.le_refl _, fun _ => rfl⟩, ⟨Nat.le_refl _, fun _ => rfl⟩, fun q h => (by cases h), fun q h => (by cases h)⟩

set_option maxHeartbeats 16000000 in
set_option maxRecDepth 100000 in
theorem l06Any_cap (g B : Nat) (a : Option Addr) (len cap : Nat) (w : World) (hl : len ≤ 1048576) (h : DS w w g B a len cap) :
    Calls Tryz.prog 85 #[.pointer (some ⟨g, 0, none⟩)] w fun e w' => ∃ v1 v2, e = .returned (.agg #[v1, v2]) ∧ (AnyP v1 v2 w' ∧ CapP w.heap.size v1 v2) ∧ DS w w' g B a len cap := by
  obtain ⟨i1, hi1, hz1, hs1, hb1⟩ := info_parts Tryz.info3
  obtain ⟨i2, hi2, hz2, hs2, hb2⟩ := info_parts infoPoint
  have D := hide h
  clear h
  go_enter Tryz.func85, Tryz.ntmps85
  go_wp2_with fail
  obtain ⟨W, hW⟩ : ∃ W, W = w.alloc (.cells #[.slice none 0 0, .slice none 0 0] 39) := ⟨_, rfl⟩
  have R := hide (show W.heap[w.heap.size]? = some (.cells #[.slice none 0 0, .slice none 0 0] 39 (0, 0)) by rw [hW]; exact new_row _ _)
  replace D := hide (show DS w W g B a len cap by rw [hW]; exact (unhide D).alloc _)
  rw [← hW]
  clear hW
  refine (l06Path_any g B a len cap _ hl (unhide D).again).mono ?_
  rintro e w1 ⟨v1, v2, rfl, hd, d1⟩
  replace R := hide ((unhide D).heap d1.gb (Nat.le_refl _) (unhide R))
  have lW := hide (show w.heap.size ≤ W.heap.size from (unhide D).size)
  replace D := hide ((unhide D).next d1.cur d1.gb)
  clear d1
  have lp := hide (show w.heap.size < w1.heap.size from heap_lt (unhide R))
  obtain ⟨n, m, vf, pf, ⟨xs, ys, ho, hix, hpx⟩, hr, hnear, hn0, hm0⟩ := hd
  have hn24 := hr.nv24
  have hm24 := hr.np24
  obtain ⟨s1, c1, rfl, hs1w, hs1l⟩ := own_at ho.one hn0
  obtain ⟨s2, c2, rfl, hs2w, hs2l⟩ := own_at ho.two hm0
  have hxl := hide ho.one.1
  have hyl := hide ho.two.1
  have hx1 := hide (ix_one ho.one.1 hix)
  have hy1 := hide (px_one ho.two.1 hpx)
  replace hix := hide hix
  replace hpx := hide hpx
  have O := hide ho
  clear ho hr hnear hs1w hs1l hs2w hs2l
  go_upto_region 2 with fail
  obtain ⟨W3, hW⟩ : ∃ V, V = w1.alloc (.cells #[.slice (some ⟨s1, 0, none⟩) n c1, .slice (some ⟨s2, 0, none⟩) m c2] 39) := ⟨_, rfl⟩
  have P := hide (show W3.heap[w1.heap.size]? = some (.cells #[.slice (some ⟨s1, 0, none⟩) n c1, .slice (some ⟨s2, 0, none⟩) m c2] 39 (0, 0)) by rw [hW]; exact new_row _ _)
  replace R := hide (show W3.heap[w.heap.size]? = some (.cells #[.slice none 0 0, .slice none 0 0] 39 (0, 0)) by rw [hW]; exact old_row _ (unhide R))
  replace D := hide (show DS w W3 g B a len cap by rw [hW]; exact (unhide D).alloc _)
  replace O := hide (show OwnPath W3 W.heap.size (.slice (some ⟨s1, 0, none⟩) n c1) (.slice (some ⟨s2, 0, none⟩) m c2) n m xs ys by rw [hW]; exact (unhide O).next (al1_below _ _))
  rw [← hW]
  clear hW
  go_cut [14] (fun s u => ∃ b1 d1 b2 d2, u.heap[w1.heap.size]? = some (.cells #[.slice b1 n d1, .slice b2 m d2] 39 (0, 0)) ∧ u.ownsRow W3.heap.size 3 1 (.slice b1 n d1) n xs ∧ u.ownsRow W3.heap.size 43 2 (.slice b2 m d2) m ys ∧ Below w1.heap.size W3 u ∧ u.heap[w.heap.size]? = some (.cells #[.slice none 0 0, .slice none 0 0] 39 (0, 0)))
  case first =>
    have BZ := hide (Below.refl W3.heap.size W3)
    obtain ⟨c0, c1'⟩ := row2 (unhide P)
    have n0 := fun o => kn o c0
    have n1 := fun o => kn o c1'
    have m0 := fun o o' => kn o' (kn o c0)
    have m1 := fun o o' => kn o' (kn o c1')
    go_region_law (first | (refine step_append_bl (W0 := W3) rfl _ _ 36 3 rfl i1 (.int .i64 0) 1 8 Tryz.underlying36 hi1 hz1 hs1 hb1 rfl (by decide) _ (by rfl) (own_any (by first | exact al1_0 _ _ | exact al2_0 _ _ _ | exact al2_1 _ _ _) (by first | exact Nat.le_refl _ | exact Nat.le_succ _)) ⟨s1, 0, none⟩ n c1 xs (by rfl) (unhide hxl) (own_news ((unhide O).next (by first | exact below_new _ (unhide BZ).drew (Nat.le_refl _) | exact below_new _ (below_new _ (unhide BZ).drew (Nat.le_refl _)) (Nat.le_refl _))).one) (unhide hx1) (by unfold maxLen; omega) (by omega) (by first | exact below_new _ (unhide BZ).drew (Nat.le_refl _) | exact below_new _ (below_new _ (unhide BZ).drew (Nat.le_refl _)) (Nat.le_refl _)) ?_; intro v' wA ho hg hb _; obtain ⟨bA, dA, rfl⟩ := own_form ho; have OA := hide ho; have gA := hide (show World.grownBy _ _ (some _) from hg); have BA := hide hb; clear ho hg hb; obtain ⟨h0, h1⟩ := row2 ((unhide BA).block _ (heap_lt (unhide P)) |>.trans (unhide P)); have k0 := fun o => kn o h0; have k1 := fun o => kn o h1; obtain ⟨f0, f1⟩ := free2 ((unhide BA).block _ (heap_lt (unhide P)) |>.trans (unhide P))) | (refine step_append_bl (W0 := W3) rfl _ _ 37 43 rfl i2 (.agg #[.int .i64 0, .int .i64 0]) 2 16 Tryz.underlying37 hi2 hz2 hs2 hb2 rfl (by decide) _ (by rfl) (own_any (by first | exact new_row _ _ | exact ((unhide gA).block _ (heap_lt (al2_1 _ _ _)) (fun e => by injection e with e; (try dsimp only at e); omega)).trans (al2_1 _ _ _) | exact ((unhide gA).block _ (heap_lt (al2_0 _ _ _)) (fun e => by injection e with e; (try dsimp only at e); omega)).trans (al2_0 _ _ _)) (by first | exact Nat.le_refl _ | exact Nat.le_succ _ | exact (unhide BA).size)) ⟨s2, 0, none⟩ m c2 ys (by rfl) (unhide hyl) (own_news ((unhide O).next (by first | exact unhide BA | exact below_new _ (unhide BA) (Nat.le_refl _))).two) (unhide hy1) (by unfold maxLen; omega) (by omega) (by first | exact unhide BA | exact below_new _ (unhide BA) (Nat.le_refl _)) ?_; intro v' wB ho hg hb hk; obtain ⟨bB, dB, rfl⟩ := own_form ho; have OB := hide ho; have OA2 := hide (by first | exact hk _ _ _ _ _ _ (unhide OA) (by decide) | exact hk _ _ _ _ _ _ ((unhide OA).alloc _) (by decide)); clear hk; have BB := hide hb; clear ho hg hb; obtain ⟨h0, h1⟩ := row2 ((unhide BB).block _ (heap_lt (unhide P)) |>.trans (unhide P)); have k0 := fun o => kn o h0; have k1 := fun o => kn o h1; obtain ⟨f0, f1⟩ := free2 ((unhide BB).block _ (heap_lt (unhide P)) |>.trans (unhide P))))
    all_goals
      clear h0 h1 k0 k1 f0 f1 c0 c1' n0 n1 m0 m1
      go_wp2_with fail
      go_meet
      have OB2 := own_setc_ne (g := w1.heap.size) (j := 1) (u := .slice bB m dB) (own_setc_ne (g := w1.heap.size) (j := 0) (u := .slice bA n dA) (unhide OB) (fun k hk e => by have := ((unhide OB).lt k hk).1; have := heap_lt (unhide P); omega)) (fun k hk e => by have := ((unhide OB).lt k hk).1; have := heap_lt (unhide P); omega)
      have OA3 := own_setc_ne (g := w1.heap.size) (j := 1) (u := .slice bB m dB) (own_setc_ne (g := w1.heap.size) (j := 0) (u := .slice bA n dA) (unhide OA2) (fun k hk e => by have := ((unhide OA2).lt k hk).1; have := heap_lt (unhide P); omega)) (fun k hk e => by have := ((unhide OA2).lt k hk).1; have := heap_lt (unhide P); omega)
      exact ⟨bA, dA, bB, dB, set2_1 (set2_0 (((unhide BB).block _ (heap_lt (unhide P))).trans (unhide P))), OA3, OB2, below_put2 ((unhide BB).mono (Nat.le_of_lt (heap_lt (unhide P)))) (Nat.le_refl _) _ _, setc_other (Nat.ne_of_lt (unhide lp)) (setc_other (Nat.ne_of_lt (unhide lp)) (((unhide BB).block _ (heap_lt (unhide R))).trans (unhide R)))⟩
  case rest =>
    obtain ⟨b1, d1, b2, d2, hP, ho1, ho2, hbc, hR⟩ := hcut
    have lw := hide (show w.heap.size ≤ w1.heap.size from Nat.le_of_lt (unhide lp))
    have lW3 := hide (show w1.heap.size < W3.heap.size from heap_lt (unhide P))
    replace D := hide ((unhide D).part hbc (unhide lw))
    replace P := hide hP
    replace R := hide hR
    obtain ⟨q1, e1', hq1⟩ : ∃ g c, (b1 = some ⟨g, 0, none⟩ ∧ d1 = c) ∧ W3.heap.size ≤ g := by
      obtain ⟨g, c, e, h, _⟩ := own_at ho1 hn0
      cases e; exact ⟨g, _, ⟨rfl, rfl⟩, h⟩
    obtain ⟨q2, e2', hq2⟩ : ∃ g c, (b2 = some ⟨g, 0, none⟩ ∧ d2 = c) ∧ W3.heap.size ≤ g := by
      obtain ⟨g, c, e, h, _⟩ := own_at ho2 hm0
      cases e; exact ⟨g, _, ⟨rfl, rfl⟩, h⟩
    obtain ⟨⟨rfl, rfl⟩, hq1⟩ := hq1
    obtain ⟨⟨rfl, rfl⟩, hq2⟩ := hq2
    have hmd : m ≤ d2 := own_cap ho2
    have hnd : n ≤ d1 := own_cap ho1
    have lq1 : w.heap.size ≤ q1 := by have := unhide lW3; have := unhide lw; omega
    have lq2 : w.heap.size ≤ q2 := by have := unhide lW3; have := unhide lw; omega
    have O1 := hide ho1
    have O2 := hide ho2
    clear hP ho1 ho2 hbc hR O hx1 hy1 hxl hyl
    have lg := hide (show g < W3.heap.size from Nat.lt_of_lt_of_le (unhide D).lt (Nat.le_trans (unhide lw) (Nat.le_of_lt (unhide lW3))))
    go_wp2_with fail
    refine (draw_any (unhide D) hl 16 (by omega) (by omega)).mono ?_
    rintro e w5 ⟨x, hx, rfl, dd, gg⟩
    replace R := hide ((unhide D).heap gg (Nat.le_refl _) (unhide R))
    replace P := hide ((unhide D).heap gg (unhide lw) (unhide P))
    replace O1 := hide (own_grown (unhide O1) gg (unhide lg))
    replace O2 := hide (own_grown (unhide O2) gg (unhide lg))
    replace D := hide dd
    clear dd gg
    have FIN : Hid (∀ (u : World) (v1 v2 : Value), DS w u g B a len cap → u.heap[w.heap.size]? = some (.cells #[.slice none 0 0, .slice none 0 0] 39 (0, 0)) → (∀ y1 y2, AnyP v1 v2 ((u.setCell ⟨w.heap.size, 0, none⟩ y1).setCell ⟨w.heap.size, 1, none⟩ y2)) → AnyP v1 v2 ((u.setCell ⟨w.heap.size, 0, none⟩ v1).setCell ⟨w.heap.size, 1, none⟩ v2) ∧ DS w ((u.setCell ⟨w.heap.size, 0, none⟩ v1).setCell ⟨w.heap.size, 1, none⟩ v2) g B a len cap) := fun u v1 v2 h1 _ h3 => ⟨h3 _ _, (h1.put 0 _ (Nat.le_refl _)).put 1 _ (Nat.le_refl _)⟩
    have h16 : x = 0 ∨ x = 1 ∨ x = 2 ∨ x = 3 ∨ 4 ≤ x := by omega
    rcases h16 with rfl | rfl | rfl | rfl | h4
    · obtain ⟨p0, p1⟩ := row2 (unhide P)
      have E1 := hide (draw_any (unhide D).drew hl n hn0 (by omega))
      go_upto_region 5 with fail
      go_region_law (first | (refine step_call rfl 21 _ (by go_simp) (unhide E1) ?_; clear E1; rintro r8 w8 ⟨yy, hyy, rfl, d8, g8⟩; refine ⟨_, rfl, ?_⟩; have G8 := hide (own_grown (own_drew (unhide O2)) g8 (unhide lg)); have H8 := hide (own_grown (own_drew (unhide O1)) g8 (unhide lg)); have P8 := hide ((unhide D).drew.heap g8 (unhide lw) (row_drew (unhide P))); have R8 := hide ((unhide D).drew.heap g8 (Nat.le_refl _) (row_drew (unhide R))); have D8 := hide d8; have E2 := hide (draw_any d8 hl 7 (by omega) (by omega)); clear d8 g8; obtain ⟨y0, y1⟩ := row2 (unhide P8); have by1 : (yy : Int) < (n : Int) := (by omega)) | (refine step_call rfl 21 _ (by go_simp) (unhide E2) ?_; clear E2; rintro r6 w6 ⟨x, hxx, rfl, d6, g6⟩; refine ⟨_, rfl, ?_⟩; have G6 := hide (own_grown (unhide G8) g6 (unhide lg)); have H6 := hide (own_grown (unhide H8) g6 (unhide lg)); have P6 := hide ((unhide D8).heap g6 (unhide lw) (unhide P8)); have R6 := hide ((unhide D8).heap g6 (Nat.le_refl _) (unhide R8)); have D6 := hide d6; clear d6 g6; obtain ⟨y2, y3⟩ := row2 (unhide P6); have fz0 := (unhide H6).frozenAt yy; obtain ⟨s', o', e9, h8⟩ := own_ix (unhide H6) (unhide hix) yy hyy; cases e9; have h8' : w6.cell? ⟨q1, yy, none⟩ = some (.int .i64 (vf yy)) := (by simpa using h8); clear h8))
      all_goals
        clear y0 y1 y2 y3 fz0 h8' p0 p1
        obtain ⟨U, hU⟩ : ∃ U, U = w6.setCell ⟨q1, yy, none⟩ (.int .i64 (x : Int)) := ⟨_, rfl⟩
        have nq1 := hide (show w1.heap.size ≠ q1 by have := unhide lW3; omega)
        have nq2 := hide (show w.heap.size ≠ q1 by have := unhide lW3; have := unhide lw; omega)
        have P7 := hide (show U.heap[w1.heap.size]? = some (.cells #[.slice (some ⟨q1, 0, none⟩) n d1, .slice (some ⟨q2, 0, none⟩) m d2] 39 (0, 0)) by rw [hU]; exact setc_other (unhide nq1) (unhide P6))
        have R7 := hide (show U.heap[w.heap.size]? = some (.cells #[.slice none 0 0, .slice none 0 0] 39 (0, 0)) by rw [hU]; exact setc_other (unhide nq2) (unhide R6))
        have D7 := hide (show DS w U g B a len cap by rw [hU]; exact (unhide D6).put _ _ (by have := unhide lW3; have := unhide lw; omega))
        have I7 := hide (show ∀ y1 y2 : Value, AnyI ((U.setCell ⟨w.heap.size, 0, none⟩ y1).setCell ⟨w.heap.size, 1, none⟩ y2) (some ⟨q1, 0, none⟩) n from fun y1 y2 => by
          rw [hU]
          exact anyI_far (anyI_put (anyI_own (unhide H6) (unhide hix)) _ _) (by have := unhide lW3; have := unhide lw; omega))
        have J7 := hide (show ∀ y1 y2 : Value, AnyPt ((U.setCell ⟨w.heap.size, 0, none⟩ y1).setCell ⟨w.heap.size, 1, none⟩ y2) (some ⟨q2, 0, none⟩) m from fun y1 y2 => by
          rw [hU]
          exact anyPt_far (anyPt_put (anyP_own (unhide G6) (unhide hpx)) _ _) (by have := unhide lW3; have := unhide lw; omega))
        rw [← hU]
        clear hU
        obtain ⟨p0, p1⟩ := row2 (unhide P7)
        obtain ⟨r0, r1⟩ := row2 (unhide R7)
        obtain ⟨r2, r3⟩ := free2 (unhide R7)
        go_wp2_with fail
        refine bodyPost_ret (v := .agg #[.slice (some ⟨q1, 0, none⟩) n d1, .slice (some ⟨q2, 0, none⟩) m d2]) (by simp [results, Tryz.results85, go_sem, r0, r1]) rfl ?_
        exact ⟨_, _, rfl, ⟨⟨_, _, _, _, _, _, rfl, rfl, hn24, hm24, hmd, unhide I7 _ _, unhide J7 _ _⟩, caps2 hnd hmd lq1 lq2⟩, ((unhide D7).put 0 _ (Nat.le_refl _)).put 1 _ (Nat.le_refl _)⟩
    · by_cases hd1 : d2 = 1
      · obtain rfl : d2 = 1 := hd1
        obtain rfl : m = 1 := by omega
        obtain ⟨p0, p1⟩ := row2 (unhide P)
        obtain ⟨p2, p3⟩ := free2 (unhide P)
        go_upto_region 12 with fail
        clear p0 p1 p2 p3
        obtain ⟨U, hU⟩ : ∃ U, U = w5.setCell ⟨w1.heap.size, 1, none⟩ (.slice (some ⟨q2, 0, none⟩) 0 0) := ⟨_, rfl⟩
        replace P := hide (show U.heap[w1.heap.size]? = some (.cells #[.slice (some ⟨q1, 0, none⟩) n d1, .slice (some ⟨q2, 0, none⟩) 0 0] 39 (0, 0)) by rw [hU]; exact set2_1 (unhide P))
        replace R := hide (show U.heap[w.heap.size]? = some (.cells #[.slice none 0 0, .slice none 0 0] 39 (0, 0)) by rw [hU]; exact setc_other (Nat.ne_of_lt (unhide lp)) (unhide R))
        replace D := hide (show DS w U g B a len cap by rw [hU]; exact (unhide D).put _ _ (unhide lw))
        replace O1 := hide (show U.ownsRow W3.heap.size 3 1 (.slice (some ⟨q1, 0, none⟩) n d1) n xs by rw [hU]; exact own_setc_ne (unhide O1) (fun k hk e => by have := ((unhide O1).lt k hk).1; have := unhide lW3; omega))
        replace O2 := hide (show U.ownsRow W3.heap.size 43 2 (.slice (some ⟨q2, 0, none⟩) 1 1) 1 ys by rw [hU]; exact own_setc_ne (unhide O2) (fun k hk e => by have := ((unhide O2).lt k hk).1; have := unhide lW3; omega))
        first | rw [← hU] | (rw [show some (⟨q2, 0 + 1 * 2, none⟩ : Addr) = some ⟨q2, 2, none⟩ from rfl, ← hU])
        clear hU
        obtain ⟨p0, p1⟩ := row2 (unhide P)
        obtain ⟨r0, r1⟩ := row2 (unhide R)
        obtain ⟨r2, r3⟩ := free2 (unhide R)
        go_wp2_with fail
        refine bodyPost_ret (v := .agg #[.slice (some ⟨q1, 0, none⟩) n d1, .slice (some ⟨q2, 0, none⟩) 0 0]) (by simp [results, Tryz.results85, go_sem, r0, r1]) rfl ?_
        have kk1 := own_put (unhide O1) (q := w.heap.size) (by have := unhide lw; have := unhide lW3; omega) (.slice (some ⟨q1, 0, none⟩) n d1) (.slice (some ⟨q2, 0, none⟩) 0 0)
        have kk2 := own_put (unhide O2) (q := w.heap.size) (by have := unhide lw; have := unhide lW3; omega) (.slice (some ⟨q1, 0, none⟩) n d1) (.slice (some ⟨q2, 0, none⟩) 0 0)
        exact ⟨_, _, rfl, ⟨⟨_, _, _, _, 0, 0, rfl, rfl, hn24, by omega, by omega, anyI_own kk1 (unhide hix), fun i hi => absurd hi (by omega)⟩, caps2 hnd (Nat.le_refl 0) lq1 lq2⟩, ((unhide D).put 0 _ (Nat.le_refl _)).put 1 _ (Nat.le_refl _)⟩
      · have b1 : (1 : Int) ≤ (m : Int) := by omega
        have b2 : (m : Int) ≤ (d2 : Int) := by omega
        obtain ⟨p0, p1⟩ := row2 (unhide P)
        obtain ⟨p2, p3⟩ := free2 (unhide P)
        go_upto_region 12 with fail
        clear p0 p1 p2 p3
        obtain ⟨U, hU⟩ : ∃ U, U = w5.setCell ⟨w1.heap.size, 1, none⟩ (.slice (some ⟨q2, 2, none⟩) (m - 1) (d2 - 1)) := ⟨_, rfl⟩
        replace P := hide (show U.heap[w1.heap.size]? = some (.cells #[.slice (some ⟨q1, 0, none⟩) n d1, .slice (some ⟨q2, 2, none⟩) (m - 1) (d2 - 1)] 39 (0, 0)) by rw [hU]; exact set2_1 (unhide P))
        replace R := hide (show U.heap[w.heap.size]? = some (.cells #[.slice none 0 0, .slice none 0 0] 39 (0, 0)) by rw [hU]; exact setc_other (Nat.ne_of_lt (unhide lp)) (unhide R))
        replace D := hide (show DS w U g B a len cap by rw [hU]; exact (unhide D).put _ _ (unhide lw))
        replace O1 := hide (show U.ownsRow W3.heap.size 3 1 (.slice (some ⟨q1, 0, none⟩) n d1) n xs by rw [hU]; exact own_setc_ne (unhide O1) (fun k hk e => by have := ((unhide O1).lt k hk).1; have := unhide lW3; omega))
        replace O2 := hide (show U.ownsRow W3.heap.size 43 2 (.slice (some ⟨q2, 0, none⟩) m d2) m ys by rw [hU]; exact own_setc_ne (unhide O2) (fun k hk e => by have := ((unhide O2).lt k hk).1; have := unhide lW3; omega))
        first | rw [← hU] | (rw [show some (⟨q2, 0 + 1 * 2, none⟩ : Addr) = some ⟨q2, 2, none⟩ from rfl, ← hU])
        clear hU
        obtain ⟨p0, p1⟩ := row2 (unhide P)
        obtain ⟨r0, r1⟩ := row2 (unhide R)
        obtain ⟨r2, r3⟩ := free2 (unhide R)
        go_wp2_with fail
        refine bodyPost_ret (v := .agg #[.slice (some ⟨q1, 0, none⟩) n d1, .slice (some ⟨q2, 2, none⟩) (m - 1) (d2 - 1)]) (by simp [results, Tryz.results85, go_sem, r0, r1]) rfl ?_
        have kk1 := own_put (unhide O1) (q := w.heap.size) (by have := unhide lw; have := unhide lW3; omega) (.slice (some ⟨q1, 0, none⟩) n d1) (.slice (some ⟨q2, 2, none⟩) (m - 1) (d2 - 1))
        have kk2 := own_put (unhide O2) (q := w.heap.size) (by have := unhide lw; have := unhide lW3; omega) (.slice (some ⟨q1, 0, none⟩) n d1) (.slice (some ⟨q2, 2, none⟩) (m - 1) (d2 - 1))
        refine ⟨_, _, rfl, ⟨⟨_, _, _, _, _, _, rfl, rfl, hn24, by omega, by omega, anyI_own kk1 (unhide hix), fun i hi => ?_⟩, caps2 hnd (by omega) lq1 lq2⟩, ((unhide D).put 0 _ (Nat.le_refl _)).put 1 _ (Nat.le_refl _)⟩
        obtain ⟨s', o', e9, h8, h9⟩ := own_pxa kk2 (unhide hpx) (i + 1) (by omega)
        cases e9
        exact ⟨_, q2, 2, rfl, by rw [show 2 + i * 2 = 0 + (i + 1) * 2 by omega]; exact h8, by rw [show 2 + i * 2 + 1 = 0 + (i + 1) * 2 + 1 by omega]; exact h9⟩
    · obtain ⟨p0, p1⟩ := row2 (unhide P)
      have E := hide (l04AnyPoint_any g B a len cap _ hl (unhide D).drew.again)
      have bm : (0 : Int) < (m : Int) := by omega
      go_upto_region 9 with fail
      go_region_law (refine step_call rfl 121 _ (by go_simp) (unhide E) ?_; rintro r6 w6 ⟨x, y, rfl, d6⟩; refine ⟨_, rfl, ?_⟩; have G6 := hide (own_grown (own_drew (unhide O2)) d6.gb (unhide lg)); have H6 := hide (own_grown (own_drew (unhide O1)) d6.gb (unhide lg)); have P6 := hide ((unhide D).drew.heap d6.gb (unhide lw) (row_drew (unhide P))); have R6 := hide ((unhide D).drew.heap d6.gb (Nat.le_refl _) (row_drew (unhide R))); have D6 := hide ((unhide D).drew.next d6.cur d6.gb); clear d6; obtain ⟨y0, y1⟩ := row2 (unhide P6); have fz0 := (unhide G6).frozenAt 0; have fz1 := (unhide G6).frozenAt 1; obtain ⟨s', o', e9, h8, h9⟩ := own_pxa (unhide G6) (unhide hpx) 0 hm0; cases e9; have h8' : w6.cell? ⟨q2, 0, none⟩ = some (.int .i64 (pf 0).1) := (by simpa using h8); have h9' : w6.cell? ⟨q2, 1, none⟩ = some (.int .i64 (pf 0).2) := (by simpa using h9); clear h8 h9)
      all_goals
        clear y0 y1 fz0 fz1 h8' h9' p0 p1
        obtain ⟨U, hU⟩ : ∃ U, U = (w6.setCell ⟨q2, 0, none⟩ (.int .i64 x)).setCell ⟨q2, 1, none⟩ (.int .i64 y) := ⟨_, rfl⟩
        have nq1 := hide (show w1.heap.size ≠ q2 by have := unhide lW3; omega)
        have nq2 := hide (show w.heap.size ≠ q2 by have := unhide lW3; have := unhide lw; omega)
        have P7 := hide (show U.heap[w1.heap.size]? = some (.cells #[.slice (some ⟨q1, 0, none⟩) n d1, .slice (some ⟨q2, 0, none⟩) m d2] 39 (0, 0)) by rw [hU]; exact setc_other (unhide nq1) (setc_other (unhide nq1) (unhide P6)))
        have R7 := hide (show U.heap[w.heap.size]? = some (.cells #[.slice none 0 0, .slice none 0 0] 39 (0, 0)) by rw [hU]; exact setc_other (unhide nq2) (setc_other (unhide nq2) (unhide R6)))
        have D7 := hide (show DS w U g B a len cap by rw [hU]; exact ((unhide D6).put _ _ (by have := unhide lW3; have := unhide lw; omega)).put _ _ (by have := unhide lW3; have := unhide lw; omega))
        have I7 := hide (show ∀ y1 y2 : Value, AnyI ((U.setCell ⟨w.heap.size, 0, none⟩ y1).setCell ⟨w.heap.size, 1, none⟩ y2) (some ⟨q1, 0, none⟩) n from fun y1 y2 => by
          rw [hU]
          exact anyI_far (anyI_put (anyI_put (anyI_own (unhide H6) (unhide hix)) _ _) _ _) (by have := unhide lW3; have := unhide lw; omega))
        have J7 := hide (show ∀ y1 y2 : Value, AnyPt ((U.setCell ⟨w.heap.size, 0, none⟩ y1).setCell ⟨w.heap.size, 1, none⟩ y2) (some ⟨q2, 0, none⟩) m from fun y1 y2 => by
          rw [hU]
          exact anyPt_far (anyPt_put (anyPt_put (anyP_own (unhide G6) (unhide hpx)) _ _) _ _) (by have := unhide lW3; have := unhide lw; omega))
        rw [← hU]
        clear hU
        obtain ⟨p0, p1⟩ := row2 (unhide P7)
        obtain ⟨r0, r1⟩ := row2 (unhide R7)
        obtain ⟨r2, r3⟩ := free2 (unhide R7)
        go_wp2_with fail
        refine bodyPost_ret (v := .agg #[.slice (some ⟨q1, 0, none⟩) n d1, .slice (some ⟨q2, 0, none⟩) m d2]) (by simp [results, Tryz.results85, go_sem, r0, r1]) rfl ?_
        exact ⟨_, _, rfl, ⟨⟨_, _, _, _, _, _, rfl, rfl, hn24, hm24, hmd, unhide I7 _ _, unhide J7 _ _⟩, caps2 hnd hmd lq1 lq2⟩, ((unhide D7).put 0 _ (Nat.le_refl _)).put 1 _ (Nat.le_refl _)⟩
    · obtain ⟨p0, p1⟩ := row2 (unhide P)
      obtain ⟨p2, p3⟩ := free2 (unhide P)
      go_upto_region 12 with fail
      clear p0 p1 p2 p3
      obtain ⟨U, hU⟩ : ∃ U, U = (w5.setCell ⟨w1.heap.size, 0, none⟩ (.slice none 0 0)).setCell ⟨w1.heap.size, 1, none⟩ (.slice none 0 0) := ⟨_, rfl⟩
      replace P := hide (show U.heap[w1.heap.size]? = some (.cells #[.slice none 0 0, .slice none 0 0] 39 (0, 0)) by rw [hU]; exact set2_1 (set2_0 (unhide P)))
      replace R := hide (show U.heap[w.heap.size]? = some (.cells #[.slice none 0 0, .slice none 0 0] 39 (0, 0)) by rw [hU]; exact setc_other (Nat.ne_of_lt (unhide lp)) (setc_other (Nat.ne_of_lt (unhide lp)) (unhide R)))
      replace D := hide (show DS w U g B a len cap by rw [hU]; exact ((unhide D).put _ _ (unhide lw)).put _ _ (unhide lw))
      rw [← hU]
      clear hU
      obtain ⟨p0, p1⟩ := row2 (unhide P)
      obtain ⟨r0, r1⟩ := row2 (unhide R)
      obtain ⟨r2, r3⟩ := free2 (unhide R)
      go_wp2_with fail
      refine bodyPost_ret (v := .agg #[.slice none 0 0, .slice none 0 0]) (by simp [results, Tryz.results85, go_sem, r0, r1]) rfl ?_
      exact ⟨_, _, rfl, ⟨⟨none, 0, 0, none, 0, 0, rfl, rfl, by omega, by omega, by omega, fun i hi => absurd hi (by omega), fun i hi => absurd hi (by omega)⟩, caps0 _⟩, ((unhide D).put 0 _ (Nat.le_refl _)).put 1 _ (Nat.le_refl _)⟩
    · have e0 : ((x : Int) == 0) = false := by simp; omega
      have e1 : ((x : Int) == 1) = false := by simp; omega
      have e2 : ((x : Int) == 2) = false := by simp; omega
      have e3 : ((x : Int) == 3) = false := by simp; omega
      obtain ⟨p0, p1⟩ := row2 (unhide P)
      obtain ⟨r0, r1⟩ := row2 (unhide R)
      obtain ⟨r2, r3⟩ := free2 (unhide R)
      go_wp2_with fail
      refine bodyPost_ret (v := .agg #[.slice (some ⟨q1, 0, none⟩) n d1, .slice (some ⟨q2, 0, none⟩) m d2]) (by simp [results, Tryz.results85, go_sem, r0, r1]) rfl ?_
      have k1 := own_put (unhide O1) (q := w.heap.size) (by have := unhide lw; have := unhide lW3; omega) (.slice (some ⟨q1, 0, none⟩) n d1) (.slice (some ⟨q2, 0, none⟩) m d2)
      have k2 := own_put (unhide O2) (q := w.heap.size) (by have := unhide lw; have := unhide lW3; omega) (.slice (some ⟨q1, 0, none⟩) n d1) (.slice (some ⟨q2, 0, none⟩) m d2)
      exact ⟨_, _, rfl, ⟨⟨_, _, _, _, _, _, rfl, rfl, hn24, hm24, hmd, anyI_own k1 (unhide hix), anyP_own k2 (unhide hpx)⟩, caps2 hnd hmd lq1 lq2⟩, ((unhide D).put 0 _ (Nat.le_refl _)).put 1 _ (Nat.le_refl _)⟩
end Go.Proofs.YtdbphpekhmlmdaaGreatDoor
