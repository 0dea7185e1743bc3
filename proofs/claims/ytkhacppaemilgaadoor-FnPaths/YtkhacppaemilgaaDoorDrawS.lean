/-
  Drawn texts: one of a list, a text that is spoilt; paths that are alike.
-/
import Derived.Test.YtkhacppaemilgaaDoorDrawA
import Derived.Test.YtkhacppaemilgaaDoorDrawT
import Derived.Test.YtkhacppaemilgaaDoorDrawPc
import Derived.Test.YtkhacppaemilgaaDoorSamesL
namespace Go.Proofs.YtkhacppaemilgaaDoor
open Go.RowKit
set_option linter.unusedVariables false

theorem text_ds {w u : World} {g B : Nat} {a : Option Addr} {len cap : Nat} (h : DS w u g B a len cap) (hl : len ≤ 1048576) (n : Nat) (hn : n ≤ 5000) :
    Calls Tryd.prog 54 #[.pointer (some ⟨g, 0, none⟩), .int .i64 (n : Int)] u fun e v => ∃ l : List UInt8, l.length = n ∧ e = .returned (.string ⟨l.toArray⟩) ∧ DS w v g B a len cap :=
  (l01Text_any g B a len cap n hn u hl h.lg h.le h.inb h.cur).mono fun _ _ ⟨l, h1, h2, h3, h4⟩ => ⟨l, h1, h2, h.next h3 h4⟩

set_option maxHeartbeats 2000000 in
theorem pickS_ds {w u : World} {g B : Nat} {a : Option Addr} {len cap : Nat} (h : DS w u g B a len cap) (hl : len ≤ 1048576) (b n : Nat) (hn : 0 < n) (hn2 : n ≤ 1000) (hb : w.heap.size ≤ b) (hbs : b < u.heap.size) (hrow : ∀ j, j < n → ∃ s : ByteArray, s.size ≤ 100 ∧ u.cell? ⟨b, j, none⟩ = some (.string s)) :
    Calls Tryd.prog 32 #[.pointer (some ⟨g, 0, none⟩), .slice (some ⟨b, 0, none⟩) n n] u fun e v => ∃ s : ByteArray, s.size ≤ 100 ∧ e = .returned (.string s) ∧ DS w v g B a len cap := by
  have H := hide (draw_any h hl n hn (by omega))
  have hg := hide h.lt
  have hrow' := hide hrow
  clear hrow
  go_enter Tryd.func32, Tryd.ntmps32
  go_wp2_with fail
  refine (unhide H).mono ?_
  rintro e w1 ⟨x, hx, rfl, hc1, hg1⟩
  obtain ⟨s, hs, hcell⟩ := unhide hrow' x hx
  have hc : w1.cell? ⟨b, x, none⟩ = some (.string s) := by
    have e : w1.cell? ⟨b, x, none⟩ = u.cell? ⟨b, x, none⟩ := by simp [World.cell?, hg1.block b hbs (fun e => by injection e with e; have := unhide hg; omega)]
    rw [e]; exact hcell
  replace hc1 := hide hc1
  have hxn : (x : Int) < (n : Int) := by omega
  clear hg1 hcell
  go_wp2_with fail
  go_ret
  exact ⟨s, hs, rfl, unhide hc1⟩

theorem str_cat (a b : ByteArray) : (a ++ b).size = a.size + b.size := ByteArray.size_append
theorem str_cut (a : ByteArray) (i j : Nat) : (a.extract i j).size ≤ a.size := by rw [ByteArray.size_extract]; omega

set_option maxHeartbeats 4000000 in
set_option maxRecDepth 100000 in
theorem spoilt_ds {w u : World} {g B : Nat} {a : Option Addr} {len cap : Nat} (h : DS w u g B a len cap) (hl : len ≤ 1048576) (s : ByteArray) (hs : s.size ≤ 100000) :
    Calls Tryd.prog 31 #[.pointer (some ⟨g, 0, none⟩), .string s] u fun e v => ∃ t : ByteArray, t.size ≤ 200001 ∧ e = .returned (.string t) ∧ DS w v g B a len cap := by
  have H := hide (draw_any h hl 12 (by omega) (by omega))
  clear h
  go_enter Tryd.func31, Tryd.ntmps31
  go_wp2_with fail
  refine (unhide H).mono ?_
  rintro e w1 ⟨x, hx, rfl, d1, g1⟩
  have D := hide d1
  clear H d1 g1
  have DD := hide (fun k (hk : 0 < k) (hk2 : k ≤ 4294967296) => draw_any (unhide D) hl k hk hk2)
  have TT := hide (fun (v : World) (dv : DS w v g B a len cap) => text_ds dv hl 1 (by omega))
  have h12 : x = 0 ∨ x = 1 ∨ x = 2 ∨ x = 3 ∨ 4 ≤ x := by omega
  rcases h12 with rfl | rfl | rfl | rfl | h4
  · go_wp2_with fail
    refine (unhide TT _ (unhide D)).mono ?_
    rintro e w2 ⟨l, hll, rfl, d2⟩
    replace d2 := hide d2
    have hlim : ¬ 9223372036854775807 < s.size + l.length := by omega
    replace hll := hide hll
    go_wp2_with fail
    go_ret
    refine ⟨_, ?_, rfl, unhide d2⟩
    have h4 := unhide hll
    have h3 : (⟨l.toArray⟩ : ByteArray).size = 1 := (show l.toArray.size = 1 by simpa using h4)
    rw [str_cat, h3]
    omega
  · have H1 := hide (unhide DD (s.size + 1) (by omega) (by omega))
    rw [show ((s.size + 1 : Nat) : Int) = (s.size : Int) + 1 by omega] at H1
    have hw1 : IntKind.i64.wrap ((s.size : Int) + 1) = (s.size : Int) + 1 := IntWalk.i64_in _ (by omega)
    go_wp2_with fail
    refine (unhide H1).mono ?_
    rintro e w2 ⟨y, hy, rfl, d2, _⟩
    replace d2 := hide d2
    have hy1 : (y : Int) ≤ (s.size : Int) := by omega
    have hy2 : (0 : Int) ≤ (y : Int) := by omega
    go_wp2_with fail
    go_ret
    exact ⟨_, Nat.le_trans (str_cut _ _ _) (by omega), rfl, unhide d2⟩
  · by_cases hs0 : 0 < s.size
    · have H1 := hide (unhide DD s.size hs0 (by omega))
      have hs0' : (0 : Int) < (s.size : Int) := by omega
      go_wp2_with fail
      refine (unhide H1).mono ?_
      rintro e w2 ⟨y, hy, rfl, d2, _⟩
      replace d2 := hide d2
      have hy1 : (y : Int) ≤ (s.size : Int) := by omega
      have hy2 : (0 : Int) ≤ (y : Int) := by omega
      have hy3 : (y : Int) + 1 ≤ (s.size : Int) := by omega
      have hy4 : (0 : Int) ≤ (y : Int) + 1 := by omega
      have hyw : IntKind.i64.wrap ((y : Int) + 1) = (y : Int) + 1 := IntWalk.i64_in _ (by omega)
      have T2 := hide (fun (v : World) (hv : v = w2.drew) => unhide TT v (by rw [hv]; exact (unhide d2).drew))
      go_upto_region 10 with fail
      go_region_law (refine step_call rfl 54 _ (by go_simp) (unhide T2 _ rfl) ?_; rintro r5 w5 ⟨l, hll, rfl, d5⟩; refine ⟨_, rfl, ?_⟩; have D5 := hide d5; have L5 := hide hll; have A2 : ¬ 9223372036854775807 < min y s.size + l.length := (by rw [hll]; omega); have A5 : ¬ 9223372036854775807 < min y s.size + l.length + (s.size - (y + 1)) := (by rw [hll]; omega); have A6 : ¬ 9223372036854775807 < min y s.size + l.length + (min s.size s.size - (y + 1)) := (by rw [hll]; omega); clear d5 hll)
      all_goals
        go_wp2_with fail
        go_ret
        refine ⟨_, ?_, rfl, unhide D5⟩
        have h4 := unhide L5
        have h3 : (⟨l.toArray⟩ : ByteArray).size = 1 := (show l.toArray.size = 1 by simpa using h4)
        rw [str_cat, str_cat, h3]
        have h1 := str_cut s 0 y
        have h2 := str_cut s (y + 1) s.size
        omega
    · have hs0' : ¬ (0 : Int) < (s.size : Int) := by omega
      go_wp2_with fail
      go_ret
      exact ⟨s, by omega, rfl, unhide D⟩
  · by_cases hs0 : 0 < s.size
    · have H1 := hide (unhide DD s.size hs0 (by omega))
      have hs0' : (0 : Int) < (s.size : Int) := by omega
      go_wp2_with fail
      refine (unhide H1).mono ?_
      rintro e w2 ⟨y, hy, rfl, d2, _⟩
      replace d2 := hide d2
      have hy1 : (y : Int) ≤ (s.size : Int) := by omega
      have hy2 : (0 : Int) ≤ (y : Int) := by omega
      have hy3 : (y : Int) + 1 ≤ (s.size : Int) := by omega
      have hy4 : (0 : Int) ≤ (y : Int) + 1 := by omega
      have hyw : IntKind.i64.wrap ((y : Int) + 1) = (y : Int) + 1 := IntWalk.i64_in _ (by omega)
      have T2 := hide (fun (v : World) (hv : v = w2.drew) => unhide TT v (by rw [hv]; exact (unhide d2).drew))
      go_upto_region 10 with fail
      go_region_law (refine step_call rfl 54 _ (by go_simp) (unhide T2 _ rfl) ?_; rintro r5 w5 ⟨l, hll, rfl, d5⟩; refine ⟨_, rfl, ?_⟩; have D5 := hide d5; have L5 := hide hll; have A2 : ¬ 9223372036854775807 < min y s.size + l.length := (by rw [hll]; omega); have A5 : ¬ 9223372036854775807 < min y s.size + l.length + (s.size - (y + 1)) := (by rw [hll]; omega); have A6 : ¬ 9223372036854775807 < min y s.size + l.length + (min s.size s.size - (y + 1)) := (by rw [hll]; omega); clear d5 hll)
      all_goals
        go_wp2_with fail
        go_ret
        refine ⟨_, ?_, rfl, unhide D5⟩
        have h4 := unhide L5
        have h3 : (⟨l.toArray⟩ : ByteArray).size = 1 := (show l.toArray.size = 1 by simpa using h4)
        rw [str_cat, str_cat, h3]
        have h1 := str_cut s 0 y
        have h2 := str_cut s (y + 1) s.size
        omega
    · have hs0' : ¬ (0 : Int) < (s.size : Int) := by omega
      go_wp2_with fail
      go_ret
      exact ⟨s, by omega, rfl, unhide D⟩
  · have e0 : ((x : Int) == 0) = false := by simp; omega
    have e1 : ((x : Int) == 1) = false := by simp; omega
    have e2 : ((x : Int) == 2) = false := by simp; omega
    have e3 : ((x : Int) == 3) = false := by simp; omega
    go_wp2_with fail
    go_ret
    exact ⟨s, by omega, rfl, unhide D⟩

set_option maxHeartbeats 4000000 in
set_option maxRecDepth 100000 in
theorem samePath_any (vf : Nat → Int) (pf : Nat → Int × Int) (a b a' b' : Option Addr) (n m c d c' d' : Nat) (hn : n ≤ 1048576) (hm : m ≤ 1048576) (w : World) (V : ∀ i, i < n → IntAt w a i (vf i)) (P : ∀ i, i < m → PtArg w b i (pf i)) (V' : ∀ i, i < n → IntAt w a' i (vf i)) (P' : ∀ i, i < m → PtArg w b' i (pf i)) :
    Calls Tryd.prog 11 #[.agg #[.slice a n c, .slice b m d], .agg #[.slice a' n c', .slice b' m d']] w fun r w' => r = .returned (.bool true) ∧ Below w.heap.size w w' := by
  have E1 := hide (fun u (hu : Below w.heap.size w u) => sameInts_any vf a a' n c c' hn u (fun i hi => (V i hi).next hu) (fun i hi => (V' i hi).next hu))
  have E2 := hide (fun u (hu : Below w.heap.size w u) => samePoints_any pf b b' m d d' hm u (fun i hi => (P i hi).next hu) (fun i hi => (P' i hi).next hu))
  clear V P V' P'
  go_enter Tryd.func11, Tryd.ntmps11
  go_wp2_with fail
  obtain ⟨W, hW⟩ : ∃ W, W = (w.alloc (.cells #[.slice a n c, .slice b m d] 27)).alloc (.cells #[.slice a' n c', .slice b' m d'] 27) := ⟨_, rfl⟩
  have R0 := hide (show W.heap[w.heap.size]? = some (.cells #[.slice a n c, .slice b m d] 27 (0, 0)) by rw [hW]; exact al2_0 _ _ _)
  have R1 := hide (show W.heap[w.heap.size + 1]? = some (.cells #[.slice a' n c', .slice b' m d'] 27 (0, 0)) by rw [hW]; exact al2_1 _ _ _)
  have HB := hide (show Below w.heap.size w W by rw [hW]; exact al2_below _ _ _)
  rw [← hW]
  clear hW
  go_fit (unhide E1 _ (unhide HB))
  rintro r w1 ⟨rfl, hb⟩
  replace R0 := hide (row_next hb (unhide R0))
  replace R1 := hide (row_next hb (unhide R1))
  replace HB := hide (below_two (unhide HB) hb)
  clear hb
  obtain ⟨r0, r1⟩ := row2 (unhide R0)
  obtain ⟨s0, s1⟩ := row2 (unhide R1)
  go_wp2_with fail
  go_fit (unhide E2 _ (unhide HB))
  rintro r w2 ⟨rfl, hb⟩
  replace HB := hide (below_two (unhide HB) hb)
  clear hb
  go_wp2_with fail
  go_ret
  exact ⟨rfl, unhide HB⟩
end Go.Proofs.YtkhacppaemilgaaDoor
