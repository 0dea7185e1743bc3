/-
  Drawn numbers and texts of chapter 1: one in so many, one of a list, a long text.
-/
import Derived.Test.YtfkgfnjbdlkccaaDoorDrawT
import Derived.Test.YtfkgfnjbdlkccaaDoorUnhexI
namespace Go.Proofs.YtfkgfnjbdlkccaaDoor
open Go.RowKit

set_option maxHeartbeats 1000000 in
theorem l01Once_any (g B : Nat) (a : Option Addr) (len cap : Nat) (n : Nat) (hn : 0 < n) (hn2 : n ≤ 4294967296) (w : World) (hl : len ≤ 1048576) (hB : B ≤ g) (hs : B ≤ w.heap.size) (hin : InB B w a len) (hc : Cur w g a len cap) :
    Calls Tryd.prog 18 #[.pointer (some ⟨g, 0, none⟩), .int .i64 (n : Int)] w fun e w' => ∃ b : Bool, e = .returned (.bool b) ∧ Cur w' g a len cap ∧ w.grownBy w' (some g) := by
  have H := hide (l01Below_any g B a len cap n hn hn2 w hl hB hs hin hc)
  clear hc hin
  go_enter Tryd.func18, Tryd.ntmps18
  go_wp2_with (go_at_call 20; go_must (refine (unhide H).mono ?_); rintro e w1 ⟨x, hx, rfl, hc1, hg1⟩; have C1 := hide hc1; have G1 := hide hg1; clear hc1 hg1)
  go_ret
  exact ⟨_, rfl, unhide C1, unhide G1⟩

/-- The numbers of a list lie in a row of their own, each an int. -/
def IntRow (w : World) (b n : Nat) : Prop := ∀ j, j < n → ∃ z : Int, (-9223372036854775808 ≤ z ∧ z ≤ 9223372036854775807) ∧ w.cell? ⟨b, j, none⟩ = some (.int .i64 z)

set_option maxHeartbeats 1000000 in
theorem l01PickInt_any (g B : Nat) (a : Option Addr) (len cap : Nat) (b n : Nat) (hn : 0 < n) (hn2 : n ≤ 1000) (w : World) (hl : len ≤ 1048576) (hB : B ≤ g) (hs : B ≤ w.heap.size) (hin : InB B w a len) (hc : Cur w g a len cap) (hbg : b ≠ g) (hbs : b < w.heap.size) (hrow : IntRow w b n) :
    Calls Tryd.prog 23 #[.pointer (some ⟨g, 0, none⟩), .slice (some ⟨b, 0, none⟩) n n] w fun e w' => ∃ z : Int, (-9223372036854775808 ≤ z ∧ z ≤ 9223372036854775807) ∧ e = .returned (.int .i64 z) ∧ Cur w' g a len cap ∧ w.grownBy w' (some g) := by
  have H := hide (l01Below_any g B a len cap n hn (by omega) w hl hB hs hin hc)
  have HR := hide hrow
  clear hc hin hrow
  go_enter Tryd.func23, Tryd.ntmps23
  go_wp2_with fail
  refine (unhide H).mono ?_
  rintro e w1 ⟨x, hx, rfl, hc1, hg1⟩
  obtain ⟨z, hz, hcz⟩ := unhide HR x hx
  have hbl : w1.heap[b]? = w.heap[b]? := hg1.block b hbs (by intro h; cases h; exact hbg rfl)
  have hcell : w1.cell? ⟨b, x, none⟩ = some (.int .i64 z) := by
    have e : w1.cell? ⟨b, x, none⟩ = w.cell? ⟨b, x, none⟩ := by simp [World.cell?, hbl]
    rw [e]; exact hcz
  have C1 := hide hc1
  have G1 := hide hg1
  clear hc1 hg1 hbl hcz
  have hx1 : (x : Int) < (n : Int) := by omega
  have hx0 : (0 : Int) ≤ (x : Int) := by omega
  go_wp2
  go_ret
  exact ⟨z, hz, rfl, unhide C1, unhide G1⟩

theorem intRow_lit (w : World) (L : List Int) (t : TypeId) (hL : ∀ z ∈ L, -9223372036854775808 ≤ z ∧ z ≤ 9223372036854775807) : IntRow (w.alloc (.cells (L.map (fun z => Value.int .i64 z)).toArray t)) w.heap.size L.length := fun j hj => by
  refine ⟨L[j], hL _ (List.getElem_mem hj), ?_⟩
  have h := heap_alloc_new w (.cells (L.map (fun z => Value.int .i64 z)).toArray t)
  rw [cell_of_row _ _ _ _ _ _ h]
  simp [hj]

set_option maxHeartbeats 2000000 in
theorem l01Number_any (g B : Nat) (a : Option Addr) (len cap : Nat) (w : World) (hl : len ≤ 1048576) (hB : B ≤ g) (hs : B ≤ w.heap.size) (hin : InB B w a len) (hc : Cur w g a len cap) :
    Calls Tryd.prog 15 #[.pointer (some ⟨g, 0, none⟩)] w fun e w' => ∃ z : Int, (-9223372036854775808 ≤ z ∧ z ≤ 9223372036854775807) ∧ e = .returned (.int .i64 z) ∧ Cur w' g a len cap ∧ w.grownBy w' (some g) := by
  have H := hide (l01Below_any g B a len cap 4 (by omega) (by omega) w hl hB hs hin hc)
  have HI := hide hin
  clear hc hin
  go_enter Tryd.func15, Tryd.ntmps15
  go_wp2_with fail
  refine (unhide H).mono ?_
  rintro e w1 ⟨x, hx, rfl, hc1, hg1⟩
  have C1 := hide hc1
  have G1 := hide hg1
  have I1 := hide ((unhide HI).grown hg1 hB hs)
  have S1 := hide (Nat.le_trans hs hg1.size)
  clear hc1 hg1
  by_cases h0 : x = 0
  · subst h0
    go_wp2_with fail
    refine (l01PickInt_any g B a len cap w1.heap.size 10 (by omega) (by omega) (w1.alloc (.cells #[.int .i64 (-1), .int .i64 0, .int .i64 127, .int .i64 128, .int .i64 16383, .int .i64 16384, .int .i64 1000000000, .int .i64 1000000001, .int .i64 9223372036854775807, .int .i64 (-9223372036854775808)] 3)) hl hB (Nat.le_trans (unhide S1) (by simp)) ((unhide I1).grown (World.grownBy_alloc w1 _ (some g)) hB (unhide S1)) ((unhide C1).grown (World.grownBy_alloc w1 _ none) (by simp)) (by have := (unhide C1).lt; omega) (by simp) (intRow_lit w1 [-1, 0, 127, 128, 16383, 16384, 1000000000, 1000000001, 9223372036854775807, -9223372036854775808] 3 (by simp))).mono ?_
    rintro e w2 ⟨z, hz, rfl, hc2, hg2⟩
    have C2 := hide hc2
    have G2 := hide (grown_trans (grown_trans (unhide G1) (World.grownBy_alloc w1 _ (some g))) hg2)
    clear hc2 hg2
    go_wp2
    go_ret
    exact ⟨z, hz, rfl, unhide C2, unhide G2⟩
  · have hx0 : ((x : Int) == 0) = false := by rw [beq_eq_false_iff_ne]; omega
    by_cases h1 : x = 1
    · subst h1
      go_wp2_with fail
      refine (l01Below_any g B a len cap 1000000000 (by omega) (by omega) w1 hl hB (unhide S1) (unhide I1) (unhide C1)).mono ?_
      rintro e w2 ⟨y, hy, rfl, hc2, hg2⟩
      have C2 := hide hc2
      have G2 := hide (grown_trans (unhide G1) hg2)
      clear hc2 hg2
      go_wp2
      go_ret
      exact ⟨y, by omega, rfl, unhide C2, unhide G2⟩
    · have hx1 : ((x : Int) == 1) = false := by rw [beq_eq_false_iff_ne]; omega
      go_wp2_with fail
      refine (l01Below_any g B a len cap 400 (by omega) (by omega) w1 hl hB (unhide S1) (unhide I1) (unhide C1)).mono ?_
      rintro e w2 ⟨y, hy, rfl, hc2, hg2⟩
      have C2 := hide hc2
      have G2 := hide (grown_trans (unhide G1) hg2)
      clear hc2 hg2
      go_wp2
      go_ret
      exact ⟨y, by omega, rfl, unhide C2, unhide G2⟩

theorem set_same {w : World} {base n j x : Nat} {v : Value} {row : List UInt8} (h : x < 256) (ho : w.ownsRow base 5 1 v n ((row.map Bv).set j (.int .u8 (x : Int)))) : w.ownsRow base 5 1 v n ((row.set j (UInt8.ofNat x)).map Bv) := by
  have e : (row.set j (UInt8.ofNat x)).map Bv = (row.map Bv).set j (.int .u8 (x : Int)) := by
    rw [List.map_set]; congr 1; unfold Bv; rw [ofNat_toNat _ h]
  rw [e]; exact ho

set_option maxHeartbeats 1000000 in
theorem l01Long_any (n x : Nat) (hn : n ≤ 1000000) (hx : x < 256) (w : World) :
    Calls Tryd.prog 19 #[.int .i64 (n : Int), .int .u8 (x : Int)] w fun e w' => ∃ l : List UInt8, l.length = n ∧ e = .returned (.string ⟨l.toArray⟩) ∧ Below w.heap.size w w' := by
  obtain ⟨i0, hi, hz0, hz1, hz2⟩ := info_parts Tryd.info5
  go_enter Tryd.func19, Tryd.ntmps19
  go_wp2_with (at_make; go_must (refine wpList_make_full w rfl _ _ 22 rfl w.heap.size 5 i0 (.int .u8 0) 1 Tryd.underlying22 hi hz0 hz1 .i64 .i64 _ _ n (by rfl) (by rfl) (by omega) (by omega) (by rw [hz2]; omega) (by unfold maxLen; omega) (Nat.le_refl _) ?_); intro w1 hown1 hg1)
  go_loopw [6] (fun i wr => ∃ (k : Nat) (l : List UInt8), k ≤ n ∧ i = .int .i64 k ∧ l.length = n ∧ wr.ownsRow w.heap.size 5 1 (.slice (some ⟨w.heap.size, 0, none⟩) n n) n (l.map Bv) ∧ Below w.heap.size w wr) (fun i _ => n - (intOf i).toNat)
  case atStart => exact ⟨0, List.replicate n 0, by omega, rfl, by simp, made_zero hown1, (Below.refl _ _).grown hg1 (Nat.le_refl _) (by simp)⟩
  case round =>
    obtain ⟨k, l, hk, rfl, hlk, hown, hnx⟩ := hrel
    have LK := hide hlk
    clear hlk hown1 hg1
    by_cases hlt : k < n
    · have hki : (k : Int) < (n : Int) := by omega
      have hk0 : (0 : Int) ≤ (k : Int) := by omega
      have hfr := hown.frozenAt k
      have hcell : wr.cell? ⟨w.heap.size, k, none⟩ = some (Bv (l[k]'(by have := unhide LK; omega))) := by
        rw [hown.cellAt k (by omega), List.getElem?_map, List.getElem?_eq_getElem (by have := unhide LK; omega)]; rfl
      have hst := (hown.stored k (.int .u8 (x : Int))).1
      have hbl := hnx.setCell (p := ⟨w.heap.size, k, none⟩) (Nat.le_refl _) (.int .u8 (x : Int))
      have HST := hide hst
      clear hst hown
      go_wp2
      go_roundw
      case rel => exact ⟨k + 1, l.set k (UInt8.ofNat x), by omega, by go_num, by rw [List.length_set]; exact unhide LK, set_same hx (unhide HST), hbl⟩
      case measure => simp [intOf]; omega
    · have hki : ¬ (k : Int) < (n : Int) := by omega
      have hcv := run_string_owned Tryd.underlying22 Tryd.underlying5 Tryd.underlying9 hown
      clear hown
      go_wp2
      go_ret
      exact ⟨l, unhide LK, rfl, hnx⟩

theorem drawVarText_any (a : Option Addr) (len cap : Nat) (w : World) (hl : len ≤ 1048576) (hin : InB w.heap.size w a len) :
    Calls Tryd.prog 5 #[.slice a len cap] w fun e w' => ∃ z : Int, (-9223372036854775808 ≤ z ∧ z ≤ 9223372036854775807) ∧ e = .returned (.int .i64 z) ∧ Below w.heap.size w w' := by
  have HI := hide hin
  clear hin
  go_enter Tryd.func5, Tryd.ntmps5
  go_wp2_with fail
  refine (l01New_any a len cap _ hl (unhide HI)).mono ?_
  rintro e w1 ⟨g, hgB, rfl, hc1, hb1⟩
  have C1 := hide hc1
  have B1 := hide hb1
  clear hc1 hb1
  go_wp2_with fail
  refine (l01Number_any g w.heap.size a len cap w1 hl hgB (unhide B1).size ((unhide HI).below (unhide B1)) (unhide C1)).mono ?_
  rintro e w2 ⟨z, hz, rfl, _, hg2⟩
  have B2 := hide ((unhide B1).grown hg2 (unhide B1).size (fun k hk => by cases hk; exact hgB))
  clear hg2
  go_wp2
  go_ret
  exact ⟨z, hz, rfl, unhide B2⟩

set_option maxHeartbeats 1000000 in
theorem drawHex_any (a : Option Addr) (len cap : Nat) (w : World) (hl : len ≤ 1048576) (hin : InB w.heap.size w a len) :
    Calls Tryd.prog 10 #[.slice a len cap] w fun e w' => ∃ l : List UInt8, (l.length ≤ 300 ∨ (300 < l.length ∧ l.length ≤ 20001)) ∧ e = .returned (.string ⟨l.toArray⟩) ∧ Below w.heap.size w w' := by
  have HI := hide hin
  clear hin
  go_enter Tryd.func10, Tryd.ntmps10
  go_wp2_with fail
  refine (l01New_any a len cap _ hl (unhide HI)).mono ?_
  rintro e w1 ⟨g, hgB, rfl, hc1, hb1⟩
  have C1 := hide hc1
  have B1 := hide hb1
  clear hc1 hb1
  go_wp2_with fail
  refine (l01Once_any g w.heap.size a len cap 60 (by omega) (by omega) w1 hl hgB (unhide B1).size ((unhide HI).below (unhide B1)) (unhide C1)).mono ?_
  rintro e w2 ⟨b, rfl, hc2, hg2⟩
  have B2 := hide ((unhide B1).grown hg2 (unhide B1).size (fun k hk => by cases hk; exact hgB))
  have C2 := hide hc2
  clear hc2 hg2
  cases b
  · go_wp2_with fail
    refine (l01Below_any g w.heap.size a len cap 30 (by omega) (by omega) w2 hl hgB (unhide B2).size ((unhide HI).below (unhide B2)) (unhide C2)).mono ?_
    rintro e w3 ⟨x, hx, rfl, hc3, hg3⟩
    have B3 := hide ((unhide B2).grown hg3 (unhide B2).size (fun k hk => by cases hk; exact hgB))
    have C3 := hide hc3
    clear hc3 hg3
    go_wp2_with fail
    refine (l01Text_any g w.heap.size a len cap x (by omega) w3 hl hgB (unhide B3).size ((unhide HI).below (unhide B3)) (unhide C3)).mono ?_
    rintro e w4 ⟨l, hll, rfl, _, hg4⟩
    have B4 := hide ((unhide B3).grown hg4 (unhide B3).size (fun k hk => by cases hk; exact hgB))
    have LL := hide hll
    clear hg4 hll
    go_wp2
    go_ret
    exact ⟨l, .inl (by have := unhide LL; omega), rfl, unhide B4⟩
  · go_wp2_with fail
    refine (l01Below_any g w.heap.size a len cap 2 (by omega) (by omega) w2 hl hgB (unhide B2).size ((unhide HI).below (unhide B2)) (unhide C2)).mono ?_
    rintro e w3 ⟨x, hx, rfl, hc3, hg3⟩
    have B3 := hide ((unhide B2).grown hg3 (unhide B2).size (fun k hk => by cases hk; exact hgB))
    clear hc3 hg3
    have HL := l01Long_any (20000 + x) 200 (by omega) (by omega)
    rw [show ((20000 + x : Nat) : Int) = 20000 + (x : Int) by omega] at HL
    have HL := hide HL
    go_wp2_with fail
    refine (unhide HL _).mono ?_
    rintro e w4 ⟨l, hll, rfl, hb4⟩
    have B4 := hide ((unhide B3).trans (hb4.mono (unhide B3).size))
    have LL := hide hll
    clear hb4 hll
    go_wp2
    go_ret
    exact ⟨l, .inr (by have := unhide LL; omega), rfl, unhide B4⟩
end Go.Proofs.YtfkgfnjbdlkccaaDoor
