/-
  The program's five ways to blend one part, by method expressions in a table. (By blendi.py.)
-/
import Derived.Test.YthelfgippiimiabBlendI
import Derived.Test.YthelfgippiimiabModeI
import Derived.Lib.MinMax
namespace Go.Proofs.Ythelfgippiimiab
open Go.RowKit
set_option linter.unusedVariables false

set_option maxHeartbeats 4000000 in
set_option maxRecDepth 100000 in
theorem implMeet_out (s d sa da : Int) (hs : 0 ≤ s ∧ s ≤ 255) (hd : 0 ≤ d ∧ d ≤ 255) (hsa : 0 ≤ sa ∧ sa ≤ 255) (hda : 0 ≤ da ∧ da ≤ 255) (w : World) :
    Calls Try.prog 87 #[.agg #[.int .i64 s, .int .i64 sa, .int .i64 d, .int .i64 da]] w fun e w' => e = .returned (.int .i64 (outI 5 s d sa da)) ∧ Below w.heap.size w w' := by
  have hO : Hid (outI 5 s d sa da = t255I d (255 - sa)) := rfl
  have E := hide (implTimes255_any d (255 - sa))
  have v0 : IntKind.i64.wrap (255 - sa) = 255 - sa := IntWalk.i64_in _ (by omega)
  rw [unhide hO]
  generalize t255I d (255 - sa) = V at E ⊢
  clear hs hd hsa hda hO
  go_enter Try.func87, Try.ntmps87
  go_upto_region 1 with fail
  have R1 := hide (new_row w (.cells #[.int .i64 s, .int .i64 sa, .int .i64 d, .int .i64 da] 94))
  have HB := hide (al1_below w (.cells #[.int .i64 s, .int .i64 sa, .int .i64 d, .int .i64 da] 94))
  obtain ⟨b1, hb1⟩ : ∃ b, Hid (b = w.heap.size) := ⟨_, rfl⟩
  rw [← unhide hb1] at R1
  rw [← unhide hb1]
  generalize w.alloc (.cells #[.int .i64 s, .int .i64 sa, .int .i64 d, .int .i64 da] 94) = W at R1 HB ⊢
  clear hb1
  obtain ⟨q0, q1, q2, q3⟩ := row4 (unhide R1)
  go_wp2_with fail
  go_fit (unhide E _)
  rintro e w1 ⟨rfl, hb⟩
  go_wp2_with fail
  go_ret
  exact ⟨rfl, below_two (unhide HB) hb⟩

set_option maxHeartbeats 4000000 in
set_option maxRecDepth 100000 in
theorem implMeet_plus (s d sa da : Int) (hs : 0 ≤ s ∧ s ≤ 255) (hd : 0 ≤ d ∧ d ≤ 255) (hsa : 0 ≤ sa ∧ sa ≤ 255) (hda : 0 ≤ da ∧ da ≤ 255) (w : World) :
    Calls Try.prog 86 #[.agg #[.int .i64 s, .int .i64 sa, .int .i64 d, .int .i64 da]] w fun e w' => e = .returned (.int .i64 (outI 4 s d sa da)) ∧ Below w.heap.size w w' := by
  have hO : Hid (outI 4 s d sa da = s + d) := rfl
  have v0 : IntKind.i64.wrap (s + d) = s + d := IntWalk.i64_in _ (by omega)
  rw [unhide hO]
  clear hs hd hsa hda hO
  go_enter Try.func86, Try.ntmps86
  go_upto_region 1 with fail
  have R1 := hide (new_row w (.cells #[.int .i64 s, .int .i64 sa, .int .i64 d, .int .i64 da] 94))
  have HB := hide (al1_below w (.cells #[.int .i64 s, .int .i64 sa, .int .i64 d, .int .i64 da] 94))
  obtain ⟨b1, hb1⟩ : ∃ b, Hid (b = w.heap.size) := ⟨_, rfl⟩
  rw [← unhide hb1] at R1
  rw [← unhide hb1]
  generalize w.alloc (.cells #[.int .i64 s, .int .i64 sa, .int .i64 d, .int .i64 da] 94) = W at R1 HB ⊢
  clear hb1
  obtain ⟨q0, q1, q2, q3⟩ := row4 (unhide R1)
  go_wp2_with fail
  go_ret
  exact ⟨rfl, unhide HB⟩

set_option maxHeartbeats 4000000 in
set_option maxRecDepth 100000 in
theorem implMeet_over (s d sa da : Int) (hs : 0 ≤ s ∧ s ≤ 255) (hd : 0 ≤ d ∧ d ≤ 255) (hsa : 0 ≤ sa ∧ sa ≤ 255) (hda : 0 ≤ da ∧ da ≤ 255) (w : World) :
    Calls Try.prog 83 #[.agg #[.int .i64 s, .int .i64 sa, .int .i64 d, .int .i64 da]] w fun e w' => e = .returned (.int .i64 (outI 1 s d sa da)) ∧ Below w.heap.size w w' := by
  have hO : Hid (outI 1 s d sa da = s + t255I d (255 - sa)) := rfl
  have E := hide (implMeet_out s d sa da hs hd hsa hda)
  have hb5 : 0 ≤ t255I d (255 - sa) ∧ t255I d (255 - sa) ≤ 255 := by
    have h1 := t255_mono (a := d) (c := d) (b := 255 - sa) hd.1 (Int.le_refl _) hd.2 (by omega)
    have h2 := t255_le (a := d) (b := 255 - sa) hd (by omega)
    omega
  rw [show outI 5 s d sa da = t255I d (255 - sa) from rfl] at E
  rw [unhide hO]
  generalize t255I d (255 - sa) = V at E hb5 ⊢
  have v0 : IntKind.i64.wrap (s + V) = s + V := IntWalk.i64_in _ (by omega)
  clear hs hd hsa hda hO hb5
  go_enter Try.func83, Try.ntmps83
  go_upto_region 1 with fail
  have R1 := hide (new_row w (.cells #[.int .i64 s, .int .i64 sa, .int .i64 d, .int .i64 da] 94))
  have HB := hide (al1_below w (.cells #[.int .i64 s, .int .i64 sa, .int .i64 d, .int .i64 da] 94))
  obtain ⟨b1, hb1⟩ : ∃ b, Hid (b = w.heap.size) := ⟨_, rfl⟩
  rw [← unhide hb1] at R1
  rw [← unhide hb1]
  generalize w.alloc (.cells #[.int .i64 s, .int .i64 sa, .int .i64 d, .int .i64 da] 94) = W at R1 HB ⊢
  clear hb1
  obtain ⟨q0, q1, q2, q3⟩ := row4 (unhide R1)
  have HN := hide ((Below.refl W.heap.size W).drew)
  have k0 := hide (show ∀ u, Below W.heap.size W u → (u.cell? ⟨b1, 0, none⟩ = some (.int .i64 s) ∧ u.cell? ⟨b1, 1, none⟩ = some (.int .i64 sa) ∧ u.cell? ⟨b1, 2, none⟩ = some (.int .i64 d) ∧ u.cell? ⟨b1, 3, none⟩ = some (.int .i64 da) ∧ Below W.heap.size W u) from fun u h => by
    obtain ⟨c0, c1, c2, c3⟩ := row4 (row_next h (unhide R1))
    exact ⟨c0, c1, c2, c3, h⟩)
  have k00 := hide (unhide k0 _ (unhide HN))
  clear q0 q1 q2 q3
  go_region_held3 (fun u => u.cell? ⟨b1, 0, none⟩ = some (.int .i64 s) ∧ u.cell? ⟨b1, 1, none⟩ = some (.int .i64 sa) ∧ u.cell? ⟨b1, 2, none⟩ = some (.int .i64 d) ∧ u.cell? ⟨b1, 3, none⟩ = some (.int .i64 da) ∧ Below W.heap.size W u) (first | with_reducible exact unhide k00 | with_reducible exact unhide k0 _ (by assumption)) (first | (go_at_call 87; go_fit (unhide E _); rintro e w4 ⟨rfl, hb4⟩; have h4 := below_undrew hb4; clear hb4))
  all_goals
    go_wp2_with fail
    go_ret
    exact ⟨rfl, below_two (unhide HB) h4⟩

set_option maxHeartbeats 4000000 in
set_option maxRecDepth 100000 in
theorem implMeet_multiply (s d sa da : Int) (hs : 0 ≤ s ∧ s ≤ 255) (hd : 0 ≤ d ∧ d ≤ 255) (hsa : 0 ≤ sa ∧ sa ≤ 255) (hda : 0 ≤ da ∧ da ≤ 255) (w : World) :
    Calls Try.prog 84 #[.agg #[.int .i64 s, .int .i64 sa, .int .i64 d, .int .i64 da]] w fun e w' => e = .returned (.int .i64 (outI 2 s d sa da)) ∧ Below w.heap.size w w' := by
  have m1 := prod255 hs hd
  have m2 := prod255 (x := s) (y := 255 - da) hs (by omega)
  have m3 := prod255 (x := d) (y := 255 - sa) hd (by omega)
  have hO : Hid (outI 2 s d sa da = rdivI (s * d + (s * (255 - da) + d * (255 - sa))) 255) := by unfold Hid; rw [← Int.add_assoc]; rfl
  have w1' : IntKind.i64.wrap (255 - da) = 255 - da := IntWalk.i64_in _ (by omega)
  have w2' : IntKind.i64.wrap (255 - sa) = 255 - sa := IntWalk.i64_in _ (by omega)
  have w3' : IntKind.i64.wrap (s * d) = s * d := IntWalk.i64_in _ (by omega)
  have w4' : IntKind.i64.wrap (s * (255 - da)) = s * (255 - da) := IntWalk.i64_in _ (by omega)
  have w5' : IntKind.i64.wrap (d * (255 - sa)) = d * (255 - sa) := IntWalk.i64_in _ (by omega)
  have w6' : IntKind.i64.wrap (s * (255 - da) + d * (255 - sa)) = s * (255 - da) + d * (255 - sa) := IntWalk.i64_in _ (by omega)
  have w7' : IntKind.i64.wrap (s * d + (s * (255 - da) + d * (255 - sa))) = s * d + (s * (255 - da) + d * (255 - sa)) := IntWalk.i64_in _ (by omega)
  have E := hide (implRoundDiv_any (s * d + (s * (255 - da) + d * (255 - sa))) 255 (by omega) (by omega) (by omega))
  rw [unhide hO]
  generalize rdivI (s * d + (s * (255 - da) + d * (255 - sa))) 255 = V at E ⊢
  clear hs hd hsa hda hO m1 m2 m3
  go_enter Try.func84, Try.ntmps84
  go_upto_region 1 with fail
  have R1 := hide (new_row w (.cells #[.int .i64 s, .int .i64 sa, .int .i64 d, .int .i64 da] 94))
  have HB := hide (al1_below w (.cells #[.int .i64 s, .int .i64 sa, .int .i64 d, .int .i64 da] 94))
  obtain ⟨b1, hb1⟩ : ∃ b, Hid (b = w.heap.size) := ⟨_, rfl⟩
  rw [← unhide hb1] at R1
  rw [← unhide hb1]
  generalize w.alloc (.cells #[.int .i64 s, .int .i64 sa, .int .i64 d, .int .i64 da] 94) = W at R1 HB ⊢
  clear hb1
  obtain ⟨q0, q1, q2, q3⟩ := row4 (unhide R1)
  go_wp2_with fail
  go_fit (unhide E _)
  rintro e w1 ⟨rfl, hb⟩
  go_wp2_with fail
  go_ret
  exact ⟨rfl, below_two (unhide HB) hb⟩

set_option maxHeartbeats 4000000 in
set_option maxRecDepth 100000 in
theorem implMeet_screen (s d sa da : Int) (hs : 0 ≤ s ∧ s ≤ 255) (hd : 0 ≤ d ∧ d ≤ 255) (hsa : 0 ≤ sa ∧ sa ≤ 255) (hda : 0 ≤ da ∧ da ≤ 255) (w : World) :
    Calls Try.prog 85 #[.agg #[.int .i64 s, .int .i64 sa, .int .i64 d, .int .i64 da]] w fun e w' => e = .returned (.int .i64 (outI 3 s d sa da)) ∧ Below w.heap.size w w' := by
  have hO : Hid (outI 3 s d sa da = s + d - t255I s d) := by unfold Hid; rw [t255_is hs hd]; rfl
  have E := hide (implTimes255_any s d)
  have hb5 : 0 ≤ t255I s d ∧ t255I s d ≤ 255 := by
    have h1 := t255_mono (a := s) (c := s) (b := d) hs.1 (Int.le_refl _) hs.2 hd
    have h2 := t255_le (a := s) (b := d) hs hd
    omega
  rw [unhide hO]
  generalize t255I s d = V at E hb5 ⊢
  have v0 : IntKind.i64.wrap (s + d) = s + d := IntWalk.i64_in _ (by omega)
  have v1 : IntKind.i64.wrap (s + d - V) = s + d - V := IntWalk.i64_in _ (by omega)
  clear hs hd hsa hda hO hb5
  go_enter Try.func85, Try.ntmps85
  go_upto_region 1 with fail
  have R1 := hide (new_row w (.cells #[.int .i64 s, .int .i64 sa, .int .i64 d, .int .i64 da] 94))
  have HB := hide (al1_below w (.cells #[.int .i64 s, .int .i64 sa, .int .i64 d, .int .i64 da] 94))
  obtain ⟨b1, hb1⟩ : ∃ b, Hid (b = w.heap.size) := ⟨_, rfl⟩
  rw [← unhide hb1] at R1
  rw [← unhide hb1]
  generalize w.alloc (.cells #[.int .i64 s, .int .i64 sa, .int .i64 d, .int .i64 da] 94) = W at R1 HB ⊢
  clear hb1
  obtain ⟨q0, q1, q2, q3⟩ := row4 (unhide R1)
  have HN := hide ((Below.refl W.heap.size W).drew)
  have k0 := hide (show ∀ u, Below W.heap.size W u → (u.cell? ⟨b1, 0, none⟩ = some (.int .i64 s) ∧ u.cell? ⟨b1, 1, none⟩ = some (.int .i64 sa) ∧ u.cell? ⟨b1, 2, none⟩ = some (.int .i64 d) ∧ u.cell? ⟨b1, 3, none⟩ = some (.int .i64 da) ∧ Below W.heap.size W u) from fun u h => by
    obtain ⟨c0, c1, c2, c3⟩ := row4 (row_next h (unhide R1))
    exact ⟨c0, c1, c2, c3, h⟩)
  have k00 := hide (unhide k0 _ (unhide HN))
  clear q0 q1 q2 q3
  go_region_held3 (fun u => u.cell? ⟨b1, 0, none⟩ = some (.int .i64 s) ∧ u.cell? ⟨b1, 1, none⟩ = some (.int .i64 sa) ∧ u.cell? ⟨b1, 2, none⟩ = some (.int .i64 d) ∧ u.cell? ⟨b1, 3, none⟩ = some (.int .i64 da) ∧ Below W.heap.size W u) (first | with_reducible exact unhide k00 | with_reducible exact unhide k0 _ (by assumption)) (first | (go_at_call 94; go_fit (unhide E _); rintro e w4 ⟨rfl, hb4⟩; have h4 := below_undrew hb4; clear hb4))
  all_goals
    go_wp2_with fail
    go_ret
    exact ⟨rfl, below_two (unhide HB) h4⟩

set_option maxHeartbeats 8000000 in
set_option maxRecDepth 100000 in
theorem implEachPart_blend (p ps pd : Nat) (r g b a r2 g2 b2' a2 m0 m1 m2 m3 : Int) (J : World → Prop) (jn : ∀ u u', J u → Below u.heap.size u u' → J u')
    (K0 : ∀ u, J u → Calls Try.prog 55 #[.int .i64 r, .int .i64 r2, .pointer (some ⟨p, 0, none⟩), .pointer (some ⟨ps, 0, none⟩), .pointer (some ⟨pd, 0, none⟩)] u fun e u' => e = .returned (.int .i64 m0) ∧ Below u.heap.size u u')
    (K1 : ∀ u, J u → Calls Try.prog 55 #[.int .i64 g, .int .i64 g2, .pointer (some ⟨p, 0, none⟩), .pointer (some ⟨ps, 0, none⟩), .pointer (some ⟨pd, 0, none⟩)] u fun e u' => e = .returned (.int .i64 m1) ∧ Below u.heap.size u u')
    (K2 : ∀ u, J u → Calls Try.prog 55 #[.int .i64 b, .int .i64 b2', .pointer (some ⟨p, 0, none⟩), .pointer (some ⟨ps, 0, none⟩), .pointer (some ⟨pd, 0, none⟩)] u fun e u' => e = .returned (.int .i64 m2) ∧ Below u.heap.size u u')
    (K3 : ∀ u, J u → Calls Try.prog 55 #[.int .i64 a, .int .i64 a2, .pointer (some ⟨p, 0, none⟩), .pointer (some ⟨ps, 0, none⟩), .pointer (some ⟨pd, 0, none⟩)] u fun e u' => e = .returned (.int .i64 m3) ∧ Below u.heap.size u u')
    (w : World) (h : J w) :
    Calls Try.prog 54 #[.agg #[.int .i64 r, .int .i64 g, .int .i64 b, .int .i64 a], .agg #[.int .i64 r2, .int .i64 g2, .int .i64 b2', .int .i64 a2], .func (.func 55) #[] #[.pointer (some ⟨p, 0, none⟩), .pointer (some ⟨ps, 0, none⟩), .pointer (some ⟨pd, 0, none⟩)]] w fun e w' => e = .returned (.agg #[.int .i64 m0, .int .i64 m1, .int .i64 m2, .int .i64 m3]) ∧ Below w.heap.size w w' := by
  replace K0 := hide K0
  replace K1 := hide K1
  replace K2 := hide K2
  replace K3 := hide K3
  go_enter Try.func54, Try.ntmps54
  go_upto_region 1 with fail
  have R1 := hide (al3_0 w (.cells #[.int .i64 r, .int .i64 g, .int .i64 b, .int .i64 a] 37) (.cells #[.int .i64 r2, .int .i64 g2, .int .i64 b2', .int .i64 a2] 37) (.cells #[.int .i64 0, .int .i64 0, .int .i64 0, .int .i64 0] 37))
  have R2 := hide (al3_1 w (.cells #[.int .i64 r, .int .i64 g, .int .i64 b, .int .i64 a] 37) (.cells #[.int .i64 r2, .int .i64 g2, .int .i64 b2', .int .i64 a2] 37) (.cells #[.int .i64 0, .int .i64 0, .int .i64 0, .int .i64 0] 37))
  have R3 := hide (al3_2 w (.cells #[.int .i64 r, .int .i64 g, .int .i64 b, .int .i64 a] 37) (.cells #[.int .i64 r2, .int .i64 g2, .int .i64 b2', .int .i64 a2] 37) (.cells #[.int .i64 0, .int .i64 0, .int .i64 0, .int .i64 0] 37))
  have HB := hide (al3_below w (.cells #[.int .i64 r, .int .i64 g, .int .i64 b, .int .i64 a] 37) (.cells #[.int .i64 r2, .int .i64 g2, .int .i64 b2', .int .i64 a2] 37) (.cells #[.int .i64 0, .int .i64 0, .int .i64 0, .int .i64 0] 37))
  have cq := jn _ _ h (unhide HB)
  obtain ⟨b3, hb3⟩ : ∃ b, Hid (b = w.heap.size + 1 + 1) := ⟨_, rfl⟩
  obtain ⟨b2, hb2⟩ : ∃ b, Hid (b = w.heap.size + 1) := ⟨_, rfl⟩
  obtain ⟨b1, hb1⟩ : ∃ b, Hid (b = w.heap.size) := ⟨_, rfl⟩
  have lz : Hid (w.heap.size ≤ b3 ∧ b1 < b3 ∧ b2 < b3) := by unfold Hid; rw [unhide hb3, unhide hb2, unhide hb1]; omega
  rw [← unhide hb3] at R3
  rw [← unhide hb2] at R2
  rw [← unhide hb1] at R1
  rw [← unhide hb3, ← unhide hb2, ← unhide hb1]
  generalize ((w.alloc (.cells #[.int .i64 r, .int .i64 g, .int .i64 b, .int .i64 a] 37)).alloc (.cells #[.int .i64 r2, .int .i64 g2, .int .i64 b2', .int .i64 a2] 37)).alloc (.cells #[.int .i64 0, .int .i64 0, .int .i64 0, .int .i64 0] 37) = W at R1 R2 R3 HB cq ⊢
  clear hb3 hb2 hb1 h
  have ne1 : ¬ b3 = b1 := by have := unhide lz; omega
  have ne2 : ¬ b1 = b3 := by have := unhide lz; omega
  have ne3 : ¬ b3 = b2 := by have := unhide lz; omega
  have ne4 : ¬ b2 = b3 := by have := unhide lz; omega
  have l6 := hide (show b3 ≤ W.heap.size from Nat.le_of_lt (heap_lt (unhide R3)))
  have cq0 := hide (jn _ _ cq (Below.refl W.heap.size W).drew)
  replace cq := hide cq
  have k0 := hide (show ∀ u, Below b3 W u → (u.cell? ⟨b1, 0, none⟩ = some (.int .i64 r) ∧ u.cell? ⟨b1, 1, none⟩ = some (.int .i64 g) ∧ u.cell? ⟨b1, 2, none⟩ = some (.int .i64 b) ∧ u.cell? ⟨b1, 3, none⟩ = some (.int .i64 a) ∧ u.cell? ⟨b2, 0, none⟩ = some (.int .i64 r2) ∧ u.cell? ⟨b2, 1, none⟩ = some (.int .i64 g2) ∧ u.cell? ⟨b2, 2, none⟩ = some (.int .i64 b2') ∧ u.cell? ⟨b2, 3, none⟩ = some (.int .i64 a2) ∧ Below b3 W u) from fun u h => by
    obtain ⟨c0, c1, c2, c3⟩ := row4 ((h.block b1 (unhide lz).2.1).trans (unhide R1))
    obtain ⟨d0, d1, d2, d3⟩ := row4 ((h.block b2 (unhide lz).2.2).trans (unhide R2))
    exact ⟨c0, c1, c2, c3, d0, d1, d2, d3, h⟩)
  have k1 := hide (show ∀ u, Below W.heap.size W u → (u.cell? ⟨b3, 0, none⟩ = some (.int .i64 0) ∧ u.cell? ⟨b3, 1, none⟩ = some (.int .i64 0) ∧ u.cell? ⟨b3, 2, none⟩ = some (.int .i64 0) ∧ u.cell? ⟨b3, 3, none⟩ = some (.int .i64 0) ∧ u.frozen? ⟨b3, 0, none⟩ = false ∧ u.frozen? ⟨b3, 1, none⟩ = false ∧ u.frozen? ⟨b3, 2, none⟩ = false ∧ u.frozen? ⟨b3, 3, none⟩ = false) from fun u h => by
    obtain ⟨e0, e1, e2, e3⟩ := row4 (row_next h (unhide R3))
    obtain ⟨f0, f1, f2, f3⟩ := free4 (row_next h (unhide R3))
    exact ⟨e0, e1, e2, e3, f0, f1, f2, f3⟩)
  have k00 := hide (unhide k0 _ (Below.refl _ _).drew)
  replace jn := hide jn
  go_region_held3 (fun u => u.cell? ⟨b1, 0, none⟩ = some (.int .i64 r) ∧ u.cell? ⟨b1, 1, none⟩ = some (.int .i64 g) ∧ u.cell? ⟨b1, 2, none⟩ = some (.int .i64 b) ∧ u.cell? ⟨b1, 3, none⟩ = some (.int .i64 a) ∧ u.cell? ⟨b2, 0, none⟩ = some (.int .i64 r2) ∧ u.cell? ⟨b2, 1, none⟩ = some (.int .i64 g2) ∧ u.cell? ⟨b2, 2, none⟩ = some (.int .i64 b2') ∧ u.cell? ⟨b2, 3, none⟩ = some (.int .i64 a2) ∧ Below b3 W u) ((first | with_reducible exact unhide k00 | (with_reducible refine unhide k0 _ ?_; first | with_reducible exact Below.mono (by assumption) (unhide l6) | (with_reducible refine below_put4 ?_ (Nat.le_refl _) _ _ _ _; with_reducible exact Below.mono (by assumption) (unhide l6))))) (first | (go_at_call 55; go_fit (unhide K0 _ (unhide cq0)); rintro e w4 ⟨rfl, hb1⟩; have h1 := below_undrew hb1; have cq1 := hide (unhide jn _ _ (unhide cq) h1); clear hb1) | (go_at_call 55; go_fit (unhide K1 _ (unhide cq1)); rintro e w5 ⟨rfl, hb2⟩; have h2 := below_two h1 hb2; clear h1 cq1; have cq2 := hide (unhide jn _ _ (unhide cq) h2); clear hb2) | (go_at_call 55; go_fit (unhide K2 _ (unhide cq2)); rintro e w6 ⟨rfl, hb3⟩; have h3 := below_two h2 hb3; clear h2 cq2; have cq3 := hide (unhide jn _ _ (unhide cq) h3); clear hb3) | (go_at_call 55; go_fit (unhide K3 _ (unhide cq3)); rintro e w7 ⟨rfl, hb4⟩; have h4 := below_two h3 hb4; clear h3 cq3; clear hb4; obtain ⟨e0, e1, e2, e3, f0, f1, f2, f3⟩ := unhide k1 _ h4))
  all_goals
    go_wp2_with fail
    refine bodyPost_ret (v := .agg #[.int .i64 m0, .int .i64 m1, .int .i64 m2, .int .i64 m3]) (by simp [results, Try.results54, go_sem, e0, e1, e2, e3]) rfl ⟨rfl, ?_⟩
    exact below_put4 (below_two (unhide HB) h4) (unhide lz).1 _ _ _ _

structure MixAt (w : World) (p ps pd : Nat) (f : Value) (r g b a r2 g2 b2' a2 : Int) : Prop where
  f : w.cell? ⟨p, 0, none⟩ = some f
  s : w.heap[ps]? = some (.cells #[.int .i64 r, .int .i64 g, .int .i64 b, .int .i64 a] 37 (0, 0))
  d : w.heap[pd]? = some (.cells #[.int .i64 r2, .int .i64 g2, .int .i64 b2', .int .i64 a2] 37 (0, 0))
theorem MixAt.next {w w1 : World} {p ps pd : Nat} {f : Value} {r g b a r2 g2 b2' a2 : Int} (h : MixAt w p ps pd f r g b a r2 g2 b2' a2) (hb : Below w.heap.size w w1) : MixAt w1 p ps pd f r g b a r2 g2 b2' a2 :=
  ⟨kc hb h.f, row_next hb h.s, row_next hb h.d⟩
theorem min_cap (x : Int) : min x 255 = capI x := by unfold capI; rw [Int.min_def]; split <;> split <;> omega

set_option maxHeartbeats 4000000 in
set_option maxRecDepth 100000 in
theorem implMix_over (p ps pd : Nat) (x y r g b a r2 g2 b2' a2 : Int) (hs : 0 ≤ x ∧ x ≤ 255) (hd : 0 ≤ y ∧ y ≤ 255) (hsa : 0 ≤ a ∧ a ≤ 255) (hda : 0 ≤ a2 ∧ a2 ≤ 255) (w : World) (h : MixAt w p ps pd (.func (.func 83) #[] #[]) r g b a r2 g2 b2' a2) :
    Calls Try.prog 55 #[.int .i64 x, .int .i64 y, .pointer (some ⟨p, 0, none⟩), .pointer (some ⟨ps, 0, none⟩), .pointer (some ⟨pd, 0, none⟩)] w fun e w' => e = .returned (.int .i64 (blendI 1 x y a a2)) ∧ Below w.heap.size w w' := by
  have E := hide (implMeet_over x y a a2 hs hd hsa hda)
  have hO : Hid (blendI 1 x y a a2 = min (outI 1 x y a a2) 255) := (min_cap _).symm
  generalize outI 1 x y a a2 = V at E hO
  rw [unhide hO]
  clear hs hd hsa hda hO
  obtain ⟨c, h1, h2⟩ := h
  obtain ⟨q0, q1, q2, q3⟩ := row4 h1
  obtain ⟨d0, d1, d2, d3⟩ := row4 h2
  clear h1 h2
  go_enter Try.func55, Try.ntmps55
  go_wp2_with fail
  go_fit (unhide E _)
  rintro e w1 ⟨rfl, hb⟩
  go_wp2_with fail
  go_ret
  exact ⟨rfl, hb⟩

theorem implBlendOf_over (w : World) :
    Calls Try.prog 53 #[.int .i64 1] w fun e w' => e = .returned (.tuple #[.func (.func 83) #[] #[], .bool true]) ∧ Below w.heap.size w w' := by
  have EM := hide (implModeOk_any 1)
  rw [show inB 1 1 5 = true from rfl] at EM
  go_enter Try.func53, Try.ntmps53
  go_wp2_with fail
  go_fit (unhide EM _)
  rintro e w1 ⟨rfl, hw⟩
  rw [hw]
  clear hw w1
  go_wp2_with fail
  exact bodyPost_ret (v := .tuple #[.func (.func 83) #[] #[], .bool true]) (by simp [results, Try.results53, go_sem]) rfl ⟨rfl, al1_below _ _⟩

set_option maxHeartbeats 4000000 in
set_option maxRecDepth 100000 in
theorem implMix_multiply (p ps pd : Nat) (x y r g b a r2 g2 b2' a2 : Int) (hs : 0 ≤ x ∧ x ≤ 255) (hd : 0 ≤ y ∧ y ≤ 255) (hsa : 0 ≤ a ∧ a ≤ 255) (hda : 0 ≤ a2 ∧ a2 ≤ 255) (w : World) (h : MixAt w p ps pd (.func (.func 84) #[] #[]) r g b a r2 g2 b2' a2) :
    Calls Try.prog 55 #[.int .i64 x, .int .i64 y, .pointer (some ⟨p, 0, none⟩), .pointer (some ⟨ps, 0, none⟩), .pointer (some ⟨pd, 0, none⟩)] w fun e w' => e = .returned (.int .i64 (blendI 2 x y a a2)) ∧ Below w.heap.size w w' := by
  have E := hide (implMeet_multiply x y a a2 hs hd hsa hda)
  have hO : Hid (blendI 2 x y a a2 = min (outI 2 x y a a2) 255) := (min_cap _).symm
  generalize outI 2 x y a a2 = V at E hO
  rw [unhide hO]
  clear hs hd hsa hda hO
  obtain ⟨c, h1, h2⟩ := h
  obtain ⟨q0, q1, q2, q3⟩ := row4 h1
  obtain ⟨d0, d1, d2, d3⟩ := row4 h2
  clear h1 h2
  go_enter Try.func55, Try.ntmps55
  go_wp2_with fail
  go_fit (unhide E _)
  rintro e w1 ⟨rfl, hb⟩
  go_wp2_with fail
  go_ret
  exact ⟨rfl, hb⟩

theorem implBlendOf_multiply (w : World) :
    Calls Try.prog 53 #[.int .i64 2] w fun e w' => e = .returned (.tuple #[.func (.func 84) #[] #[], .bool true]) ∧ Below w.heap.size w w' := by
  have EM := hide (implModeOk_any 2)
  rw [show inB 2 1 5 = true from rfl] at EM
  go_enter Try.func53, Try.ntmps53
  go_wp2_with fail
  go_fit (unhide EM _)
  rintro e w1 ⟨rfl, hw⟩
  rw [hw]
  clear hw w1
  go_wp2_with fail
  exact bodyPost_ret (v := .tuple #[.func (.func 84) #[] #[], .bool true]) (by simp [results, Try.results53, go_sem]) rfl ⟨rfl, al1_below _ _⟩

set_option maxHeartbeats 4000000 in
set_option maxRecDepth 100000 in
theorem implMix_screen (p ps pd : Nat) (x y r g b a r2 g2 b2' a2 : Int) (hs : 0 ≤ x ∧ x ≤ 255) (hd : 0 ≤ y ∧ y ≤ 255) (hsa : 0 ≤ a ∧ a ≤ 255) (hda : 0 ≤ a2 ∧ a2 ≤ 255) (w : World) (h : MixAt w p ps pd (.func (.func 85) #[] #[]) r g b a r2 g2 b2' a2) :
    Calls Try.prog 55 #[.int .i64 x, .int .i64 y, .pointer (some ⟨p, 0, none⟩), .pointer (some ⟨ps, 0, none⟩), .pointer (some ⟨pd, 0, none⟩)] w fun e w' => e = .returned (.int .i64 (blendI 3 x y a a2)) ∧ Below w.heap.size w w' := by
  have E := hide (implMeet_screen x y a a2 hs hd hsa hda)
  have hO : Hid (blendI 3 x y a a2 = min (outI 3 x y a a2) 255) := (min_cap _).symm
  generalize outI 3 x y a a2 = V at E hO
  rw [unhide hO]
  clear hs hd hsa hda hO
  obtain ⟨c, h1, h2⟩ := h
  obtain ⟨q0, q1, q2, q3⟩ := row4 h1
  obtain ⟨d0, d1, d2, d3⟩ := row4 h2
  clear h1 h2
  go_enter Try.func55, Try.ntmps55
  go_wp2_with fail
  go_fit (unhide E _)
  rintro e w1 ⟨rfl, hb⟩
  go_wp2_with fail
  go_ret
  exact ⟨rfl, hb⟩

theorem implBlendOf_screen (w : World) :
    Calls Try.prog 53 #[.int .i64 3] w fun e w' => e = .returned (.tuple #[.func (.func 85) #[] #[], .bool true]) ∧ Below w.heap.size w w' := by
  have EM := hide (implModeOk_any 3)
  rw [show inB 3 1 5 = true from rfl] at EM
  go_enter Try.func53, Try.ntmps53
  go_wp2_with fail
  go_fit (unhide EM _)
  rintro e w1 ⟨rfl, hw⟩
  rw [hw]
  clear hw w1
  go_wp2_with fail
  exact bodyPost_ret (v := .tuple #[.func (.func 85) #[] #[], .bool true]) (by simp [results, Try.results53, go_sem]) rfl ⟨rfl, al1_below _ _⟩

set_option maxHeartbeats 4000000 in
set_option maxRecDepth 100000 in
theorem implMix_plus (p ps pd : Nat) (x y r g b a r2 g2 b2' a2 : Int) (hs : 0 ≤ x ∧ x ≤ 255) (hd : 0 ≤ y ∧ y ≤ 255) (hsa : 0 ≤ a ∧ a ≤ 255) (hda : 0 ≤ a2 ∧ a2 ≤ 255) (w : World) (h : MixAt w p ps pd (.func (.func 86) #[] #[]) r g b a r2 g2 b2' a2) :
    Calls Try.prog 55 #[.int .i64 x, .int .i64 y, .pointer (some ⟨p, 0, none⟩), .pointer (some ⟨ps, 0, none⟩), .pointer (some ⟨pd, 0, none⟩)] w fun e w' => e = .returned (.int .i64 (blendI 4 x y a a2)) ∧ Below w.heap.size w w' := by
  have E := hide (implMeet_plus x y a a2 hs hd hsa hda)
  have hO : Hid (blendI 4 x y a a2 = min (outI 4 x y a a2) 255) := (min_cap _).symm
  generalize outI 4 x y a a2 = V at E hO
  rw [unhide hO]
  clear hs hd hsa hda hO
  obtain ⟨c, h1, h2⟩ := h
  obtain ⟨q0, q1, q2, q3⟩ := row4 h1
  obtain ⟨d0, d1, d2, d3⟩ := row4 h2
  clear h1 h2
  go_enter Try.func55, Try.ntmps55
  go_wp2_with fail
  go_fit (unhide E _)
  rintro e w1 ⟨rfl, hb⟩
  go_wp2_with fail
  go_ret
  exact ⟨rfl, hb⟩

theorem implBlendOf_plus (w : World) :
    Calls Try.prog 53 #[.int .i64 4] w fun e w' => e = .returned (.tuple #[.func (.func 86) #[] #[], .bool true]) ∧ Below w.heap.size w w' := by
  have EM := hide (implModeOk_any 4)
  rw [show inB 4 1 5 = true from rfl] at EM
  go_enter Try.func53, Try.ntmps53
  go_wp2_with fail
  go_fit (unhide EM _)
  rintro e w1 ⟨rfl, hw⟩
  rw [hw]
  clear hw w1
  go_wp2_with fail
  exact bodyPost_ret (v := .tuple #[.func (.func 86) #[] #[], .bool true]) (by simp [results, Try.results53, go_sem]) rfl ⟨rfl, al1_below _ _⟩

set_option maxHeartbeats 4000000 in
set_option maxRecDepth 100000 in
theorem implMix_out (p ps pd : Nat) (x y r g b a r2 g2 b2' a2 : Int) (hs : 0 ≤ x ∧ x ≤ 255) (hd : 0 ≤ y ∧ y ≤ 255) (hsa : 0 ≤ a ∧ a ≤ 255) (hda : 0 ≤ a2 ∧ a2 ≤ 255) (w : World) (h : MixAt w p ps pd (.func (.func 87) #[] #[]) r g b a r2 g2 b2' a2) :
    Calls Try.prog 55 #[.int .i64 x, .int .i64 y, .pointer (some ⟨p, 0, none⟩), .pointer (some ⟨ps, 0, none⟩), .pointer (some ⟨pd, 0, none⟩)] w fun e w' => e = .returned (.int .i64 (blendI 5 x y a a2)) ∧ Below w.heap.size w w' := by
  have E := hide (implMeet_out x y a a2 hs hd hsa hda)
  have hO : Hid (blendI 5 x y a a2 = min (outI 5 x y a a2) 255) := (min_cap _).symm
  generalize outI 5 x y a a2 = V at E hO
  rw [unhide hO]
  clear hs hd hsa hda hO
  obtain ⟨c, h1, h2⟩ := h
  obtain ⟨q0, q1, q2, q3⟩ := row4 h1
  obtain ⟨d0, d1, d2, d3⟩ := row4 h2
  clear h1 h2
  go_enter Try.func55, Try.ntmps55
  go_wp2_with fail
  go_fit (unhide E _)
  rintro e w1 ⟨rfl, hb⟩
  go_wp2_with fail
  go_ret
  exact ⟨rfl, hb⟩

theorem implBlendOf_out (w : World) :
    Calls Try.prog 53 #[.int .i64 5] w fun e w' => e = .returned (.tuple #[.func (.func 87) #[] #[], .bool true]) ∧ Below w.heap.size w w' := by
  have EM := hide (implModeOk_any 5)
  rw [show inB 5 1 5 = true from rfl] at EM
  go_enter Try.func53, Try.ntmps53
  go_wp2_with fail
  go_fit (unhide EM _)
  rintro e w1 ⟨rfl, hw⟩
  rw [hw]
  clear hw w1
  go_wp2_with fail
  exact bodyPost_ret (v := .tuple #[.func (.func 87) #[] #[], .bool true]) (by simp [results, Try.results53, go_sem]) rfl ⟨rfl, al1_below _ _⟩

theorem implBlendOf_none (m : Int) (h : m < 1 ∨ 5 < m) (w : World) :
    Calls Try.prog 53 #[.int .i64 m] w fun e w' => e = .returned (.tuple #[.nilFunc, .bool false]) ∧ w' = w := by
  have EM := hide (implModeOk_any m)
  rw [show inB m 1 5 = false by unfold inB; simp; omega] at EM
  clear h
  go_enter Try.func53, Try.ntmps53
  go_wp2_with fail
  go_fit (unhide EM _)
  rintro e w1 ⟨rfl, hw⟩
  rw [hw]
  clear hw w1
  go_wp2_with fail
  exact bodyPost_ret (v := .tuple #[.nilFunc, .bool false]) (by simp [results, Try.results53, go_sem]) rfl ⟨rfl, rfl⟩

theorem blend_not {m : Int} (hm : m < 1 ∨ 5 < m) {s d : B4} : blendC m s d = d := by
  unfold blendC
  split
  · rename_i h
    have hd := laidOk_iff.1 h.2
    unfold blendI outI
    rw [if_neg (by omega), if_neg (by omega), if_neg (by omega), if_neg (by omega), if_neg (by omega), if_neg (by omega), if_neg (by omega), if_neg (by omega), if_neg (by omega), if_neg (by omega), if_neg (by omega), if_neg (by omega), if_neg (by omega), if_neg (by omega), if_neg (by omega), if_neg (by omega), if_neg (by omega), if_neg (by omega), if_neg (by omega), if_neg (by omega), cap_id (by omega), cap_id (by omega), cap_id (by omega), cap_id (by omega)]
  · rfl

set_option maxHeartbeats 8000000 in
set_option maxRecDepth 100000 in
theorem implBlend_none (m : Int) (hm : m < 1 ∨ 5 < m) (r g b a r2 g2 b2' a2 : Int) (w : World) :
    Calls Try.prog 20 #[.int .i64 m, .agg #[.int .i64 r, .int .i64 g, .int .i64 b, .int .i64 a], .agg #[.int .i64 r2, .int .i64 g2, .int .i64 b2', .int .i64 a2]] w fun e w' => e = .returned (.agg #[.int .i64 ((blendC m ⟨r, g, b, a⟩ ⟨r2, g2, b2', a2⟩).x0), .int .i64 ((blendC m ⟨r, g, b, a⟩ ⟨r2, g2, b2', a2⟩).y0), .int .i64 ((blendC m ⟨r, g, b, a⟩ ⟨r2, g2, b2', a2⟩).x1), .int .i64 ((blendC m ⟨r, g, b, a⟩ ⟨r2, g2, b2', a2⟩).y1)]) ∧ Below w.heap.size w w' := by
  have EO := hide (implBlendOf_none m hm)
  have hC : Hid (blendC m ⟨r, g, b, a⟩ ⟨r2, g2, b2', a2⟩ = ⟨r2, g2, b2', a2⟩) := blend_not hm
  generalize blendC m ⟨r, g, b, a⟩ ⟨r2, g2, b2', a2⟩ = C at hC ⊢
  go_enter Try.func20, Try.ntmps20
  go_upto_region 1 with fail
  have R1 := hide (al3_0 w (.cells #[.int .i64 r, .int .i64 g, .int .i64 b, .int .i64 a] 37) (.cells #[.int .i64 r2, .int .i64 g2, .int .i64 b2', .int .i64 a2] 37) (.cells #[.int .i64 0, .int .i64 0, .int .i64 0, .int .i64 0] 37))
  have R2 := hide (al3_1 w (.cells #[.int .i64 r, .int .i64 g, .int .i64 b, .int .i64 a] 37) (.cells #[.int .i64 r2, .int .i64 g2, .int .i64 b2', .int .i64 a2] 37) (.cells #[.int .i64 0, .int .i64 0, .int .i64 0, .int .i64 0] 37))
  have R3 := hide (al3_2 w (.cells #[.int .i64 r, .int .i64 g, .int .i64 b, .int .i64 a] 37) (.cells #[.int .i64 r2, .int .i64 g2, .int .i64 b2', .int .i64 a2] 37) (.cells #[.int .i64 0, .int .i64 0, .int .i64 0, .int .i64 0] 37))
  have HB := hide (al3_below w (.cells #[.int .i64 r, .int .i64 g, .int .i64 b, .int .i64 a] 37) (.cells #[.int .i64 r2, .int .i64 g2, .int .i64 b2', .int .i64 a2] 37) (.cells #[.int .i64 0, .int .i64 0, .int .i64 0, .int .i64 0] 37))
  obtain ⟨b3, hb3⟩ : ∃ b, Hid (b = w.heap.size + 1 + 1) := ⟨_, rfl⟩
  obtain ⟨b2, hb2⟩ : ∃ b, Hid (b = w.heap.size + 1) := ⟨_, rfl⟩
  obtain ⟨b1, hb1⟩ : ∃ b, Hid (b = w.heap.size) := ⟨_, rfl⟩
  have lz : Hid (w.heap.size ≤ b3 ∧ b1 < b3 ∧ b2 < b3) := by unfold Hid; rw [unhide hb3, unhide hb2, unhide hb1]; omega
  rw [← unhide hb3] at R3
  rw [← unhide hb2] at R2
  rw [← unhide hb1] at R1
  rw [← unhide hb3, ← unhide hb2, ← unhide hb1]
  generalize ((w.alloc (.cells #[.int .i64 r, .int .i64 g, .int .i64 b, .int .i64 a] 37)).alloc (.cells #[.int .i64 r2, .int .i64 g2, .int .i64 b2', .int .i64 a2] 37)).alloc (.cells #[.int .i64 0, .int .i64 0, .int .i64 0, .int .i64 0] 37) = W at R1 R2 R3 HB ⊢
  clear hb3 hb2 hb1
  go_wp2_with fail
  go_fit (unhide EO _)
  rintro e w1 ⟨rfl, rfl⟩
  go_upto_region 2 with fail
  have R4 := hide (new_row w1 (.cells #[.nilFunc] 89))
  replace R1 := hide (old_row (.cells #[.nilFunc] 89) (unhide R1))
  replace R2 := hide (old_row (.cells #[.nilFunc] 89) (unhide R2))
  replace R3 := hide (old_row (.cells #[.nilFunc] 89) (unhide R3))
  replace HB := hide (below_two (unhide HB) (al1_below _ (.cells #[.nilFunc] 89)))
  obtain ⟨b4, hb4⟩ : ∃ b, Hid (b = w1.heap.size) := ⟨_, rfl⟩
  rw [← unhide hb4] at R4
  rw [← unhide hb4]
  generalize w1.alloc (.cells #[.nilFunc] 89) = V at R1 R2 R3 R4 HB ⊢
  clear hb4
  obtain ⟨q0, q1, q2, q3⟩ := row4 (unhide R1)
  obtain ⟨d0, d1, d2, d3⟩ := row4 (unhide R2)
  obtain ⟨e0, e1, e2, e3⟩ := row4 (unhide R3)
  obtain ⟨f0, f1, f2, f3⟩ := free4 (unhide R3)
  go_wp2_with fail
  refine bodyPost_ret (v := .agg #[.int .i64 r2, .int .i64 g2, .int .i64 b2', .int .i64 a2]) (by simp [results, Try.results20, go_sem, e0, e1, e2, e3]) rfl ⟨by rw [unhide hC], ?_⟩
  exact below_put4 (unhide HB) (unhide lz).1 _ _ _ _

end Go.Proofs.Ythelfgippiimiab
