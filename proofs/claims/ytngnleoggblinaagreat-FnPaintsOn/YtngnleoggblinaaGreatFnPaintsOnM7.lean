/-
  BlendJ · BlendK · SurfJ · PaintJ · PaintK · PaintM · PaintN: texts of one claim, in one.
-/
import Derived.Test.YtngnleoggblinaaGreatFnPaintsOnM6
import Derived.Lib.MinMax
import Derived.Test.YtngnleoggblinaaGreatFnPaintsOnM1
import Derived.Test.YtngnleoggblinaaGreatFnPaintsOnM5
import Derived.Laws.EntriesVeiled

/-
  The program's five ways to blend one part, by method expressions in a table. (By blendi.py.)
-/
namespace Go.Proofs.YtngnleoggblinaaGreat
open Go.RowKit
set_option linter.unusedVariables false

set_option maxHeartbeats 4000000 in
set_option maxRecDepth 100000 in
theorem implMeet_out (s d sa da : Int) (hs : 0 ≤ s ∧ s ≤ 255) (hd : 0 ≤ d ∧ d ≤ 255) (hsa : 0 ≤ sa ∧ sa ≤ 255) (hda : 0 ≤ da ∧ da ≤ 255) (w : World) :
    Calls Tryz.prog 110 #[.agg #[.int .i64 s, .int .i64 sa, .int .i64 d, .int .i64 da]] w fun e w' => e = .returned (.int .i64 (outI 5 s d sa da)) ∧ Below w.heap.size w w' := by
  have hO : Hid (outI 5 s d sa da = t255I d (255 - sa)) := rfl
  have E := hide (implTimes255_any d (255 - sa))
  have v0 : IntKind.i64.wrap (255 - sa) = 255 - sa := IntWalk.i64_in _ (by omega)
  rw [unhide hO]
  generalize t255I d (255 - sa) = V at E ⊢
  clear hs hd hsa hda hO
  go_enter Tryz.func110, Tryz.ntmps110
  go_upto_region 1 with fail
  have R1 := hide (new_row w (.cells #[.int .i64 s, .int .i64 sa, .int .i64 d, .int .i64 da] 110))
  have HB := hide (al1_below w (.cells #[.int .i64 s, .int .i64 sa, .int .i64 d, .int .i64 da] 110))
  obtain ⟨b1, hb1⟩ : ∃ b, Hid (b = w.heap.size) := ⟨_, rfl⟩
  rw [← unhide hb1] at R1
  rw [← unhide hb1]
  generalize w.alloc (.cells #[.int .i64 s, .int .i64 sa, .int .i64 d, .int .i64 da] 110) = W at R1 HB ⊢
  clear hb1
  obtain ⟨q0, q1, q2, q3⟩ := row4 (unhide R1)
  go_wp2_with fail
  go_fit (unhide E _)
  rintro e w1 ⟨rfl, hb⟩
  go_wp2_with fail
  go_ret
  exact ⟨rfl, below_two (unhide HB) hb⟩

set_option maxHeartbeats 4000000 in
set_option maxRecDepth 100000 in
theorem implMeet_plus (s d sa da : Int) (hs : 0 ≤ s ∧ s ≤ 255) (hd : 0 ≤ d ∧ d ≤ 255) (hsa : 0 ≤ sa ∧ sa ≤ 255) (hda : 0 ≤ da ∧ da ≤ 255) (w : World) :
    Calls Tryz.prog 109 #[.agg #[.int .i64 s, .int .i64 sa, .int .i64 d, .int .i64 da]] w fun e w' => e = .returned (.int .i64 (outI 4 s d sa da)) ∧ Below w.heap.size w w' := by
  have hO : Hid (outI 4 s d sa da = s + d) := rfl
  have v0 : IntKind.i64.wrap (s + d) = s + d := IntWalk.i64_in _ (by omega)
  rw [unhide hO]
  clear hs hd hsa hda hO
  go_enter Tryz.func109, Tryz.ntmps109
  go_upto_region 1 with fail
  have R1 := hide (new_row w (.cells #[.int .i64 s, .int .i64 sa, .int .i64 d, .int .i64 da] 110))
  have HB := hide (al1_below w (.cells #[.int .i64 s, .int .i64 sa, .int .i64 d, .int .i64 da] 110))
  obtain ⟨b1, hb1⟩ : ∃ b, Hid (b = w.heap.size) := ⟨_, rfl⟩
  rw [← unhide hb1] at R1
  rw [← unhide hb1]
  generalize w.alloc (.cells #[.int .i64 s, .int .i64 sa, .int .i64 d, .int .i64 da] 110) = W at R1 HB ⊢
  clear hb1
  obtain ⟨q0, q1, q2, q3⟩ := row4 (unhide R1)
  go_wp2_with fail
  go_ret
  exact ⟨rfl, unhide HB⟩

set_option maxHeartbeats 4000000 in
set_option maxRecDepth 100000 in
theorem implMeet_over (s d sa da : Int) (hs : 0 ≤ s ∧ s ≤ 255) (hd : 0 ≤ d ∧ d ≤ 255) (hsa : 0 ≤ sa ∧ sa ≤ 255) (hda : 0 ≤ da ∧ da ≤ 255) (w : World) :
    Calls Tryz.prog 106 #[.agg #[.int .i64 s, .int .i64 sa, .int .i64 d, .int .i64 da]] w fun e w' => e = .returned (.int .i64 (outI 1 s d sa da)) ∧ Below w.heap.size w w' := by
  have hO : Hid (outI 1 s d sa da = s + t255I d (255 - sa)) := rfl
  have E := hide (implMeet_out s d sa da hs hd hsa hda)
  have hb5 : 0 ≤ t255I d (255 - sa) ∧ t255I d (255 - sa) ≤ 255 := by
    have h1 := t255_mono (a := d) (c := d) (b := 255 - sa) hd.1 (Int.le_refl _) hd.2 (by omega)
    have h2 := t255_le (a := d) (b := 255 - sa) hd (by omega)
    omega
  rw [show outI 5 s d sa da = t255I d (255 - sa) from rfl] at E
  rw [unhide hO]
  generalize t255I d (255 - sa) = V at E hb5 ⊢
  have v0 : IntKind.i64.wrap (s + V) = s + V := IntWalk.i64_in _ (by omega)
  clear hs hd hsa hda hO hb5
  go_enter Tryz.func106, Tryz.ntmps106
  go_upto_region 1 with fail
  have R1 := hide (new_row w (.cells #[.int .i64 s, .int .i64 sa, .int .i64 d, .int .i64 da] 110))
  have HB := hide (al1_below w (.cells #[.int .i64 s, .int .i64 sa, .int .i64 d, .int .i64 da] 110))
  obtain ⟨b1, hb1⟩ : ∃ b, Hid (b = w.heap.size) := ⟨_, rfl⟩
  rw [← unhide hb1] at R1
  rw [← unhide hb1]
  generalize w.alloc (.cells #[.int .i64 s, .int .i64 sa, .int .i64 d, .int .i64 da] 110) = W at R1 HB ⊢
  clear hb1
  obtain ⟨q0, q1, q2, q3⟩ := row4 (unhide R1)
  have HN := hide ((Below.refl W.heap.size W).drew)
  have k0 := hide (show ∀ u, Below W.heap.size W u → (u.cell? ⟨b1, 0, none⟩ = some (.int .i64 s) ∧ u.cell? ⟨b1, 1, none⟩ = some (.int .i64 sa) ∧ u.cell? ⟨b1, 2, none⟩ = some (.int .i64 d) ∧ u.cell? ⟨b1, 3, none⟩ = some (.int .i64 da) ∧ Below W.heap.size W u) from fun u h => by
    obtain ⟨c0, c1, c2, c3⟩ := row4 (row_next h (unhide R1))
    exact ⟨c0, c1, c2, c3, h⟩)
  have k00 := hide (unhide k0 _ (unhide HN))
  clear q0 q1 q2 q3
  go_region_held3 (fun u => u.cell? ⟨b1, 0, none⟩ = some (.int .i64 s) ∧ u.cell? ⟨b1, 1, none⟩ = some (.int .i64 sa) ∧ u.cell? ⟨b1, 2, none⟩ = some (.int .i64 d) ∧ u.cell? ⟨b1, 3, none⟩ = some (.int .i64 da) ∧ Below W.heap.size W u) (first | with_reducible exact unhide k00 | with_reducible exact unhide k0 _ (by assumption)) (first | (go_at_call 110; go_fit (unhide E _); rintro e w4 ⟨rfl, hb4⟩; have h4 := below_undrew hb4; clear hb4))
  all_goals
    go_wp2_with fail
    go_ret
    exact ⟨rfl, below_two (unhide HB) h4⟩

set_option maxHeartbeats 4000000 in
set_option maxRecDepth 100000 in
theorem implMeet_multiply (s d sa da : Int) (hs : 0 ≤ s ∧ s ≤ 255) (hd : 0 ≤ d ∧ d ≤ 255) (hsa : 0 ≤ sa ∧ sa ≤ 255) (hda : 0 ≤ da ∧ da ≤ 255) (w : World) :
    Calls Tryz.prog 107 #[.agg #[.int .i64 s, .int .i64 sa, .int .i64 d, .int .i64 da]] w fun e w' => e = .returned (.int .i64 (outI 2 s d sa da)) ∧ Below w.heap.size w w' := by
  have m1 := prod255 hs hd
  have m2 := prod255 (x := s) (y := 255 - da) hs (by omega)
  have m3 := prod255 (x := d) (y := 255 - sa) hd (by omega)
  have hO : Hid (outI 2 s d sa da = rdivI (s * d + (s * (255 - da) + d * (255 - sa))) 255) := by unfold Hid; rw [← Int.add_assoc]; rfl
  have w1' : IntKind.i64.wrap (255 - da) = 255 - da := IntWalk.i64_in _ (by omega)
  have w2' : IntKind.i64.wrap (255 - sa) = 255 - sa := IntWalk.i64_in _ (by omega)
  have w3' : IntKind.i64.wrap (s * d) = s * d := IntWalk.i64_in _ (by omega)
  have w4' : IntKind.i64.wrap (s * (255 - da)) = s * (255 - da) := IntWalk.i64_in _ (by omega)
  have w5' : IntKind.i64.wrap (d * (255 - sa)) = d * (255 - sa) := IntWalk.i64_in _ (by omega)
  have w6' : IntKind.i64.wrap (s * (255 - da) + d * (255 - sa)) = s * (255 - da) + d * (255 - sa) := IntWalk.i64_in _ (by omega)
  have w7' : IntKind.i64.wrap (s * d + (s * (255 - da) + d * (255 - sa))) = s * d + (s * (255 - da) + d * (255 - sa)) := IntWalk.i64_in _ (by omega)
  have E := hide (implRoundDiv_any (s * d + (s * (255 - da) + d * (255 - sa))) 255 (by omega) (by omega) (by omega))
  rw [unhide hO]
  generalize rdivI (s * d + (s * (255 - da) + d * (255 - sa))) 255 = V at E ⊢
  clear hs hd hsa hda hO m1 m2 m3
  go_enter Tryz.func107, Tryz.ntmps107
  go_upto_region 1 with fail
  have R1 := hide (new_row w (.cells #[.int .i64 s, .int .i64 sa, .int .i64 d, .int .i64 da] 110))
  have HB := hide (al1_below w (.cells #[.int .i64 s, .int .i64 sa, .int .i64 d, .int .i64 da] 110))
  obtain ⟨b1, hb1⟩ : ∃ b, Hid (b = w.heap.size) := ⟨_, rfl⟩
  rw [← unhide hb1] at R1
  rw [← unhide hb1]
  generalize w.alloc (.cells #[.int .i64 s, .int .i64 sa, .int .i64 d, .int .i64 da] 110) = W at R1 HB ⊢
  clear hb1
  obtain ⟨q0, q1, q2, q3⟩ := row4 (unhide R1)
  go_wp2_with fail
  go_fit (unhide E _)
  rintro e w1 ⟨rfl, hb⟩
  go_wp2_with fail
  go_ret
  exact ⟨rfl, below_two (unhide HB) hb⟩

set_option maxHeartbeats 4000000 in
set_option maxRecDepth 100000 in
theorem implMeet_screen (s d sa da : Int) (hs : 0 ≤ s ∧ s ≤ 255) (hd : 0 ≤ d ∧ d ≤ 255) (hsa : 0 ≤ sa ∧ sa ≤ 255) (hda : 0 ≤ da ∧ da ≤ 255) (w : World) :
    Calls Tryz.prog 108 #[.agg #[.int .i64 s, .int .i64 sa, .int .i64 d, .int .i64 da]] w fun e w' => e = .returned (.int .i64 (outI 3 s d sa da)) ∧ Below w.heap.size w w' := by
  have hO : Hid (outI 3 s d sa da = s + d - t255I s d) := by unfold Hid; rw [t255_is hs hd]; rfl
  have E := hide (implTimes255_any s d)
  have hb5 : 0 ≤ t255I s d ∧ t255I s d ≤ 255 := by
    have h1 := t255_mono (a := s) (c := s) (b := d) hs.1 (Int.le_refl _) hs.2 hd
    have h2 := t255_le (a := s) (b := d) hs hd
    omega
  rw [unhide hO]
  generalize t255I s d = V at E hb5 ⊢
  have v0 : IntKind.i64.wrap (s + d) = s + d := IntWalk.i64_in _ (by omega)
  have v1 : IntKind.i64.wrap (s + d - V) = s + d - V := IntWalk.i64_in _ (by omega)
  clear hs hd hsa hda hO hb5
  go_enter Tryz.func108, Tryz.ntmps108
  go_upto_region 1 with fail
  have R1 := hide (new_row w (.cells #[.int .i64 s, .int .i64 sa, .int .i64 d, .int .i64 da] 110))
  have HB := hide (al1_below w (.cells #[.int .i64 s, .int .i64 sa, .int .i64 d, .int .i64 da] 110))
  obtain ⟨b1, hb1⟩ : ∃ b, Hid (b = w.heap.size) := ⟨_, rfl⟩
  rw [← unhide hb1] at R1
  rw [← unhide hb1]
  generalize w.alloc (.cells #[.int .i64 s, .int .i64 sa, .int .i64 d, .int .i64 da] 110) = W at R1 HB ⊢
  clear hb1
  obtain ⟨q0, q1, q2, q3⟩ := row4 (unhide R1)
  have HN := hide ((Below.refl W.heap.size W).drew)
  have k0 := hide (show ∀ u, Below W.heap.size W u → (u.cell? ⟨b1, 0, none⟩ = some (.int .i64 s) ∧ u.cell? ⟨b1, 1, none⟩ = some (.int .i64 sa) ∧ u.cell? ⟨b1, 2, none⟩ = some (.int .i64 d) ∧ u.cell? ⟨b1, 3, none⟩ = some (.int .i64 da) ∧ Below W.heap.size W u) from fun u h => by
    obtain ⟨c0, c1, c2, c3⟩ := row4 (row_next h (unhide R1))
    exact ⟨c0, c1, c2, c3, h⟩)
  have k00 := hide (unhide k0 _ (unhide HN))
  clear q0 q1 q2 q3
  go_region_held3 (fun u => u.cell? ⟨b1, 0, none⟩ = some (.int .i64 s) ∧ u.cell? ⟨b1, 1, none⟩ = some (.int .i64 sa) ∧ u.cell? ⟨b1, 2, none⟩ = some (.int .i64 d) ∧ u.cell? ⟨b1, 3, none⟩ = some (.int .i64 da) ∧ Below W.heap.size W u) (first | with_reducible exact unhide k00 | with_reducible exact unhide k0 _ (by assumption)) (first | (go_at_call 79; go_fit (unhide E _); rintro e w4 ⟨rfl, hb4⟩; have h4 := below_undrew hb4; clear hb4))
  all_goals
    go_wp2_with fail
    go_ret
    exact ⟨rfl, below_two (unhide HB) h4⟩

set_option maxHeartbeats 8000000 in
set_option maxRecDepth 100000 in
theorem implEachPart_blend (p ps pd : Nat) (r g b a r2 g2 b2' a2 m0 m1 m2 m3 : Int) (J : World → Prop) (jn : ∀ u u', J u → Below u.heap.size u u' → J u')
    (K0 : ∀ u, J u → Calls Tryz.prog 75 #[.int .i64 r, .int .i64 r2, .pointer (some ⟨p, 0, none⟩), .pointer (some ⟨ps, 0, none⟩), .pointer (some ⟨pd, 0, none⟩)] u fun e u' => e = .returned (.int .i64 m0) ∧ Below u.heap.size u u')
    (K1 : ∀ u, J u → Calls Tryz.prog 75 #[.int .i64 g, .int .i64 g2, .pointer (some ⟨p, 0, none⟩), .pointer (some ⟨ps, 0, none⟩), .pointer (some ⟨pd, 0, none⟩)] u fun e u' => e = .returned (.int .i64 m1) ∧ Below u.heap.size u u')
    (K2 : ∀ u, J u → Calls Tryz.prog 75 #[.int .i64 b, .int .i64 b2', .pointer (some ⟨p, 0, none⟩), .pointer (some ⟨ps, 0, none⟩), .pointer (some ⟨pd, 0, none⟩)] u fun e u' => e = .returned (.int .i64 m2) ∧ Below u.heap.size u u')
    (K3 : ∀ u, J u → Calls Tryz.prog 75 #[.int .i64 a, .int .i64 a2, .pointer (some ⟨p, 0, none⟩), .pointer (some ⟨ps, 0, none⟩), .pointer (some ⟨pd, 0, none⟩)] u fun e u' => e = .returned (.int .i64 m3) ∧ Below u.heap.size u u')
    (w : World) (h : J w) :
    Calls Tryz.prog 74 #[.agg #[.int .i64 r, .int .i64 g, .int .i64 b, .int .i64 a], .agg #[.int .i64 r2, .int .i64 g2, .int .i64 b2', .int .i64 a2], .func (.func 75) #[] #[.pointer (some ⟨p, 0, none⟩), .pointer (some ⟨ps, 0, none⟩), .pointer (some ⟨pd, 0, none⟩)]] w fun e w' => e = .returned (.agg #[.int .i64 m0, .int .i64 m1, .int .i64 m2, .int .i64 m3]) ∧ Below w.heap.size w w' := by
  replace K0 := hide K0
  replace K1 := hide K1
  replace K2 := hide K2
  replace K3 := hide K3
  go_enter Tryz.func74, Tryz.ntmps74
  go_upto_region 1 with fail
  have R1 := hide (al3_0 w (.cells #[.int .i64 r, .int .i64 g, .int .i64 b, .int .i64 a] 36) (.cells #[.int .i64 r2, .int .i64 g2, .int .i64 b2', .int .i64 a2] 36) (.cells #[.int .i64 0, .int .i64 0, .int .i64 0, .int .i64 0] 36))
  have R2 := hide (al3_1 w (.cells #[.int .i64 r, .int .i64 g, .int .i64 b, .int .i64 a] 36) (.cells #[.int .i64 r2, .int .i64 g2, .int .i64 b2', .int .i64 a2] 36) (.cells #[.int .i64 0, .int .i64 0, .int .i64 0, .int .i64 0] 36))
  have R3 := hide (al3_2 w (.cells #[.int .i64 r, .int .i64 g, .int .i64 b, .int .i64 a] 36) (.cells #[.int .i64 r2, .int .i64 g2, .int .i64 b2', .int .i64 a2] 36) (.cells #[.int .i64 0, .int .i64 0, .int .i64 0, .int .i64 0] 36))
  have HB := hide (al3_below w (.cells #[.int .i64 r, .int .i64 g, .int .i64 b, .int .i64 a] 36) (.cells #[.int .i64 r2, .int .i64 g2, .int .i64 b2', .int .i64 a2] 36) (.cells #[.int .i64 0, .int .i64 0, .int .i64 0, .int .i64 0] 36))
  have cq := jn _ _ h (unhide HB)
  obtain ⟨b3, hb3⟩ : ∃ b, Hid (b = w.heap.size + 1 + 1) := ⟨_, rfl⟩
  obtain ⟨b2, hb2⟩ : ∃ b, Hid (b = w.heap.size + 1) := ⟨_, rfl⟩
  obtain ⟨b1, hb1⟩ : ∃ b, Hid (b = w.heap.size) := ⟨_, rfl⟩
  have lz : Hid (w.heap.size ≤ b3 ∧ b1 < b3 ∧ b2 < b3) := by unfold Hid; rw [unhide hb3, unhide hb2, unhide hb1]; omega
  rw [← unhide hb3] at R3
  rw [← unhide hb2] at R2
  rw [← unhide hb1] at R1
  rw [← unhide hb3, ← unhide hb2, ← unhide hb1]
  generalize ((w.alloc (.cells #[.int .i64 r, .int .i64 g, .int .i64 b, .int .i64 a] 36)).alloc (.cells #[.int .i64 r2, .int .i64 g2, .int .i64 b2', .int .i64 a2] 36)).alloc (.cells #[.int .i64 0, .int .i64 0, .int .i64 0, .int .i64 0] 36) = W at R1 R2 R3 HB cq ⊢
  clear hb3 hb2 hb1 h
  have ne1 : ¬ b3 = b1 := by have := unhide lz; omega
  have ne2 : ¬ b1 = b3 := by have := unhide lz; omega
  have ne3 : ¬ b3 = b2 := by have := unhide lz; omega
  have ne4 : ¬ b2 = b3 := by have := unhide lz; omega
  have l6 := hide (show b3 ≤ W.heap.size from Nat.le_of_lt (heap_lt (unhide R3)))
  have cq0 := hide (jn _ _ cq (Below.refl W.heap.size W).drew)
  replace cq := hide cq
  have k0 := hide (show ∀ u, Below b3 W u → (u.cell? ⟨b1, 0, none⟩ = some (.int .i64 r) ∧ u.cell? ⟨b1, 1, none⟩ = some (.int .i64 g) ∧ u.cell? ⟨b1, 2, none⟩ = some (.int .i64 b) ∧ u.cell? ⟨b1, 3, none⟩ = some (.int .i64 a) ∧ u.cell? ⟨b2, 0, none⟩ = some (.int .i64 r2) ∧ u.cell? ⟨b2, 1, none⟩ = some (.int .i64 g2) ∧ u.cell? ⟨b2, 2, none⟩ = some (.int .i64 b2') ∧ u.cell? ⟨b2, 3, none⟩ = some (.int .i64 a2) ∧ Below b3 W u) from fun u h => by
    obtain ⟨c0, c1, c2, c3⟩ := row4 ((h.block b1 (unhide lz).2.1).trans (unhide R1))
    obtain ⟨d0, d1, d2, d3⟩ := row4 ((h.block b2 (unhide lz).2.2).trans (unhide R2))
    exact ⟨c0, c1, c2, c3, d0, d1, d2, d3, h⟩)
  have k1 := hide (show ∀ u, Below W.heap.size W u → (u.cell? ⟨b3, 0, none⟩ = some (.int .i64 0) ∧ u.cell? ⟨b3, 1, none⟩ = some (.int .i64 0) ∧ u.cell? ⟨b3, 2, none⟩ = some (.int .i64 0) ∧ u.cell? ⟨b3, 3, none⟩ = some (.int .i64 0) ∧ u.frozen? ⟨b3, 0, none⟩ = false ∧ u.frozen? ⟨b3, 1, none⟩ = false ∧ u.frozen? ⟨b3, 2, none⟩ = false ∧ u.frozen? ⟨b3, 3, none⟩ = false) from fun u h => by
    obtain ⟨e0, e1, e2, e3⟩ := row4 (row_next h (unhide R3))
    obtain ⟨f0, f1, f2, f3⟩ := free4 (row_next h (unhide R3))
    exact ⟨e0, e1, e2, e3, f0, f1, f2, f3⟩)
  have k00 := hide (unhide k0 _ (Below.refl _ _).drew)
  replace jn := hide jn
  go_region_held3 (fun u => u.cell? ⟨b1, 0, none⟩ = some (.int .i64 r) ∧ u.cell? ⟨b1, 1, none⟩ = some (.int .i64 g) ∧ u.cell? ⟨b1, 2, none⟩ = some (.int .i64 b) ∧ u.cell? ⟨b1, 3, none⟩ = some (.int .i64 a) ∧ u.cell? ⟨b2, 0, none⟩ = some (.int .i64 r2) ∧ u.cell? ⟨b2, 1, none⟩ = some (.int .i64 g2) ∧ u.cell? ⟨b2, 2, none⟩ = some (.int .i64 b2') ∧ u.cell? ⟨b2, 3, none⟩ = some (.int .i64 a2) ∧ Below b3 W u) ((first | with_reducible exact unhide k00 | (with_reducible refine unhide k0 _ ?_; first | with_reducible exact Below.mono (by assumption) (unhide l6) | (with_reducible refine below_put4 ?_ (Nat.le_refl _) _ _ _ _; with_reducible exact Below.mono (by assumption) (unhide l6))))) (first | (go_at_call 75; go_fit (unhide K0 _ (unhide cq0)); rintro e w4 ⟨rfl, hb1⟩; have h1 := below_undrew hb1; have cq1 := hide (unhide jn _ _ (unhide cq) h1); clear hb1) | (go_at_call 75; go_fit (unhide K1 _ (unhide cq1)); rintro e w5 ⟨rfl, hb2⟩; have h2 := below_two h1 hb2; clear h1 cq1; have cq2 := hide (unhide jn _ _ (unhide cq) h2); clear hb2) | (go_at_call 75; go_fit (unhide K2 _ (unhide cq2)); rintro e w6 ⟨rfl, hb3⟩; have h3 := below_two h2 hb3; clear h2 cq2; have cq3 := hide (unhide jn _ _ (unhide cq) h3); clear hb3) | (go_at_call 75; go_fit (unhide K3 _ (unhide cq3)); rintro e w7 ⟨rfl, hb4⟩; have h4 := below_two h3 hb4; clear h3 cq3; clear hb4; obtain ⟨e0, e1, e2, e3, f0, f1, f2, f3⟩ := unhide k1 _ h4))
  all_goals
    go_wp2_with fail
    refine bodyPost_ret (v := .agg #[.int .i64 m0, .int .i64 m1, .int .i64 m2, .int .i64 m3]) (by simp [results, Tryz.results74, go_sem, e0, e1, e2, e3]) rfl ⟨rfl, ?_⟩
    exact below_put4 (below_two (unhide HB) h4) (unhide lz).1 _ _ _ _

structure MixAt (w : World) (p ps pd : Nat) (f : Value) (r g b a r2 g2 b2' a2 : Int) : Prop where
  f : w.cell? ⟨p, 0, none⟩ = some f
  s : w.heap[ps]? = some (.cells #[.int .i64 r, .int .i64 g, .int .i64 b, .int .i64 a] 36 (0, 0))
  d : w.heap[pd]? = some (.cells #[.int .i64 r2, .int .i64 g2, .int .i64 b2', .int .i64 a2] 36 (0, 0))
theorem MixAt.next {w w1 : World} {p ps pd : Nat} {f : Value} {r g b a r2 g2 b2' a2 : Int} (h : MixAt w p ps pd f r g b a r2 g2 b2' a2) (hb : Below w.heap.size w w1) : MixAt w1 p ps pd f r g b a r2 g2 b2' a2 :=
  ⟨kc hb h.f, row_next hb h.s, row_next hb h.d⟩
theorem min_cap (x : Int) : min x 255 = capI x := by unfold capI; rw [Int.min_def]; split <;> split <;> omega

set_option maxHeartbeats 4000000 in
set_option maxRecDepth 100000 in
theorem implMix_over (p ps pd : Nat) (x y r g b a r2 g2 b2' a2 : Int) (hs : 0 ≤ x ∧ x ≤ 255) (hd : 0 ≤ y ∧ y ≤ 255) (hsa : 0 ≤ a ∧ a ≤ 255) (hda : 0 ≤ a2 ∧ a2 ≤ 255) (w : World) (h : MixAt w p ps pd (.func (.func 106) #[] #[]) r g b a r2 g2 b2' a2) :
    Calls Tryz.prog 75 #[.int .i64 x, .int .i64 y, .pointer (some ⟨p, 0, none⟩), .pointer (some ⟨ps, 0, none⟩), .pointer (some ⟨pd, 0, none⟩)] w fun e w' => e = .returned (.int .i64 (blendI 1 x y a a2)) ∧ Below w.heap.size w w' := by
  have E := hide (implMeet_over x y a a2 hs hd hsa hda)
  have hO : Hid (blendI 1 x y a a2 = min (outI 1 x y a a2) 255) := (min_cap _).symm
  generalize outI 1 x y a a2 = V at E hO
  rw [unhide hO]
  clear hs hd hsa hda hO
  obtain ⟨c, h1, h2⟩ := h
  obtain ⟨q0, q1, q2, q3⟩ := row4 h1
  obtain ⟨d0, d1, d2, d3⟩ := row4 h2
  clear h1 h2
  go_enter Tryz.func75, Tryz.ntmps75
  go_wp2_with fail
  go_fit (unhide E _)
  rintro e w1 ⟨rfl, hb⟩
  go_wp2_with fail
  go_ret
  exact ⟨rfl, hb⟩

theorem implBlendOf_over (w : World) :
    Calls Tryz.prog 73 #[.int .i64 1] w fun e w' => e = .returned (.tuple #[.func (.func 106) #[] #[], .bool true]) ∧ Below w.heap.size w w' := by
  have EM := hide (implModeOk_any 1)
  rw [show inB 1 1 5 = true from rfl] at EM
  go_enter Tryz.func73, Tryz.ntmps73
  go_wp2_with fail
  go_fit (unhide EM _)
  rintro e w1 ⟨rfl, hw⟩
  rw [hw]
  clear hw w1
  go_wp2_with fail
  exact bodyPost_ret (v := .tuple #[.func (.func 106) #[] #[], .bool true]) (by simp [results, Tryz.results73, go_sem]) rfl ⟨rfl, al1_below _ _⟩

set_option maxHeartbeats 4000000 in
set_option maxRecDepth 100000 in
theorem implMix_multiply (p ps pd : Nat) (x y r g b a r2 g2 b2' a2 : Int) (hs : 0 ≤ x ∧ x ≤ 255) (hd : 0 ≤ y ∧ y ≤ 255) (hsa : 0 ≤ a ∧ a ≤ 255) (hda : 0 ≤ a2 ∧ a2 ≤ 255) (w : World) (h : MixAt w p ps pd (.func (.func 107) #[] #[]) r g b a r2 g2 b2' a2) :
    Calls Tryz.prog 75 #[.int .i64 x, .int .i64 y, .pointer (some ⟨p, 0, none⟩), .pointer (some ⟨ps, 0, none⟩), .pointer (some ⟨pd, 0, none⟩)] w fun e w' => e = .returned (.int .i64 (blendI 2 x y a a2)) ∧ Below w.heap.size w w' := by
  have E := hide (implMeet_multiply x y a a2 hs hd hsa hda)
  have hO : Hid (blendI 2 x y a a2 = min (outI 2 x y a a2) 255) := (min_cap _).symm
  generalize outI 2 x y a a2 = V at E hO
  rw [unhide hO]
  clear hs hd hsa hda hO
  obtain ⟨c, h1, h2⟩ := h
  obtain ⟨q0, q1, q2, q3⟩ := row4 h1
  obtain ⟨d0, d1, d2, d3⟩ := row4 h2
  clear h1 h2
  go_enter Tryz.func75, Tryz.ntmps75
  go_wp2_with fail
  go_fit (unhide E _)
  rintro e w1 ⟨rfl, hb⟩
  go_wp2_with fail
  go_ret
  exact ⟨rfl, hb⟩

theorem implBlendOf_multiply (w : World) :
    Calls Tryz.prog 73 #[.int .i64 2] w fun e w' => e = .returned (.tuple #[.func (.func 107) #[] #[], .bool true]) ∧ Below w.heap.size w w' := by
  have EM := hide (implModeOk_any 2)
  rw [show inB 2 1 5 = true from rfl] at EM
  go_enter Tryz.func73, Tryz.ntmps73
  go_wp2_with fail
  go_fit (unhide EM _)
  rintro e w1 ⟨rfl, hw⟩
  rw [hw]
  clear hw w1
  go_wp2_with fail
  exact bodyPost_ret (v := .tuple #[.func (.func 107) #[] #[], .bool true]) (by simp [results, Tryz.results73, go_sem]) rfl ⟨rfl, al1_below _ _⟩

set_option maxHeartbeats 4000000 in
set_option maxRecDepth 100000 in
theorem implMix_screen (p ps pd : Nat) (x y r g b a r2 g2 b2' a2 : Int) (hs : 0 ≤ x ∧ x ≤ 255) (hd : 0 ≤ y ∧ y ≤ 255) (hsa : 0 ≤ a ∧ a ≤ 255) (hda : 0 ≤ a2 ∧ a2 ≤ 255) (w : World) (h : MixAt w p ps pd (.func (.func 108) #[] #[]) r g b a r2 g2 b2' a2) :
    Calls Tryz.prog 75 #[.int .i64 x, .int .i64 y, .pointer (some ⟨p, 0, none⟩), .pointer (some ⟨ps, 0, none⟩), .pointer (some ⟨pd, 0, none⟩)] w fun e w' => e = .returned (.int .i64 (blendI 3 x y a a2)) ∧ Below w.heap.size w w' := by
  have E := hide (implMeet_screen x y a a2 hs hd hsa hda)
  have hO : Hid (blendI 3 x y a a2 = min (outI 3 x y a a2) 255) := (min_cap _).symm
  generalize outI 3 x y a a2 = V at E hO
  rw [unhide hO]
  clear hs hd hsa hda hO
  obtain ⟨c, h1, h2⟩ := h
  obtain ⟨q0, q1, q2, q3⟩ := row4 h1
  obtain ⟨d0, d1, d2, d3⟩ := row4 h2
  clear h1 h2
  go_enter Tryz.func75, Tryz.ntmps75
  go_wp2_with fail
  go_fit (unhide E _)
  rintro e w1 ⟨rfl, hb⟩
  go_wp2_with fail
  go_ret
  exact ⟨rfl, hb⟩

theorem implBlendOf_screen (w : World) :
    Calls Tryz.prog 73 #[.int .i64 3] w fun e w' => e = .returned (.tuple #[.func (.func 108) #[] #[], .bool true]) ∧ Below w.heap.size w w' := by
  have EM := hide (implModeOk_any 3)
  rw [show inB 3 1 5 = true from rfl] at EM
  go_enter Tryz.func73, Tryz.ntmps73
  go_wp2_with fail
  go_fit (unhide EM _)
  rintro e w1 ⟨rfl, hw⟩
  rw [hw]
  clear hw w1
  go_wp2_with fail
  exact bodyPost_ret (v := .tuple #[.func (.func 108) #[] #[], .bool true]) (by simp [results, Tryz.results73, go_sem]) rfl ⟨rfl, al1_below _ _⟩

set_option maxHeartbeats 4000000 in
set_option maxRecDepth 100000 in
theorem implMix_plus (p ps pd : Nat) (x y r g b a r2 g2 b2' a2 : Int) (hs : 0 ≤ x ∧ x ≤ 255) (hd : 0 ≤ y ∧ y ≤ 255) (hsa : 0 ≤ a ∧ a ≤ 255) (hda : 0 ≤ a2 ∧ a2 ≤ 255) (w : World) (h : MixAt w p ps pd (.func (.func 109) #[] #[]) r g b a r2 g2 b2' a2) :
    Calls Tryz.prog 75 #[.int .i64 x, .int .i64 y, .pointer (some ⟨p, 0, none⟩), .pointer (some ⟨ps, 0, none⟩), .pointer (some ⟨pd, 0, none⟩)] w fun e w' => e = .returned (.int .i64 (blendI 4 x y a a2)) ∧ Below w.heap.size w w' := by
  have E := hide (implMeet_plus x y a a2 hs hd hsa hda)
  have hO : Hid (blendI 4 x y a a2 = min (outI 4 x y a a2) 255) := (min_cap _).symm
  generalize outI 4 x y a a2 = V at E hO
  rw [unhide hO]
  clear hs hd hsa hda hO
  obtain ⟨c, h1, h2⟩ := h
  obtain ⟨q0, q1, q2, q3⟩ := row4 h1
  obtain ⟨d0, d1, d2, d3⟩ := row4 h2
  clear h1 h2
  go_enter Tryz.func75, Tryz.ntmps75
  go_wp2_with fail
  go_fit (unhide E _)
  rintro e w1 ⟨rfl, hb⟩
  go_wp2_with fail
  go_ret
  exact ⟨rfl, hb⟩

theorem implBlendOf_plus (w : World) :
    Calls Tryz.prog 73 #[.int .i64 4] w fun e w' => e = .returned (.tuple #[.func (.func 109) #[] #[], .bool true]) ∧ Below w.heap.size w w' := by
  have EM := hide (implModeOk_any 4)
  rw [show inB 4 1 5 = true from rfl] at EM
  go_enter Tryz.func73, Tryz.ntmps73
  go_wp2_with fail
  go_fit (unhide EM _)
  rintro e w1 ⟨rfl, hw⟩
  rw [hw]
  clear hw w1
  go_wp2_with fail
  exact bodyPost_ret (v := .tuple #[.func (.func 109) #[] #[], .bool true]) (by simp [results, Tryz.results73, go_sem]) rfl ⟨rfl, al1_below _ _⟩

set_option maxHeartbeats 4000000 in
set_option maxRecDepth 100000 in
theorem implMix_out (p ps pd : Nat) (x y r g b a r2 g2 b2' a2 : Int) (hs : 0 ≤ x ∧ x ≤ 255) (hd : 0 ≤ y ∧ y ≤ 255) (hsa : 0 ≤ a ∧ a ≤ 255) (hda : 0 ≤ a2 ∧ a2 ≤ 255) (w : World) (h : MixAt w p ps pd (.func (.func 110) #[] #[]) r g b a r2 g2 b2' a2) :
    Calls Tryz.prog 75 #[.int .i64 x, .int .i64 y, .pointer (some ⟨p, 0, none⟩), .pointer (some ⟨ps, 0, none⟩), .pointer (some ⟨pd, 0, none⟩)] w fun e w' => e = .returned (.int .i64 (blendI 5 x y a a2)) ∧ Below w.heap.size w w' := by
  have E := hide (implMeet_out x y a a2 hs hd hsa hda)
  have hO : Hid (blendI 5 x y a a2 = min (outI 5 x y a a2) 255) := (min_cap _).symm
  generalize outI 5 x y a a2 = V at E hO
  rw [unhide hO]
  clear hs hd hsa hda hO
  obtain ⟨c, h1, h2⟩ := h
  obtain ⟨q0, q1, q2, q3⟩ := row4 h1
  obtain ⟨d0, d1, d2, d3⟩ := row4 h2
  clear h1 h2
  go_enter Tryz.func75, Tryz.ntmps75
  go_wp2_with fail
  go_fit (unhide E _)
  rintro e w1 ⟨rfl, hb⟩
  go_wp2_with fail
  go_ret
  exact ⟨rfl, hb⟩

theorem implBlendOf_out (w : World) :
    Calls Tryz.prog 73 #[.int .i64 5] w fun e w' => e = .returned (.tuple #[.func (.func 110) #[] #[], .bool true]) ∧ Below w.heap.size w w' := by
  have EM := hide (implModeOk_any 5)
  rw [show inB 5 1 5 = true from rfl] at EM
  go_enter Tryz.func73, Tryz.ntmps73
  go_wp2_with fail
  go_fit (unhide EM _)
  rintro e w1 ⟨rfl, hw⟩
  rw [hw]
  clear hw w1
  go_wp2_with fail
  exact bodyPost_ret (v := .tuple #[.func (.func 110) #[] #[], .bool true]) (by simp [results, Tryz.results73, go_sem]) rfl ⟨rfl, al1_below _ _⟩

theorem implBlendOf_none (m : Int) (h : m < 1 ∨ 5 < m) (w : World) :
    Calls Tryz.prog 73 #[.int .i64 m] w fun e w' => e = .returned (.tuple #[.nilFunc, .bool false]) ∧ w' = w := by
  have EM := hide (implModeOk_any m)
  rw [show inB m 1 5 = false by unfold inB; simp; omega] at EM
  clear h
  go_enter Tryz.func73, Tryz.ntmps73
  go_wp2_with fail
  go_fit (unhide EM _)
  rintro e w1 ⟨rfl, hw⟩
  rw [hw]
  clear hw w1
  go_wp2_with fail
  exact bodyPost_ret (v := .tuple #[.nilFunc, .bool false]) (by simp [results, Tryz.results73, go_sem]) rfl ⟨rfl, rfl⟩

theorem blend_not {m : Int} (hm : m < 1 ∨ 5 < m) {s d : B4} : blendC m s d = d := by
  unfold blendC
  split
  · rename_i h
    have hd := laidOk_iff.1 h.2
    unfold blendI outI
    rw [if_neg (by omega), if_neg (by omega), if_neg (by omega), if_neg (by omega), if_neg (by omega), if_neg (by omega), if_neg (by omega), if_neg (by omega), if_neg (by omega), if_neg (by omega), if_neg (by omega), if_neg (by omega), if_neg (by omega), if_neg (by omega), if_neg (by omega), if_neg (by omega), if_neg (by omega), if_neg (by omega), if_neg (by omega), if_neg (by omega), cap_id (by omega), cap_id (by omega), cap_id (by omega), cap_id (by omega)]
  · rfl

set_option maxHeartbeats 8000000 in
set_option maxRecDepth 100000 in
theorem implBlend_none (m : Int) (hm : m < 1 ∨ 5 < m) (r g b a r2 g2 b2' a2 : Int) (w : World) :
    Calls Tryz.prog 32 #[.int .i64 m, .agg #[.int .i64 r, .int .i64 g, .int .i64 b, .int .i64 a], .agg #[.int .i64 r2, .int .i64 g2, .int .i64 b2', .int .i64 a2]] w fun e w' => e = .returned (.agg #[.int .i64 ((blendC m ⟨r, g, b, a⟩ ⟨r2, g2, b2', a2⟩).x0), .int .i64 ((blendC m ⟨r, g, b, a⟩ ⟨r2, g2, b2', a2⟩).y0), .int .i64 ((blendC m ⟨r, g, b, a⟩ ⟨r2, g2, b2', a2⟩).x1), .int .i64 ((blendC m ⟨r, g, b, a⟩ ⟨r2, g2, b2', a2⟩).y1)]) ∧ Below w.heap.size w w' := by
  have EO := hide (implBlendOf_none m hm)
  have hC : Hid (blendC m ⟨r, g, b, a⟩ ⟨r2, g2, b2', a2⟩ = ⟨r2, g2, b2', a2⟩) := blend_not hm
  generalize blendC m ⟨r, g, b, a⟩ ⟨r2, g2, b2', a2⟩ = C at hC ⊢
  go_enter Tryz.func32, Tryz.ntmps32
  go_upto_region 1 with fail
  have R1 := hide (al3_0 w (.cells #[.int .i64 r, .int .i64 g, .int .i64 b, .int .i64 a] 36) (.cells #[.int .i64 r2, .int .i64 g2, .int .i64 b2', .int .i64 a2] 36) (.cells #[.int .i64 0, .int .i64 0, .int .i64 0, .int .i64 0] 36))
  have R2 := hide (al3_1 w (.cells #[.int .i64 r, .int .i64 g, .int .i64 b, .int .i64 a] 36) (.cells #[.int .i64 r2, .int .i64 g2, .int .i64 b2', .int .i64 a2] 36) (.cells #[.int .i64 0, .int .i64 0, .int .i64 0, .int .i64 0] 36))
  have R3 := hide (al3_2 w (.cells #[.int .i64 r, .int .i64 g, .int .i64 b, .int .i64 a] 36) (.cells #[.int .i64 r2, .int .i64 g2, .int .i64 b2', .int .i64 a2] 36) (.cells #[.int .i64 0, .int .i64 0, .int .i64 0, .int .i64 0] 36))
  have HB := hide (al3_below w (.cells #[.int .i64 r, .int .i64 g, .int .i64 b, .int .i64 a] 36) (.cells #[.int .i64 r2, .int .i64 g2, .int .i64 b2', .int .i64 a2] 36) (.cells #[.int .i64 0, .int .i64 0, .int .i64 0, .int .i64 0] 36))
  obtain ⟨b3, hb3⟩ : ∃ b, Hid (b = w.heap.size + 1 + 1) := ⟨_, rfl⟩
  obtain ⟨b2, hb2⟩ : ∃ b, Hid (b = w.heap.size + 1) := ⟨_, rfl⟩
  obtain ⟨b1, hb1⟩ : ∃ b, Hid (b = w.heap.size) := ⟨_, rfl⟩
  have lz : Hid (w.heap.size ≤ b3 ∧ b1 < b3 ∧ b2 < b3) := by unfold Hid; rw [unhide hb3, unhide hb2, unhide hb1]; omega
  rw [← unhide hb3] at R3
  rw [← unhide hb2] at R2
  rw [← unhide hb1] at R1
  rw [← unhide hb3, ← unhide hb2, ← unhide hb1]
  generalize ((w.alloc (.cells #[.int .i64 r, .int .i64 g, .int .i64 b, .int .i64 a] 36)).alloc (.cells #[.int .i64 r2, .int .i64 g2, .int .i64 b2', .int .i64 a2] 36)).alloc (.cells #[.int .i64 0, .int .i64 0, .int .i64 0, .int .i64 0] 36) = W at R1 R2 R3 HB ⊢
  clear hb3 hb2 hb1
  go_wp2_with fail
  go_fit (unhide EO _)
  rintro e w1 ⟨rfl, rfl⟩
  go_upto_region 2 with fail
  have R4 := hide (new_row w1 (.cells #[.nilFunc] 105))
  replace R1 := hide (old_row (.cells #[.nilFunc] 105) (unhide R1))
  replace R2 := hide (old_row (.cells #[.nilFunc] 105) (unhide R2))
  replace R3 := hide (old_row (.cells #[.nilFunc] 105) (unhide R3))
  replace HB := hide (below_two (unhide HB) (al1_below _ (.cells #[.nilFunc] 105)))
  obtain ⟨b4, hb4⟩ : ∃ b, Hid (b = w1.heap.size) := ⟨_, rfl⟩
  rw [← unhide hb4] at R4
  rw [← unhide hb4]
  generalize w1.alloc (.cells #[.nilFunc] 105) = V at R1 R2 R3 R4 HB ⊢
  clear hb4
  obtain ⟨q0, q1, q2, q3⟩ := row4 (unhide R1)
  obtain ⟨d0, d1, d2, d3⟩ := row4 (unhide R2)
  obtain ⟨e0, e1, e2, e3⟩ := row4 (unhide R3)
  obtain ⟨f0, f1, f2, f3⟩ := free4 (unhide R3)
  go_wp2_with fail
  refine bodyPost_ret (v := .agg #[.int .i64 r2, .int .i64 g2, .int .i64 b2', .int .i64 a2]) (by simp [results, Tryz.results32, go_sem, e0, e1, e2, e3]) rfl ⟨by rw [unhide hC], ?_⟩
  exact below_put4 (unhide HB) (unhide lz).1 _ _ _ _

end Go.Proofs.YtngnleoggblinaaGreat

/-
  The program's Blend. (By blendi.py.)
-/
namespace Go.Proofs.YtngnleoggblinaaGreat
open Go.RowKit
set_option linter.unusedVariables false

set_option maxHeartbeats 8000000 in
set_option maxRecDepth 100000 in
theorem implBlend_over (r g b a r2 g2 b2' a2 : Int) (w : World) :
    Calls Tryz.prog 32 #[.int .i64 1, .agg #[.int .i64 r, .int .i64 g, .int .i64 b, .int .i64 a], .agg #[.int .i64 r2, .int .i64 g2, .int .i64 b2', .int .i64 a2]] w fun e w' => e = .returned (.agg #[.int .i64 ((blendC 1 ⟨r, g, b, a⟩ ⟨r2, g2, b2', a2⟩).x0), .int .i64 ((blendC 1 ⟨r, g, b, a⟩ ⟨r2, g2, b2', a2⟩).y0), .int .i64 ((blendC 1 ⟨r, g, b, a⟩ ⟨r2, g2, b2', a2⟩).x1), .int .i64 ((blendC 1 ⟨r, g, b, a⟩ ⟨r2, g2, b2', a2⟩).y1)]) ∧ Below w.heap.size w w' := by
  have EO := hide (implBlendOf_over)
  have ES := hide (implLaidOk_any r g b a)
  have ED := hide (implLaidOk_any r2 g2 b2' a2)
  have hH : Hid (blendC 1 ⟨r, g, b, a⟩ ⟨r2, g2, b2', a2⟩ = if laidOkB ⟨r, g, b, a⟩ = true ∧ laidOkB ⟨r2, g2, b2', a2⟩ = true then ⟨blendI 1 r r2 a a2, blendI 1 g g2 a a2, blendI 1 b b2' a a2, blendI 1 a a2 a a2⟩ else ⟨r2, g2, b2', a2⟩) := rfl
  have hok : Hid (laidOkB ⟨r, g, b, a⟩ = true → ((0 ≤ r ∧ r ≤ 255) ∧ (0 ≤ g ∧ g ≤ 255) ∧ (0 ≤ b ∧ b ≤ 255) ∧ (0 ≤ a ∧ a ≤ 255))) := fun h => by
    have h1 := laidOk_iff.1 h
    dsimp only at h1
    omega
  have hok2 : Hid (laidOkB ⟨r2, g2, b2', a2⟩ = true → ((0 ≤ r2 ∧ r2 ≤ 255) ∧ (0 ≤ g2 ∧ g2 ≤ 255) ∧ (0 ≤ b2' ∧ b2' ≤ 255) ∧ (0 ≤ a2 ∧ a2 ≤ 255))) := fun h => by
    have h1 := laidOk_iff.1 h
    dsimp only at h1
    omega
  generalize laidOkB ⟨r, g, b, a⟩ = X at ES hH hok
  generalize laidOkB ⟨r2, g2, b2', a2⟩ = Y at ED hH hok2
  generalize blendC 1 ⟨r, g, b, a⟩ ⟨r2, g2, b2', a2⟩ = C at hH ⊢
  go_enter Tryz.func32, Tryz.ntmps32
  go_upto_region 1 with fail
  have R1 := hide (al3_0 w (.cells #[.int .i64 r, .int .i64 g, .int .i64 b, .int .i64 a] 36) (.cells #[.int .i64 r2, .int .i64 g2, .int .i64 b2', .int .i64 a2] 36) (.cells #[.int .i64 0, .int .i64 0, .int .i64 0, .int .i64 0] 36))
  have R2 := hide (al3_1 w (.cells #[.int .i64 r, .int .i64 g, .int .i64 b, .int .i64 a] 36) (.cells #[.int .i64 r2, .int .i64 g2, .int .i64 b2', .int .i64 a2] 36) (.cells #[.int .i64 0, .int .i64 0, .int .i64 0, .int .i64 0] 36))
  have R3 := hide (al3_2 w (.cells #[.int .i64 r, .int .i64 g, .int .i64 b, .int .i64 a] 36) (.cells #[.int .i64 r2, .int .i64 g2, .int .i64 b2', .int .i64 a2] 36) (.cells #[.int .i64 0, .int .i64 0, .int .i64 0, .int .i64 0] 36))
  have HB := hide (al3_below w (.cells #[.int .i64 r, .int .i64 g, .int .i64 b, .int .i64 a] 36) (.cells #[.int .i64 r2, .int .i64 g2, .int .i64 b2', .int .i64 a2] 36) (.cells #[.int .i64 0, .int .i64 0, .int .i64 0, .int .i64 0] 36))
  obtain ⟨b3, hb3⟩ : ∃ b, Hid (b = w.heap.size + 1 + 1) := ⟨_, rfl⟩
  obtain ⟨b2, hb2⟩ : ∃ b, Hid (b = w.heap.size + 1) := ⟨_, rfl⟩
  obtain ⟨b1, hb1⟩ : ∃ b, Hid (b = w.heap.size) := ⟨_, rfl⟩
  have lz : Hid (w.heap.size ≤ b3 ∧ b1 < b3 ∧ b2 < b3) := by unfold Hid; rw [unhide hb3, unhide hb2, unhide hb1]; omega
  rw [← unhide hb3] at R3
  rw [← unhide hb2] at R2
  rw [← unhide hb1] at R1
  rw [← unhide hb3, ← unhide hb2, ← unhide hb1]
  generalize ((w.alloc (.cells #[.int .i64 r, .int .i64 g, .int .i64 b, .int .i64 a] 36)).alloc (.cells #[.int .i64 r2, .int .i64 g2, .int .i64 b2', .int .i64 a2] 36)).alloc (.cells #[.int .i64 0, .int .i64 0, .int .i64 0, .int .i64 0] 36) = W at R1 R2 R3 HB ⊢
  clear hb3 hb2 hb1
  go_wp2_with fail
  go_fit (unhide EO _)
  rintro e w1 ⟨rfl, hb⟩
  replace R1 := hide (row_next hb (unhide R1))
  replace R2 := hide (row_next hb (unhide R2))
  replace R3 := hide (row_next hb (unhide R3))
  replace HB := hide (below_two (unhide HB) hb)
  clear hb
  go_upto_region 2 with fail
  have R4 := hide (new_row w1 (.cells #[.func (.func 106) #[] #[]] 105))
  replace R1 := hide (old_row (.cells #[.func (.func 106) #[] #[]] 105) (unhide R1))
  replace R2 := hide (old_row (.cells #[.func (.func 106) #[] #[]] 105) (unhide R2))
  replace R3 := hide (old_row (.cells #[.func (.func 106) #[] #[]] 105) (unhide R3))
  replace HB := hide (below_two (unhide HB) (al1_below _ (.cells #[.func (.func 106) #[] #[]] 105)))
  obtain ⟨b4, hb4⟩ : ∃ b, Hid (b = w1.heap.size) := ⟨_, rfl⟩
  rw [← unhide hb4] at R4
  rw [← unhide hb4]
  generalize w1.alloc (.cells #[.func (.func 106) #[] #[]] 105) = V at R1 R2 R3 R4 HB ⊢
  clear hb4
  obtain ⟨q0, q1, q2, q3⟩ := row4 (unhide R1)
  obtain ⟨d0, d1, d2, d3⟩ := row4 (unhide R2)
  obtain ⟨e0, e1, e2, e3⟩ := row4 (unhide R3)
  obtain ⟨f0, f1, f2, f3⟩ := free4 (unhide R3)
  go_wp2_with fail
  go_fit (unhide ES _)
  rintro e w2 ⟨rfl, hb⟩
  replace R1 := hide (row_next hb (unhide R1))
  replace R2 := hide (row_next hb (unhide R2))
  replace R3 := hide (row_next hb (unhide R3))
  replace R4 := hide (row_next hb (unhide R4))
  replace HB := hide (below_two (unhide HB) hb)
  clear hb q0 q1 q2 q3 d0 d1 d2 d3 e0 e1 e2 e3 f0 f1 f2 f3
  obtain ⟨q0, q1, q2, q3⟩ := row4 (unhide R1)
  obtain ⟨d0, d1, d2, d3⟩ := row4 (unhide R2)
  obtain ⟨e0, e1, e2, e3⟩ := row4 (unhide R3)
  obtain ⟨f0, f1, f2, f3⟩ := free4 (unhide R3)
  cases X with
  | false =>
    have hC := hide (show C = ⟨r2, g2, b2', a2⟩ by rw [unhide hH]; exact if_neg (fun e => absurd e.1 (by decide)))
    go_wp2_with fail
    refine bodyPost_ret (v := .agg #[.int .i64 r2, .int .i64 g2, .int .i64 b2', .int .i64 a2]) (by simp [results, Tryz.results32, go_sem, e0, e1, e2, e3]) rfl ⟨by rw [unhide hC], ?_⟩
    exact below_put4 (unhide HB) (unhide lz).1 _ _ _ _
  | true =>
  go_wp2_with fail
  go_fit (unhide ED _)
  rintro e w3 ⟨rfl, hb⟩
  replace R1 := hide (row_next hb (unhide R1))
  replace R2 := hide (row_next hb (unhide R2))
  replace R3 := hide (row_next hb (unhide R3))
  replace R4 := hide (row_next hb (unhide R4))
  replace HB := hide (below_two (unhide HB) hb)
  clear hb q0 q1 q2 q3 d0 d1 d2 d3 e0 e1 e2 e3 f0 f1 f2 f3
  obtain ⟨q0, q1, q2, q3⟩ := row4 (unhide R1)
  obtain ⟨d0, d1, d2, d3⟩ := row4 (unhide R2)
  obtain ⟨e0, e1, e2, e3⟩ := row4 (unhide R3)
  obtain ⟨f0, f1, f2, f3⟩ := free4 (unhide R3)
  cases Y with
  | false =>
    have hC := hide (show C = ⟨r2, g2, b2', a2⟩ by rw [unhide hH]; exact if_neg (fun e => absurd e.2 (by decide)))
    go_wp2_with fail
    refine bodyPost_ret (v := .agg #[.int .i64 r2, .int .i64 g2, .int .i64 b2', .int .i64 a2]) (by simp [results, Tryz.results32, go_sem, e0, e1, e2, e3]) rfl ⟨by rw [unhide hC], ?_⟩
    exact below_put4 (unhide HB) (unhide lz).1 _ _ _ _
  | true =>
  have hC := hide (show C = ⟨blendI 1 r r2 a a2, blendI 1 g g2 a a2, blendI 1 b b2' a a2, blendI 1 a a2 a a2⟩ by rw [unhide hH]; exact if_pos ⟨by trivial, by trivial⟩)
  obtain ⟨s0, s1, s2, s3⟩ := unhide hok (by trivial)
  obtain ⟨t0, t1, t2, t3⟩ := unhide hok2 (by trivial)
  have EE := hide (fun p ps pd => implEachPart_blend p ps pd r g b a r2 g2 b2' a2 (blendI 1 r r2 a a2) (blendI 1 g g2 a a2) (blendI 1 b b2' a a2) (blendI 1 a a2 a a2) (fun u => MixAt u p ps pd (.func (.func 106) #[] #[]) r g b a r2 g2 b2' a2) (fun u u' j hb => j.next hb)
    (fun u j => implMix_over p ps pd r r2 r g b a r2 g2 b2' a2 s0 t0 s3 t3 u j) (fun u j => implMix_over p ps pd g g2 r g b a r2 g2 b2' a2 s1 t1 s3 t3 u j) (fun u j => implMix_over p ps pd b b2' r g b a r2 g2 b2' a2 s2 t2 s3 t3 u j) (fun u j => implMix_over p ps pd a a2 r g b a r2 g2 b2' a2 s3 t3 s3 t3 u j))
  generalize blendI 1 r r2 a a2 = m0 at EE hC
  generalize blendI 1 g g2 a a2 = m1 at EE hC
  generalize blendI 1 b b2' a a2 = m2 at EE hC
  generalize blendI 1 a a2 a a2 = m3 at EE hC
  clear s0 s1 s2 s3 t0 t1 t2 t3 hok hok2 hH ES ED EO
  go_wp2_with fail
  go_fit (unhide EE _ _ _ _ ⟨cell_lone (unhide R4), unhide R1, unhide R2⟩)
  rintro e w4 ⟨rfl, hb⟩
  replace R1 := hide (row_next hb (unhide R1))
  replace R2 := hide (row_next hb (unhide R2))
  replace R3 := hide (row_next hb (unhide R3))
  replace R4 := hide (row_next hb (unhide R4))
  replace HB := hide (below_two (unhide HB) hb)
  clear hb q0 q1 q2 q3 d0 d1 d2 d3 e0 e1 e2 e3 f0 f1 f2 f3
  obtain ⟨q0, q1, q2, q3⟩ := row4 (unhide R1)
  obtain ⟨d0, d1, d2, d3⟩ := row4 (unhide R2)
  obtain ⟨e0, e1, e2, e3⟩ := row4 (unhide R3)
  obtain ⟨f0, f1, f2, f3⟩ := free4 (unhide R3)
  go_wp2_with fail
  refine bodyPost_ret (v := .agg #[.int .i64 m0, .int .i64 m1, .int .i64 m2, .int .i64 m3]) (by simp [results, Tryz.results32, go_sem, e0, e1, e2, e3]) rfl ⟨by rw [unhide hC], ?_⟩
  exact below_put4 (unhide HB) (unhide lz).1 _ _ _ _

set_option maxHeartbeats 8000000 in
set_option maxRecDepth 100000 in
theorem implBlend_multiply (r g b a r2 g2 b2' a2 : Int) (w : World) :
    Calls Tryz.prog 32 #[.int .i64 2, .agg #[.int .i64 r, .int .i64 g, .int .i64 b, .int .i64 a], .agg #[.int .i64 r2, .int .i64 g2, .int .i64 b2', .int .i64 a2]] w fun e w' => e = .returned (.agg #[.int .i64 ((blendC 2 ⟨r, g, b, a⟩ ⟨r2, g2, b2', a2⟩).x0), .int .i64 ((blendC 2 ⟨r, g, b, a⟩ ⟨r2, g2, b2', a2⟩).y0), .int .i64 ((blendC 2 ⟨r, g, b, a⟩ ⟨r2, g2, b2', a2⟩).x1), .int .i64 ((blendC 2 ⟨r, g, b, a⟩ ⟨r2, g2, b2', a2⟩).y1)]) ∧ Below w.heap.size w w' := by
  have EO := hide (implBlendOf_multiply)
  have ES := hide (implLaidOk_any r g b a)
  have ED := hide (implLaidOk_any r2 g2 b2' a2)
  have hH : Hid (blendC 2 ⟨r, g, b, a⟩ ⟨r2, g2, b2', a2⟩ = if laidOkB ⟨r, g, b, a⟩ = true ∧ laidOkB ⟨r2, g2, b2', a2⟩ = true then ⟨blendI 2 r r2 a a2, blendI 2 g g2 a a2, blendI 2 b b2' a a2, blendI 2 a a2 a a2⟩ else ⟨r2, g2, b2', a2⟩) := rfl
  have hok : Hid (laidOkB ⟨r, g, b, a⟩ = true → ((0 ≤ r ∧ r ≤ 255) ∧ (0 ≤ g ∧ g ≤ 255) ∧ (0 ≤ b ∧ b ≤ 255) ∧ (0 ≤ a ∧ a ≤ 255))) := fun h => by
    have h1 := laidOk_iff.1 h
    dsimp only at h1
    omega
  have hok2 : Hid (laidOkB ⟨r2, g2, b2', a2⟩ = true → ((0 ≤ r2 ∧ r2 ≤ 255) ∧ (0 ≤ g2 ∧ g2 ≤ 255) ∧ (0 ≤ b2' ∧ b2' ≤ 255) ∧ (0 ≤ a2 ∧ a2 ≤ 255))) := fun h => by
    have h1 := laidOk_iff.1 h
    dsimp only at h1
    omega
  generalize laidOkB ⟨r, g, b, a⟩ = X at ES hH hok
  generalize laidOkB ⟨r2, g2, b2', a2⟩ = Y at ED hH hok2
  generalize blendC 2 ⟨r, g, b, a⟩ ⟨r2, g2, b2', a2⟩ = C at hH ⊢
  go_enter Tryz.func32, Tryz.ntmps32
  go_upto_region 1 with fail
  have R1 := hide (al3_0 w (.cells #[.int .i64 r, .int .i64 g, .int .i64 b, .int .i64 a] 36) (.cells #[.int .i64 r2, .int .i64 g2, .int .i64 b2', .int .i64 a2] 36) (.cells #[.int .i64 0, .int .i64 0, .int .i64 0, .int .i64 0] 36))
  have R2 := hide (al3_1 w (.cells #[.int .i64 r, .int .i64 g, .int .i64 b, .int .i64 a] 36) (.cells #[.int .i64 r2, .int .i64 g2, .int .i64 b2', .int .i64 a2] 36) (.cells #[.int .i64 0, .int .i64 0, .int .i64 0, .int .i64 0] 36))
  have R3 := hide (al3_2 w (.cells #[.int .i64 r, .int .i64 g, .int .i64 b, .int .i64 a] 36) (.cells #[.int .i64 r2, .int .i64 g2, .int .i64 b2', .int .i64 a2] 36) (.cells #[.int .i64 0, .int .i64 0, .int .i64 0, .int .i64 0] 36))
  have HB := hide (al3_below w (.cells #[.int .i64 r, .int .i64 g, .int .i64 b, .int .i64 a] 36) (.cells #[.int .i64 r2, .int .i64 g2, .int .i64 b2', .int .i64 a2] 36) (.cells #[.int .i64 0, .int .i64 0, .int .i64 0, .int .i64 0] 36))
  obtain ⟨b3, hb3⟩ : ∃ b, Hid (b = w.heap.size + 1 + 1) := ⟨_, rfl⟩
  obtain ⟨b2, hb2⟩ : ∃ b, Hid (b = w.heap.size + 1) := ⟨_, rfl⟩
  obtain ⟨b1, hb1⟩ : ∃ b, Hid (b = w.heap.size) := ⟨_, rfl⟩
  have lz : Hid (w.heap.size ≤ b3 ∧ b1 < b3 ∧ b2 < b3) := by unfold Hid; rw [unhide hb3, unhide hb2, unhide hb1]; omega
  rw [← unhide hb3] at R3
  rw [← unhide hb2] at R2
  rw [← unhide hb1] at R1
  rw [← unhide hb3, ← unhide hb2, ← unhide hb1]
  generalize ((w.alloc (.cells #[.int .i64 r, .int .i64 g, .int .i64 b, .int .i64 a] 36)).alloc (.cells #[.int .i64 r2, .int .i64 g2, .int .i64 b2', .int .i64 a2] 36)).alloc (.cells #[.int .i64 0, .int .i64 0, .int .i64 0, .int .i64 0] 36) = W at R1 R2 R3 HB ⊢
  clear hb3 hb2 hb1
  go_wp2_with fail
  go_fit (unhide EO _)
  rintro e w1 ⟨rfl, hb⟩
  replace R1 := hide (row_next hb (unhide R1))
  replace R2 := hide (row_next hb (unhide R2))
  replace R3 := hide (row_next hb (unhide R3))
  replace HB := hide (below_two (unhide HB) hb)
  clear hb
  go_upto_region 2 with fail
  have R4 := hide (new_row w1 (.cells #[.func (.func 107) #[] #[]] 105))
  replace R1 := hide (old_row (.cells #[.func (.func 107) #[] #[]] 105) (unhide R1))
  replace R2 := hide (old_row (.cells #[.func (.func 107) #[] #[]] 105) (unhide R2))
  replace R3 := hide (old_row (.cells #[.func (.func 107) #[] #[]] 105) (unhide R3))
  replace HB := hide (below_two (unhide HB) (al1_below _ (.cells #[.func (.func 107) #[] #[]] 105)))
  obtain ⟨b4, hb4⟩ : ∃ b, Hid (b = w1.heap.size) := ⟨_, rfl⟩
  rw [← unhide hb4] at R4
  rw [← unhide hb4]
  generalize w1.alloc (.cells #[.func (.func 107) #[] #[]] 105) = V at R1 R2 R3 R4 HB ⊢
  clear hb4
  obtain ⟨q0, q1, q2, q3⟩ := row4 (unhide R1)
  obtain ⟨d0, d1, d2, d3⟩ := row4 (unhide R2)
  obtain ⟨e0, e1, e2, e3⟩ := row4 (unhide R3)
  obtain ⟨f0, f1, f2, f3⟩ := free4 (unhide R3)
  go_wp2_with fail
  go_fit (unhide ES _)
  rintro e w2 ⟨rfl, hb⟩
  replace R1 := hide (row_next hb (unhide R1))
  replace R2 := hide (row_next hb (unhide R2))
  replace R3 := hide (row_next hb (unhide R3))
  replace R4 := hide (row_next hb (unhide R4))
  replace HB := hide (below_two (unhide HB) hb)
  clear hb q0 q1 q2 q3 d0 d1 d2 d3 e0 e1 e2 e3 f0 f1 f2 f3
  obtain ⟨q0, q1, q2, q3⟩ := row4 (unhide R1)
  obtain ⟨d0, d1, d2, d3⟩ := row4 (unhide R2)
  obtain ⟨e0, e1, e2, e3⟩ := row4 (unhide R3)
  obtain ⟨f0, f1, f2, f3⟩ := free4 (unhide R3)
  cases X with
  | false =>
    have hC := hide (show C = ⟨r2, g2, b2', a2⟩ by rw [unhide hH]; exact if_neg (fun e => absurd e.1 (by decide)))
    go_wp2_with fail
    refine bodyPost_ret (v := .agg #[.int .i64 r2, .int .i64 g2, .int .i64 b2', .int .i64 a2]) (by simp [results, Tryz.results32, go_sem, e0, e1, e2, e3]) rfl ⟨by rw [unhide hC], ?_⟩
    exact below_put4 (unhide HB) (unhide lz).1 _ _ _ _
  | true =>
  go_wp2_with fail
  go_fit (unhide ED _)
  rintro e w3 ⟨rfl, hb⟩
  replace R1 := hide (row_next hb (unhide R1))
  replace R2 := hide (row_next hb (unhide R2))
  replace R3 := hide (row_next hb (unhide R3))
  replace R4 := hide (row_next hb (unhide R4))
  replace HB := hide (below_two (unhide HB) hb)
  clear hb q0 q1 q2 q3 d0 d1 d2 d3 e0 e1 e2 e3 f0 f1 f2 f3
  obtain ⟨q0, q1, q2, q3⟩ := row4 (unhide R1)
  obtain ⟨d0, d1, d2, d3⟩ := row4 (unhide R2)
  obtain ⟨e0, e1, e2, e3⟩ := row4 (unhide R3)
  obtain ⟨f0, f1, f2, f3⟩ := free4 (unhide R3)
  cases Y with
  | false =>
    have hC := hide (show C = ⟨r2, g2, b2', a2⟩ by rw [unhide hH]; exact if_neg (fun e => absurd e.2 (by decide)))
    go_wp2_with fail
    refine bodyPost_ret (v := .agg #[.int .i64 r2, .int .i64 g2, .int .i64 b2', .int .i64 a2]) (by simp [results, Tryz.results32, go_sem, e0, e1, e2, e3]) rfl ⟨by rw [unhide hC], ?_⟩
    exact below_put4 (unhide HB) (unhide lz).1 _ _ _ _
  | true =>
  have hC := hide (show C = ⟨blendI 2 r r2 a a2, blendI 2 g g2 a a2, blendI 2 b b2' a a2, blendI 2 a a2 a a2⟩ by rw [unhide hH]; exact if_pos ⟨by trivial, by trivial⟩)
  obtain ⟨s0, s1, s2, s3⟩ := unhide hok (by trivial)
  obtain ⟨t0, t1, t2, t3⟩ := unhide hok2 (by trivial)
  have EE := hide (fun p ps pd => implEachPart_blend p ps pd r g b a r2 g2 b2' a2 (blendI 2 r r2 a a2) (blendI 2 g g2 a a2) (blendI 2 b b2' a a2) (blendI 2 a a2 a a2) (fun u => MixAt u p ps pd (.func (.func 107) #[] #[]) r g b a r2 g2 b2' a2) (fun u u' j hb => j.next hb)
    (fun u j => implMix_multiply p ps pd r r2 r g b a r2 g2 b2' a2 s0 t0 s3 t3 u j) (fun u j => implMix_multiply p ps pd g g2 r g b a r2 g2 b2' a2 s1 t1 s3 t3 u j) (fun u j => implMix_multiply p ps pd b b2' r g b a r2 g2 b2' a2 s2 t2 s3 t3 u j) (fun u j => implMix_multiply p ps pd a a2 r g b a r2 g2 b2' a2 s3 t3 s3 t3 u j))
  generalize blendI 2 r r2 a a2 = m0 at EE hC
  generalize blendI 2 g g2 a a2 = m1 at EE hC
  generalize blendI 2 b b2' a a2 = m2 at EE hC
  generalize blendI 2 a a2 a a2 = m3 at EE hC
  clear s0 s1 s2 s3 t0 t1 t2 t3 hok hok2 hH ES ED EO
  go_wp2_with fail
  go_fit (unhide EE _ _ _ _ ⟨cell_lone (unhide R4), unhide R1, unhide R2⟩)
  rintro e w4 ⟨rfl, hb⟩
  replace R1 := hide (row_next hb (unhide R1))
  replace R2 := hide (row_next hb (unhide R2))
  replace R3 := hide (row_next hb (unhide R3))
  replace R4 := hide (row_next hb (unhide R4))
  replace HB := hide (below_two (unhide HB) hb)
  clear hb q0 q1 q2 q3 d0 d1 d2 d3 e0 e1 e2 e3 f0 f1 f2 f3
  obtain ⟨q0, q1, q2, q3⟩ := row4 (unhide R1)
  obtain ⟨d0, d1, d2, d3⟩ := row4 (unhide R2)
  obtain ⟨e0, e1, e2, e3⟩ := row4 (unhide R3)
  obtain ⟨f0, f1, f2, f3⟩ := free4 (unhide R3)
  go_wp2_with fail
  refine bodyPost_ret (v := .agg #[.int .i64 m0, .int .i64 m1, .int .i64 m2, .int .i64 m3]) (by simp [results, Tryz.results32, go_sem, e0, e1, e2, e3]) rfl ⟨by rw [unhide hC], ?_⟩
  exact below_put4 (unhide HB) (unhide lz).1 _ _ _ _

set_option maxHeartbeats 8000000 in
set_option maxRecDepth 100000 in
theorem implBlend_screen (r g b a r2 g2 b2' a2 : Int) (w : World) :
    Calls Tryz.prog 32 #[.int .i64 3, .agg #[.int .i64 r, .int .i64 g, .int .i64 b, .int .i64 a], .agg #[.int .i64 r2, .int .i64 g2, .int .i64 b2', .int .i64 a2]] w fun e w' => e = .returned (.agg #[.int .i64 ((blendC 3 ⟨r, g, b, a⟩ ⟨r2, g2, b2', a2⟩).x0), .int .i64 ((blendC 3 ⟨r, g, b, a⟩ ⟨r2, g2, b2', a2⟩).y0), .int .i64 ((blendC 3 ⟨r, g, b, a⟩ ⟨r2, g2, b2', a2⟩).x1), .int .i64 ((blendC 3 ⟨r, g, b, a⟩ ⟨r2, g2, b2', a2⟩).y1)]) ∧ Below w.heap.size w w' := by
  have EO := hide (implBlendOf_screen)
  have ES := hide (implLaidOk_any r g b a)
  have ED := hide (implLaidOk_any r2 g2 b2' a2)
  have hH : Hid (blendC 3 ⟨r, g, b, a⟩ ⟨r2, g2, b2', a2⟩ = if laidOkB ⟨r, g, b, a⟩ = true ∧ laidOkB ⟨r2, g2, b2', a2⟩ = true then ⟨blendI 3 r r2 a a2, blendI 3 g g2 a a2, blendI 3 b b2' a a2, blendI 3 a a2 a a2⟩ else ⟨r2, g2, b2', a2⟩) := rfl
  have hok : Hid (laidOkB ⟨r, g, b, a⟩ = true → ((0 ≤ r ∧ r ≤ 255) ∧ (0 ≤ g ∧ g ≤ 255) ∧ (0 ≤ b ∧ b ≤ 255) ∧ (0 ≤ a ∧ a ≤ 255))) := fun h => by
    have h1 := laidOk_iff.1 h
    dsimp only at h1
    omega
  have hok2 : Hid (laidOkB ⟨r2, g2, b2', a2⟩ = true → ((0 ≤ r2 ∧ r2 ≤ 255) ∧ (0 ≤ g2 ∧ g2 ≤ 255) ∧ (0 ≤ b2' ∧ b2' ≤ 255) ∧ (0 ≤ a2 ∧ a2 ≤ 255))) := fun h => by
    have h1 := laidOk_iff.1 h
    dsimp only at h1
    omega
  generalize laidOkB ⟨r, g, b, a⟩ = X at ES hH hok
  generalize laidOkB ⟨r2, g2, b2', a2⟩ = Y at ED hH hok2
  generalize blendC 3 ⟨r, g, b, a⟩ ⟨r2, g2, b2', a2⟩ = C at hH ⊢
  go_enter Tryz.func32, Tryz.ntmps32
  go_upto_region 1 with fail
  have R1 := hide (al3_0 w (.cells #[.int .i64 r, .int .i64 g, .int .i64 b, .int .i64 a] 36) (.cells #[.int .i64 r2, .int .i64 g2, .int .i64 b2', .int .i64 a2] 36) (.cells #[.int .i64 0, .int .i64 0, .int .i64 0, .int .i64 0] 36))
  have R2 := hide (al3_1 w (.cells #[.int .i64 r, .int .i64 g, .int .i64 b, .int .i64 a] 36) (.cells #[.int .i64 r2, .int .i64 g2, .int .i64 b2', .int .i64 a2] 36) (.cells #[.int .i64 0, .int .i64 0, .int .i64 0, .int .i64 0] 36))
  have R3 := hide (al3_2 w (.cells #[.int .i64 r, .int .i64 g, .int .i64 b, .int .i64 a] 36) (.cells #[.int .i64 r2, .int .i64 g2, .int .i64 b2', .int .i64 a2] 36) (.cells #[.int .i64 0, .int .i64 0, .int .i64 0, .int .i64 0] 36))
  have HB := hide (al3_below w (.cells #[.int .i64 r, .int .i64 g, .int .i64 b, .int .i64 a] 36) (.cells #[.int .i64 r2, .int .i64 g2, .int .i64 b2', .int .i64 a2] 36) (.cells #[.int .i64 0, .int .i64 0, .int .i64 0, .int .i64 0] 36))
  obtain ⟨b3, hb3⟩ : ∃ b, Hid (b = w.heap.size + 1 + 1) := ⟨_, rfl⟩
  obtain ⟨b2, hb2⟩ : ∃ b, Hid (b = w.heap.size + 1) := ⟨_, rfl⟩
  obtain ⟨b1, hb1⟩ : ∃ b, Hid (b = w.heap.size) := ⟨_, rfl⟩
  have lz : Hid (w.heap.size ≤ b3 ∧ b1 < b3 ∧ b2 < b3) := by unfold Hid; rw [unhide hb3, unhide hb2, unhide hb1]; omega
  rw [← unhide hb3] at R3
  rw [← unhide hb2] at R2
  rw [← unhide hb1] at R1
  rw [← unhide hb3, ← unhide hb2, ← unhide hb1]
  generalize ((w.alloc (.cells #[.int .i64 r, .int .i64 g, .int .i64 b, .int .i64 a] 36)).alloc (.cells #[.int .i64 r2, .int .i64 g2, .int .i64 b2', .int .i64 a2] 36)).alloc (.cells #[.int .i64 0, .int .i64 0, .int .i64 0, .int .i64 0] 36) = W at R1 R2 R3 HB ⊢
  clear hb3 hb2 hb1
  go_wp2_with fail
  go_fit (unhide EO _)
  rintro e w1 ⟨rfl, hb⟩
  replace R1 := hide (row_next hb (unhide R1))
  replace R2 := hide (row_next hb (unhide R2))
  replace R3 := hide (row_next hb (unhide R3))
  replace HB := hide (below_two (unhide HB) hb)
  clear hb
  go_upto_region 2 with fail
  have R4 := hide (new_row w1 (.cells #[.func (.func 108) #[] #[]] 105))
  replace R1 := hide (old_row (.cells #[.func (.func 108) #[] #[]] 105) (unhide R1))
  replace R2 := hide (old_row (.cells #[.func (.func 108) #[] #[]] 105) (unhide R2))
  replace R3 := hide (old_row (.cells #[.func (.func 108) #[] #[]] 105) (unhide R3))
  replace HB := hide (below_two (unhide HB) (al1_below _ (.cells #[.func (.func 108) #[] #[]] 105)))
  obtain ⟨b4, hb4⟩ : ∃ b, Hid (b = w1.heap.size) := ⟨_, rfl⟩
  rw [← unhide hb4] at R4
  rw [← unhide hb4]
  generalize w1.alloc (.cells #[.func (.func 108) #[] #[]] 105) = V at R1 R2 R3 R4 HB ⊢
  clear hb4
  obtain ⟨q0, q1, q2, q3⟩ := row4 (unhide R1)
  obtain ⟨d0, d1, d2, d3⟩ := row4 (unhide R2)
  obtain ⟨e0, e1, e2, e3⟩ := row4 (unhide R3)
  obtain ⟨f0, f1, f2, f3⟩ := free4 (unhide R3)
  go_wp2_with fail
  go_fit (unhide ES _)
  rintro e w2 ⟨rfl, hb⟩
  replace R1 := hide (row_next hb (unhide R1))
  replace R2 := hide (row_next hb (unhide R2))
  replace R3 := hide (row_next hb (unhide R3))
  replace R4 := hide (row_next hb (unhide R4))
  replace HB := hide (below_two (unhide HB) hb)
  clear hb q0 q1 q2 q3 d0 d1 d2 d3 e0 e1 e2 e3 f0 f1 f2 f3
  obtain ⟨q0, q1, q2, q3⟩ := row4 (unhide R1)
  obtain ⟨d0, d1, d2, d3⟩ := row4 (unhide R2)
  obtain ⟨e0, e1, e2, e3⟩ := row4 (unhide R3)
  obtain ⟨f0, f1, f2, f3⟩ := free4 (unhide R3)
  cases X with
  | false =>
    have hC := hide (show C = ⟨r2, g2, b2', a2⟩ by rw [unhide hH]; exact if_neg (fun e => absurd e.1 (by decide)))
    go_wp2_with fail
    refine bodyPost_ret (v := .agg #[.int .i64 r2, .int .i64 g2, .int .i64 b2', .int .i64 a2]) (by simp [results, Tryz.results32, go_sem, e0, e1, e2, e3]) rfl ⟨by rw [unhide hC], ?_⟩
    exact below_put4 (unhide HB) (unhide lz).1 _ _ _ _
  | true =>
  go_wp2_with fail
  go_fit (unhide ED _)
  rintro e w3 ⟨rfl, hb⟩
  replace R1 := hide (row_next hb (unhide R1))
  replace R2 := hide (row_next hb (unhide R2))
  replace R3 := hide (row_next hb (unhide R3))
  replace R4 := hide (row_next hb (unhide R4))
  replace HB := hide (below_two (unhide HB) hb)
  clear hb q0 q1 q2 q3 d0 d1 d2 d3 e0 e1 e2 e3 f0 f1 f2 f3
  obtain ⟨q0, q1, q2, q3⟩ := row4 (unhide R1)
  obtain ⟨d0, d1, d2, d3⟩ := row4 (unhide R2)
  obtain ⟨e0, e1, e2, e3⟩ := row4 (unhide R3)
  obtain ⟨f0, f1, f2, f3⟩ := free4 (unhide R3)
  cases Y with
  | false =>
    have hC := hide (show C = ⟨r2, g2, b2', a2⟩ by rw [unhide hH]; exact if_neg (fun e => absurd e.2 (by decide)))
    go_wp2_with fail
    refine bodyPost_ret (v := .agg #[.int .i64 r2, .int .i64 g2, .int .i64 b2', .int .i64 a2]) (by simp [results, Tryz.results32, go_sem, e0, e1, e2, e3]) rfl ⟨by rw [unhide hC], ?_⟩
    exact below_put4 (unhide HB) (unhide lz).1 _ _ _ _
  | true =>
  have hC := hide (show C = ⟨blendI 3 r r2 a a2, blendI 3 g g2 a a2, blendI 3 b b2' a a2, blendI 3 a a2 a a2⟩ by rw [unhide hH]; exact if_pos ⟨by trivial, by trivial⟩)
  obtain ⟨s0, s1, s2, s3⟩ := unhide hok (by trivial)
  obtain ⟨t0, t1, t2, t3⟩ := unhide hok2 (by trivial)
  have EE := hide (fun p ps pd => implEachPart_blend p ps pd r g b a r2 g2 b2' a2 (blendI 3 r r2 a a2) (blendI 3 g g2 a a2) (blendI 3 b b2' a a2) (blendI 3 a a2 a a2) (fun u => MixAt u p ps pd (.func (.func 108) #[] #[]) r g b a r2 g2 b2' a2) (fun u u' j hb => j.next hb)
    (fun u j => implMix_screen p ps pd r r2 r g b a r2 g2 b2' a2 s0 t0 s3 t3 u j) (fun u j => implMix_screen p ps pd g g2 r g b a r2 g2 b2' a2 s1 t1 s3 t3 u j) (fun u j => implMix_screen p ps pd b b2' r g b a r2 g2 b2' a2 s2 t2 s3 t3 u j) (fun u j => implMix_screen p ps pd a a2 r g b a r2 g2 b2' a2 s3 t3 s3 t3 u j))
  generalize blendI 3 r r2 a a2 = m0 at EE hC
  generalize blendI 3 g g2 a a2 = m1 at EE hC
  generalize blendI 3 b b2' a a2 = m2 at EE hC
  generalize blendI 3 a a2 a a2 = m3 at EE hC
  clear s0 s1 s2 s3 t0 t1 t2 t3 hok hok2 hH ES ED EO
  go_wp2_with fail
  go_fit (unhide EE _ _ _ _ ⟨cell_lone (unhide R4), unhide R1, unhide R2⟩)
  rintro e w4 ⟨rfl, hb⟩
  replace R1 := hide (row_next hb (unhide R1))
  replace R2 := hide (row_next hb (unhide R2))
  replace R3 := hide (row_next hb (unhide R3))
  replace R4 := hide (row_next hb (unhide R4))
  replace HB := hide (below_two (unhide HB) hb)
  clear hb q0 q1 q2 q3 d0 d1 d2 d3 e0 e1 e2 e3 f0 f1 f2 f3
  obtain ⟨q0, q1, q2, q3⟩ := row4 (unhide R1)
  obtain ⟨d0, d1, d2, d3⟩ := row4 (unhide R2)
  obtain ⟨e0, e1, e2, e3⟩ := row4 (unhide R3)
  obtain ⟨f0, f1, f2, f3⟩ := free4 (unhide R3)
  go_wp2_with fail
  refine bodyPost_ret (v := .agg #[.int .i64 m0, .int .i64 m1, .int .i64 m2, .int .i64 m3]) (by simp [results, Tryz.results32, go_sem, e0, e1, e2, e3]) rfl ⟨by rw [unhide hC], ?_⟩
  exact below_put4 (unhide HB) (unhide lz).1 _ _ _ _

set_option maxHeartbeats 8000000 in
set_option maxRecDepth 100000 in
theorem implBlend_plus (r g b a r2 g2 b2' a2 : Int) (w : World) :
    Calls Tryz.prog 32 #[.int .i64 4, .agg #[.int .i64 r, .int .i64 g, .int .i64 b, .int .i64 a], .agg #[.int .i64 r2, .int .i64 g2, .int .i64 b2', .int .i64 a2]] w fun e w' => e = .returned (.agg #[.int .i64 ((blendC 4 ⟨r, g, b, a⟩ ⟨r2, g2, b2', a2⟩).x0), .int .i64 ((blendC 4 ⟨r, g, b, a⟩ ⟨r2, g2, b2', a2⟩).y0), .int .i64 ((blendC 4 ⟨r, g, b, a⟩ ⟨r2, g2, b2', a2⟩).x1), .int .i64 ((blendC 4 ⟨r, g, b, a⟩ ⟨r2, g2, b2', a2⟩).y1)]) ∧ Below w.heap.size w w' := by
  have EO := hide (implBlendOf_plus)
  have ES := hide (implLaidOk_any r g b a)
  have ED := hide (implLaidOk_any r2 g2 b2' a2)
  have hH : Hid (blendC 4 ⟨r, g, b, a⟩ ⟨r2, g2, b2', a2⟩ = if laidOkB ⟨r, g, b, a⟩ = true ∧ laidOkB ⟨r2, g2, b2', a2⟩ = true then ⟨blendI 4 r r2 a a2, blendI 4 g g2 a a2, blendI 4 b b2' a a2, blendI 4 a a2 a a2⟩ else ⟨r2, g2, b2', a2⟩) := rfl
  have hok : Hid (laidOkB ⟨r, g, b, a⟩ = true → ((0 ≤ r ∧ r ≤ 255) ∧ (0 ≤ g ∧ g ≤ 255) ∧ (0 ≤ b ∧ b ≤ 255) ∧ (0 ≤ a ∧ a ≤ 255))) := fun h => by
    have h1 := laidOk_iff.1 h
    dsimp only at h1
    omega
  have hok2 : Hid (laidOkB ⟨r2, g2, b2', a2⟩ = true → ((0 ≤ r2 ∧ r2 ≤ 255) ∧ (0 ≤ g2 ∧ g2 ≤ 255) ∧ (0 ≤ b2' ∧ b2' ≤ 255) ∧ (0 ≤ a2 ∧ a2 ≤ 255))) := fun h => by
    have h1 := laidOk_iff.1 h
    dsimp only at h1
    omega
  generalize laidOkB ⟨r, g, b, a⟩ = X at ES hH hok
  generalize laidOkB ⟨r2, g2, b2', a2⟩ = Y at ED hH hok2
  generalize blendC 4 ⟨r, g, b, a⟩ ⟨r2, g2, b2', a2⟩ = C at hH ⊢
  go_enter Tryz.func32, Tryz.ntmps32
  go_upto_region 1 with fail
  have R1 := hide (al3_0 w (.cells #[.int .i64 r, .int .i64 g, .int .i64 b, .int .i64 a] 36) (.cells #[.int .i64 r2, .int .i64 g2, .int .i64 b2', .int .i64 a2] 36) (.cells #[.int .i64 0, .int .i64 0, .int .i64 0, .int .i64 0] 36))
  have R2 := hide (al3_1 w (.cells #[.int .i64 r, .int .i64 g, .int .i64 b, .int .i64 a] 36) (.cells #[.int .i64 r2, .int .i64 g2, .int .i64 b2', .int .i64 a2] 36) (.cells #[.int .i64 0, .int .i64 0, .int .i64 0, .int .i64 0] 36))
  have R3 := hide (al3_2 w (.cells #[.int .i64 r, .int .i64 g, .int .i64 b, .int .i64 a] 36) (.cells #[.int .i64 r2, .int .i64 g2, .int .i64 b2', .int .i64 a2] 36) (.cells #[.int .i64 0, .int .i64 0, .int .i64 0, .int .i64 0] 36))
  have HB := hide (al3_below w (.cells #[.int .i64 r, .int .i64 g, .int .i64 b, .int .i64 a] 36) (.cells #[.int .i64 r2, .int .i64 g2, .int .i64 b2', .int .i64 a2] 36) (.cells #[.int .i64 0, .int .i64 0, .int .i64 0, .int .i64 0] 36))
  obtain ⟨b3, hb3⟩ : ∃ b, Hid (b = w.heap.size + 1 + 1) := ⟨_, rfl⟩
  obtain ⟨b2, hb2⟩ : ∃ b, Hid (b = w.heap.size + 1) := ⟨_, rfl⟩
  obtain ⟨b1, hb1⟩ : ∃ b, Hid (b = w.heap.size) := ⟨_, rfl⟩
  have lz : Hid (w.heap.size ≤ b3 ∧ b1 < b3 ∧ b2 < b3) := by unfold Hid; rw [unhide hb3, unhide hb2, unhide hb1]; omega
  rw [← unhide hb3] at R3
  rw [← unhide hb2] at R2
  rw [← unhide hb1] at R1
  rw [← unhide hb3, ← unhide hb2, ← unhide hb1]
  generalize ((w.alloc (.cells #[.int .i64 r, .int .i64 g, .int .i64 b, .int .i64 a] 36)).alloc (.cells #[.int .i64 r2, .int .i64 g2, .int .i64 b2', .int .i64 a2] 36)).alloc (.cells #[.int .i64 0, .int .i64 0, .int .i64 0, .int .i64 0] 36) = W at R1 R2 R3 HB ⊢
  clear hb3 hb2 hb1
  go_wp2_with fail
  go_fit (unhide EO _)
  rintro e w1 ⟨rfl, hb⟩
  replace R1 := hide (row_next hb (unhide R1))
  replace R2 := hide (row_next hb (unhide R2))
  replace R3 := hide (row_next hb (unhide R3))
  replace HB := hide (below_two (unhide HB) hb)
  clear hb
  go_upto_region 2 with fail
  have R4 := hide (new_row w1 (.cells #[.func (.func 109) #[] #[]] 105))
  replace R1 := hide (old_row (.cells #[.func (.func 109) #[] #[]] 105) (unhide R1))
  replace R2 := hide (old_row (.cells #[.func (.func 109) #[] #[]] 105) (unhide R2))
  replace R3 := hide (old_row (.cells #[.func (.func 109) #[] #[]] 105) (unhide R3))
  replace HB := hide (below_two (unhide HB) (al1_below _ (.cells #[.func (.func 109) #[] #[]] 105)))
  obtain ⟨b4, hb4⟩ : ∃ b, Hid (b = w1.heap.size) := ⟨_, rfl⟩
  rw [← unhide hb4] at R4
  rw [← unhide hb4]
  generalize w1.alloc (.cells #[.func (.func 109) #[] #[]] 105) = V at R1 R2 R3 R4 HB ⊢
  clear hb4
  obtain ⟨q0, q1, q2, q3⟩ := row4 (unhide R1)
  obtain ⟨d0, d1, d2, d3⟩ := row4 (unhide R2)
  obtain ⟨e0, e1, e2, e3⟩ := row4 (unhide R3)
  obtain ⟨f0, f1, f2, f3⟩ := free4 (unhide R3)
  go_wp2_with fail
  go_fit (unhide ES _)
  rintro e w2 ⟨rfl, hb⟩
  replace R1 := hide (row_next hb (unhide R1))
  replace R2 := hide (row_next hb (unhide R2))
  replace R3 := hide (row_next hb (unhide R3))
  replace R4 := hide (row_next hb (unhide R4))
  replace HB := hide (below_two (unhide HB) hb)
  clear hb q0 q1 q2 q3 d0 d1 d2 d3 e0 e1 e2 e3 f0 f1 f2 f3
  obtain ⟨q0, q1, q2, q3⟩ := row4 (unhide R1)
  obtain ⟨d0, d1, d2, d3⟩ := row4 (unhide R2)
  obtain ⟨e0, e1, e2, e3⟩ := row4 (unhide R3)
  obtain ⟨f0, f1, f2, f3⟩ := free4 (unhide R3)
  cases X with
  | false =>
    have hC := hide (show C = ⟨r2, g2, b2', a2⟩ by rw [unhide hH]; exact if_neg (fun e => absurd e.1 (by decide)))
    go_wp2_with fail
    refine bodyPost_ret (v := .agg #[.int .i64 r2, .int .i64 g2, .int .i64 b2', .int .i64 a2]) (by simp [results, Tryz.results32, go_sem, e0, e1, e2, e3]) rfl ⟨by rw [unhide hC], ?_⟩
    exact below_put4 (unhide HB) (unhide lz).1 _ _ _ _
  | true =>
  go_wp2_with fail
  go_fit (unhide ED _)
  rintro e w3 ⟨rfl, hb⟩
  replace R1 := hide (row_next hb (unhide R1))
  replace R2 := hide (row_next hb (unhide R2))
  replace R3 := hide (row_next hb (unhide R3))
  replace R4 := hide (row_next hb (unhide R4))
  replace HB := hide (below_two (unhide HB) hb)
  clear hb q0 q1 q2 q3 d0 d1 d2 d3 e0 e1 e2 e3 f0 f1 f2 f3
  obtain ⟨q0, q1, q2, q3⟩ := row4 (unhide R1)
  obtain ⟨d0, d1, d2, d3⟩ := row4 (unhide R2)
  obtain ⟨e0, e1, e2, e3⟩ := row4 (unhide R3)
  obtain ⟨f0, f1, f2, f3⟩ := free4 (unhide R3)
  cases Y with
  | false =>
    have hC := hide (show C = ⟨r2, g2, b2', a2⟩ by rw [unhide hH]; exact if_neg (fun e => absurd e.2 (by decide)))
    go_wp2_with fail
    refine bodyPost_ret (v := .agg #[.int .i64 r2, .int .i64 g2, .int .i64 b2', .int .i64 a2]) (by simp [results, Tryz.results32, go_sem, e0, e1, e2, e3]) rfl ⟨by rw [unhide hC], ?_⟩
    exact below_put4 (unhide HB) (unhide lz).1 _ _ _ _
  | true =>
  have hC := hide (show C = ⟨blendI 4 r r2 a a2, blendI 4 g g2 a a2, blendI 4 b b2' a a2, blendI 4 a a2 a a2⟩ by rw [unhide hH]; exact if_pos ⟨by trivial, by trivial⟩)
  obtain ⟨s0, s1, s2, s3⟩ := unhide hok (by trivial)
  obtain ⟨t0, t1, t2, t3⟩ := unhide hok2 (by trivial)
  have EE := hide (fun p ps pd => implEachPart_blend p ps pd r g b a r2 g2 b2' a2 (blendI 4 r r2 a a2) (blendI 4 g g2 a a2) (blendI 4 b b2' a a2) (blendI 4 a a2 a a2) (fun u => MixAt u p ps pd (.func (.func 109) #[] #[]) r g b a r2 g2 b2' a2) (fun u u' j hb => j.next hb)
    (fun u j => implMix_plus p ps pd r r2 r g b a r2 g2 b2' a2 s0 t0 s3 t3 u j) (fun u j => implMix_plus p ps pd g g2 r g b a r2 g2 b2' a2 s1 t1 s3 t3 u j) (fun u j => implMix_plus p ps pd b b2' r g b a r2 g2 b2' a2 s2 t2 s3 t3 u j) (fun u j => implMix_plus p ps pd a a2 r g b a r2 g2 b2' a2 s3 t3 s3 t3 u j))
  generalize blendI 4 r r2 a a2 = m0 at EE hC
  generalize blendI 4 g g2 a a2 = m1 at EE hC
  generalize blendI 4 b b2' a a2 = m2 at EE hC
  generalize blendI 4 a a2 a a2 = m3 at EE hC
  clear s0 s1 s2 s3 t0 t1 t2 t3 hok hok2 hH ES ED EO
  go_wp2_with fail
  go_fit (unhide EE _ _ _ _ ⟨cell_lone (unhide R4), unhide R1, unhide R2⟩)
  rintro e w4 ⟨rfl, hb⟩
  replace R1 := hide (row_next hb (unhide R1))
  replace R2 := hide (row_next hb (unhide R2))
  replace R3 := hide (row_next hb (unhide R3))
  replace R4 := hide (row_next hb (unhide R4))
  replace HB := hide (below_two (unhide HB) hb)
  clear hb q0 q1 q2 q3 d0 d1 d2 d3 e0 e1 e2 e3 f0 f1 f2 f3
  obtain ⟨q0, q1, q2, q3⟩ := row4 (unhide R1)
  obtain ⟨d0, d1, d2, d3⟩ := row4 (unhide R2)
  obtain ⟨e0, e1, e2, e3⟩ := row4 (unhide R3)
  obtain ⟨f0, f1, f2, f3⟩ := free4 (unhide R3)
  go_wp2_with fail
  refine bodyPost_ret (v := .agg #[.int .i64 m0, .int .i64 m1, .int .i64 m2, .int .i64 m3]) (by simp [results, Tryz.results32, go_sem, e0, e1, e2, e3]) rfl ⟨by rw [unhide hC], ?_⟩
  exact below_put4 (unhide HB) (unhide lz).1 _ _ _ _

set_option maxHeartbeats 8000000 in
set_option maxRecDepth 100000 in
theorem implBlend_out (r g b a r2 g2 b2' a2 : Int) (w : World) :
    Calls Tryz.prog 32 #[.int .i64 5, .agg #[.int .i64 r, .int .i64 g, .int .i64 b, .int .i64 a], .agg #[.int .i64 r2, .int .i64 g2, .int .i64 b2', .int .i64 a2]] w fun e w' => e = .returned (.agg #[.int .i64 ((blendC 5 ⟨r, g, b, a⟩ ⟨r2, g2, b2', a2⟩).x0), .int .i64 ((blendC 5 ⟨r, g, b, a⟩ ⟨r2, g2, b2', a2⟩).y0), .int .i64 ((blendC 5 ⟨r, g, b, a⟩ ⟨r2, g2, b2', a2⟩).x1), .int .i64 ((blendC 5 ⟨r, g, b, a⟩ ⟨r2, g2, b2', a2⟩).y1)]) ∧ Below w.heap.size w w' := by
  have EO := hide (implBlendOf_out)
  have ES := hide (implLaidOk_any r g b a)
  have ED := hide (implLaidOk_any r2 g2 b2' a2)
  have hH : Hid (blendC 5 ⟨r, g, b, a⟩ ⟨r2, g2, b2', a2⟩ = if laidOkB ⟨r, g, b, a⟩ = true ∧ laidOkB ⟨r2, g2, b2', a2⟩ = true then ⟨blendI 5 r r2 a a2, blendI 5 g g2 a a2, blendI 5 b b2' a a2, blendI 5 a a2 a a2⟩ else ⟨r2, g2, b2', a2⟩) := rfl
  have hok : Hid (laidOkB ⟨r, g, b, a⟩ = true → ((0 ≤ r ∧ r ≤ 255) ∧ (0 ≤ g ∧ g ≤ 255) ∧ (0 ≤ b ∧ b ≤ 255) ∧ (0 ≤ a ∧ a ≤ 255))) := fun h => by
    have h1 := laidOk_iff.1 h
    dsimp only at h1
    omega
  have hok2 : Hid (laidOkB ⟨r2, g2, b2', a2⟩ = true → ((0 ≤ r2 ∧ r2 ≤ 255) ∧ (0 ≤ g2 ∧ g2 ≤ 255) ∧ (0 ≤ b2' ∧ b2' ≤ 255) ∧ (0 ≤ a2 ∧ a2 ≤ 255))) := fun h => by
    have h1 := laidOk_iff.1 h
    dsimp only at h1
    omega
  generalize laidOkB ⟨r, g, b, a⟩ = X at ES hH hok
  generalize laidOkB ⟨r2, g2, b2', a2⟩ = Y at ED hH hok2
  generalize blendC 5 ⟨r, g, b, a⟩ ⟨r2, g2, b2', a2⟩ = C at hH ⊢
  go_enter Tryz.func32, Tryz.ntmps32
  go_upto_region 1 with fail
  have R1 := hide (al3_0 w (.cells #[.int .i64 r, .int .i64 g, .int .i64 b, .int .i64 a] 36) (.cells #[.int .i64 r2, .int .i64 g2, .int .i64 b2', .int .i64 a2] 36) (.cells #[.int .i64 0, .int .i64 0, .int .i64 0, .int .i64 0] 36))
  have R2 := hide (al3_1 w (.cells #[.int .i64 r, .int .i64 g, .int .i64 b, .int .i64 a] 36) (.cells #[.int .i64 r2, .int .i64 g2, .int .i64 b2', .int .i64 a2] 36) (.cells #[.int .i64 0, .int .i64 0, .int .i64 0, .int .i64 0] 36))
  have R3 := hide (al3_2 w (.cells #[.int .i64 r, .int .i64 g, .int .i64 b, .int .i64 a] 36) (.cells #[.int .i64 r2, .int .i64 g2, .int .i64 b2', .int .i64 a2] 36) (.cells #[.int .i64 0, .int .i64 0, .int .i64 0, .int .i64 0] 36))
  have HB := hide (al3_below w (.cells #[.int .i64 r, .int .i64 g, .int .i64 b, .int .i64 a] 36) (.cells #[.int .i64 r2, .int .i64 g2, .int .i64 b2', .int .i64 a2] 36) (.cells #[.int .i64 0, .int .i64 0, .int .i64 0, .int .i64 0] 36))
  obtain ⟨b3, hb3⟩ : ∃ b, Hid (b = w.heap.size + 1 + 1) := ⟨_, rfl⟩
  obtain ⟨b2, hb2⟩ : ∃ b, Hid (b = w.heap.size + 1) := ⟨_, rfl⟩
  obtain ⟨b1, hb1⟩ : ∃ b, Hid (b = w.heap.size) := ⟨_, rfl⟩
  have lz : Hid (w.heap.size ≤ b3 ∧ b1 < b3 ∧ b2 < b3) := by unfold Hid; rw [unhide hb3, unhide hb2, unhide hb1]; omega
  rw [← unhide hb3] at R3
  rw [← unhide hb2] at R2
  rw [← unhide hb1] at R1
  rw [← unhide hb3, ← unhide hb2, ← unhide hb1]
  generalize ((w.alloc (.cells #[.int .i64 r, .int .i64 g, .int .i64 b, .int .i64 a] 36)).alloc (.cells #[.int .i64 r2, .int .i64 g2, .int .i64 b2', .int .i64 a2] 36)).alloc (.cells #[.int .i64 0, .int .i64 0, .int .i64 0, .int .i64 0] 36) = W at R1 R2 R3 HB ⊢
  clear hb3 hb2 hb1
  go_wp2_with fail
  go_fit (unhide EO _)
  rintro e w1 ⟨rfl, hb⟩
  replace R1 := hide (row_next hb (unhide R1))
  replace R2 := hide (row_next hb (unhide R2))
  replace R3 := hide (row_next hb (unhide R3))
  replace HB := hide (below_two (unhide HB) hb)
  clear hb
  go_upto_region 2 with fail
  have R4 := hide (new_row w1 (.cells #[.func (.func 110) #[] #[]] 105))
  replace R1 := hide (old_row (.cells #[.func (.func 110) #[] #[]] 105) (unhide R1))
  replace R2 := hide (old_row (.cells #[.func (.func 110) #[] #[]] 105) (unhide R2))
  replace R3 := hide (old_row (.cells #[.func (.func 110) #[] #[]] 105) (unhide R3))
  replace HB := hide (below_two (unhide HB) (al1_below _ (.cells #[.func (.func 110) #[] #[]] 105)))
  obtain ⟨b4, hb4⟩ : ∃ b, Hid (b = w1.heap.size) := ⟨_, rfl⟩
  rw [← unhide hb4] at R4
  rw [← unhide hb4]
  generalize w1.alloc (.cells #[.func (.func 110) #[] #[]] 105) = V at R1 R2 R3 R4 HB ⊢
  clear hb4
  obtain ⟨q0, q1, q2, q3⟩ := row4 (unhide R1)
  obtain ⟨d0, d1, d2, d3⟩ := row4 (unhide R2)
  obtain ⟨e0, e1, e2, e3⟩ := row4 (unhide R3)
  obtain ⟨f0, f1, f2, f3⟩ := free4 (unhide R3)
  go_wp2_with fail
  go_fit (unhide ES _)
  rintro e w2 ⟨rfl, hb⟩
  replace R1 := hide (row_next hb (unhide R1))
  replace R2 := hide (row_next hb (unhide R2))
  replace R3 := hide (row_next hb (unhide R3))
  replace R4 := hide (row_next hb (unhide R4))
  replace HB := hide (below_two (unhide HB) hb)
  clear hb q0 q1 q2 q3 d0 d1 d2 d3 e0 e1 e2 e3 f0 f1 f2 f3
  obtain ⟨q0, q1, q2, q3⟩ := row4 (unhide R1)
  obtain ⟨d0, d1, d2, d3⟩ := row4 (unhide R2)
  obtain ⟨e0, e1, e2, e3⟩ := row4 (unhide R3)
  obtain ⟨f0, f1, f2, f3⟩ := free4 (unhide R3)
  cases X with
  | false =>
    have hC := hide (show C = ⟨r2, g2, b2', a2⟩ by rw [unhide hH]; exact if_neg (fun e => absurd e.1 (by decide)))
    go_wp2_with fail
    refine bodyPost_ret (v := .agg #[.int .i64 r2, .int .i64 g2, .int .i64 b2', .int .i64 a2]) (by simp [results, Tryz.results32, go_sem, e0, e1, e2, e3]) rfl ⟨by rw [unhide hC], ?_⟩
    exact below_put4 (unhide HB) (unhide lz).1 _ _ _ _
  | true =>
  go_wp2_with fail
  go_fit (unhide ED _)
  rintro e w3 ⟨rfl, hb⟩
  replace R1 := hide (row_next hb (unhide R1))
  replace R2 := hide (row_next hb (unhide R2))
  replace R3 := hide (row_next hb (unhide R3))
  replace R4 := hide (row_next hb (unhide R4))
  replace HB := hide (below_two (unhide HB) hb)
  clear hb q0 q1 q2 q3 d0 d1 d2 d3 e0 e1 e2 e3 f0 f1 f2 f3
  obtain ⟨q0, q1, q2, q3⟩ := row4 (unhide R1)
  obtain ⟨d0, d1, d2, d3⟩ := row4 (unhide R2)
  obtain ⟨e0, e1, e2, e3⟩ := row4 (unhide R3)
  obtain ⟨f0, f1, f2, f3⟩ := free4 (unhide R3)
  cases Y with
  | false =>
    have hC := hide (show C = ⟨r2, g2, b2', a2⟩ by rw [unhide hH]; exact if_neg (fun e => absurd e.2 (by decide)))
    go_wp2_with fail
    refine bodyPost_ret (v := .agg #[.int .i64 r2, .int .i64 g2, .int .i64 b2', .int .i64 a2]) (by simp [results, Tryz.results32, go_sem, e0, e1, e2, e3]) rfl ⟨by rw [unhide hC], ?_⟩
    exact below_put4 (unhide HB) (unhide lz).1 _ _ _ _
  | true =>
  have hC := hide (show C = ⟨blendI 5 r r2 a a2, blendI 5 g g2 a a2, blendI 5 b b2' a a2, blendI 5 a a2 a a2⟩ by rw [unhide hH]; exact if_pos ⟨by trivial, by trivial⟩)
  obtain ⟨s0, s1, s2, s3⟩ := unhide hok (by trivial)
  obtain ⟨t0, t1, t2, t3⟩ := unhide hok2 (by trivial)
  have EE := hide (fun p ps pd => implEachPart_blend p ps pd r g b a r2 g2 b2' a2 (blendI 5 r r2 a a2) (blendI 5 g g2 a a2) (blendI 5 b b2' a a2) (blendI 5 a a2 a a2) (fun u => MixAt u p ps pd (.func (.func 110) #[] #[]) r g b a r2 g2 b2' a2) (fun u u' j hb => j.next hb)
    (fun u j => implMix_out p ps pd r r2 r g b a r2 g2 b2' a2 s0 t0 s3 t3 u j) (fun u j => implMix_out p ps pd g g2 r g b a r2 g2 b2' a2 s1 t1 s3 t3 u j) (fun u j => implMix_out p ps pd b b2' r g b a r2 g2 b2' a2 s2 t2 s3 t3 u j) (fun u j => implMix_out p ps pd a a2 r g b a r2 g2 b2' a2 s3 t3 s3 t3 u j))
  generalize blendI 5 r r2 a a2 = m0 at EE hC
  generalize blendI 5 g g2 a a2 = m1 at EE hC
  generalize blendI 5 b b2' a a2 = m2 at EE hC
  generalize blendI 5 a a2 a a2 = m3 at EE hC
  clear s0 s1 s2 s3 t0 t1 t2 t3 hok hok2 hH ES ED EO
  go_wp2_with fail
  go_fit (unhide EE _ _ _ _ ⟨cell_lone (unhide R4), unhide R1, unhide R2⟩)
  rintro e w4 ⟨rfl, hb⟩
  replace R1 := hide (row_next hb (unhide R1))
  replace R2 := hide (row_next hb (unhide R2))
  replace R3 := hide (row_next hb (unhide R3))
  replace R4 := hide (row_next hb (unhide R4))
  replace HB := hide (below_two (unhide HB) hb)
  clear hb q0 q1 q2 q3 d0 d1 d2 d3 e0 e1 e2 e3 f0 f1 f2 f3
  obtain ⟨q0, q1, q2, q3⟩ := row4 (unhide R1)
  obtain ⟨d0, d1, d2, d3⟩ := row4 (unhide R2)
  obtain ⟨e0, e1, e2, e3⟩ := row4 (unhide R3)
  obtain ⟨f0, f1, f2, f3⟩ := free4 (unhide R3)
  go_wp2_with fail
  refine bodyPost_ret (v := .agg #[.int .i64 m0, .int .i64 m1, .int .i64 m2, .int .i64 m3]) (by simp [results, Tryz.results32, go_sem, e0, e1, e2, e3]) rfl ⟨by rw [unhide hC], ?_⟩
  exact below_put4 (unhide HB) (unhide lz).1 _ _ _ _

theorem implBlend_any (m r g b a r2 g2 b2 a2 : Int) (w : World) :
    Calls Tryz.prog 32 #[.int .i64 m, .agg #[.int .i64 r, .int .i64 g, .int .i64 b, .int .i64 a], .agg #[.int .i64 r2, .int .i64 g2, .int .i64 b2, .int .i64 a2]] w fun e w' => e = .returned (.agg #[.int .i64 ((blendC m ⟨r, g, b, a⟩ ⟨r2, g2, b2, a2⟩).x0), .int .i64 ((blendC m ⟨r, g, b, a⟩ ⟨r2, g2, b2, a2⟩).y0), .int .i64 ((blendC m ⟨r, g, b, a⟩ ⟨r2, g2, b2, a2⟩).x1), .int .i64 ((blendC m ⟨r, g, b, a⟩ ⟨r2, g2, b2, a2⟩).y1)]) ∧ Below w.heap.size w w' := by
  by_cases hm : m < 1 ∨ 5 < m
  · exact implBlend_none m hm r g b a r2 g2 b2 a2 w
  · obtain rfl | rfl | rfl | rfl | rfl : m = 1 ∨ m = 2 ∨ m = 3 ∨ m = 4 ∨ m = 5 := by omega
    · exact implBlend_over r g b a r2 g2 b2 a2 w
    · exact implBlend_multiply r g b a r2 g2 b2 a2 w
    · exact implBlend_screen r g b a r2 g2 b2 a2 w
    · exact implBlend_plus r g b a r2 g2 b2 a2 w
    · exact implBlend_out r g b a r2 g2 b2 a2 w
end Go.Proofs.YtngnleoggblinaaGreat

/-
  The program's surfaces that are coated square by square: one laid over another, a mask painted.
-/
namespace Go.Proofs.YtngnleoggblinaaGreat
open Go.RowKit
set_option linter.unusedVariables false

set_option maxHeartbeats 16000000 in
set_option maxRecDepth 100000 in
theorem implCoatedPaint_any (c0 c1 c2 c3 : Value) (Gf : Int → Int → B4 → B4) (x y : Int) (f : Nat → B4) (ao : Option Addr) (n cp : Nat) (hS : SOk x y n f) (hc : n ≤ cp) (hao : ao = none → cp = 0) (w : World) (P : ∀ i, i < n → ClAt w ao i (f i))
    (EC : ∀ (u : World) (q j : Nat) (z0 z1 z2 z3 : Int), Below w.heap.size w u → (q : Int) < x → (j : Int) < y → Calls Tryz.prog 30 #[.int .i64 q, .int .i64 j, .agg #[.int .i64 z0, .int .i64 z1, .int .i64 z2, .int .i64 z3], c0, c1, c2, c3] u fun r u' => r = .returned (.agg #[.int .i64 ((Gf q j ⟨z0, z1, z2, z3⟩).x0), .int .i64 ((Gf q j ⟨z0, z1, z2, z3⟩).y0), .int .i64 ((Gf q j ⟨z0, z1, z2, z3⟩).x1), .int .i64 ((Gf q j ⟨z0, z1, z2, z3⟩).y1)]) ∧ Below u.heap.size u u') :
    Calls Tryz.prog 29 #[.agg #[.int .i64 x, .int .i64 y, .slice ao n cp], .func (.func 30) #[] #[c0, c1, c2, c3]] w fun r w' => SurfRes w r w' x y n (fun i => Gf ((i : Int) % x) ((i : Int) / x) (f i)) := by
  have sle := hS.le
  have ECP := hide (fun u => implSurfaceCopy_any x y f ao n cp (by omega) hc hao u)
  have EPL := hide (fun qx qy h1 h2 => implPixPlace_any x y qx qy (.slice ao n cp) h1 h2)
  replace EC := hide EC
  replace P := hide P
  have sx := hS.1
  have sy := hS.2.1
  have sn := hide hS.2.2.1
  clear hS
  obtain ⟨G, hG⟩ : ∃ G : Nat → B4, Hid ((fun i : Nat => Gf ((i : Int) % x) ((i : Int) / x) (f i)) = G) := ⟨_, rfl⟩
  have hGk : Hid (∀ k : Nat, G k = Gf ((k : Int) % x) ((k : Int) / x) (f k)) := fun k => by rw [← unhide hG]
  rw [unhide hG]
  clear hG
  unfold SurfRes
  go_enter Tryz.func29, Tryz.ntmps29
  go_upto_region 1 with fail
  have R2 := hide (al2_0 w (.cells #[.int .i64 x, .int .i64 y, .slice ao n cp] 26) (.cells #[.int .i64 0, .int .i64 0, .slice none 0 0] 26))
  have R4 := hide (al2_1 w (.cells #[.int .i64 x, .int .i64 y, .slice ao n cp] 26) (.cells #[.int .i64 0, .int .i64 0, .slice none 0 0] 26))
  have HB := hide (al2_below w (.cells #[.int .i64 x, .int .i64 y, .slice ao n cp] 26) (.cells #[.int .i64 0, .int .i64 0, .slice none 0 0] 26))
  obtain ⟨b4, hb4⟩ : ∃ b, Hid (b = w.heap.size + 1) := ⟨_, rfl⟩
  obtain ⟨b2, hb2⟩ : ∃ b, Hid (b = w.heap.size) := ⟨_, rfl⟩
  have lz : Hid (w.heap.size ≤ b4) := by unfold Hid; rw [unhide hb4]; omega
  rw [← unhide hb4] at R4
  rw [← unhide hb2] at R2
  rw [← unhide hb4, ← unhide hb2]
  generalize (w.alloc (.cells #[.int .i64 x, .int .i64 y, .slice ao n cp] 26)).alloc (.cells #[.int .i64 0, .int .i64 0, .slice none 0 0] 26) = W at R2 R4 HB ⊢
  clear hb4 hb2
  obtain ⟨p0, p1, p2⟩ := row3 (unhide R2)
  have l0 := hide (show b2 < W.heap.size ∧ b4 < W.heap.size from ⟨heap_lt (unhide R2), heap_lt (unhide R4)⟩)
  have lW := hide (unhide HB).size
  have E2 := hide (unhide ECP W (fun i hi => (unhide P i hi).next (unhide HB)))
  clear ECP
  go_wp2_with fail
  go_fit (unhide E2)
  rintro r w1 ⟨gp, gc, rfl, hO, hb⟩
  replace R2 := hide (row_next hb (unhide R2))
  replace R4 := hide (row_next hb (unhide R4))
  replace HB := hide (below_two (unhide HB) hb)
  clear hb p0 p1 p2 E2
  replace hO := hide hO
  go_upto_region 2 with fail
  have R5 := hide (new_row w1 (.cells #[.int .i64 x, .int .i64 y, .slice gp n gc] 26))
  have l1 := hide (show ∀ k, (Value.slice gp n gc).ownBlock = some k → W.heap.size ≤ k ∧ k < w1.heap.size from (unhide hO).lt)
  replace R2 := hide (row_next (al1_below w1 (.cells #[.int .i64 x, .int .i64 y, .slice gp n gc] 26)) (unhide R2))
  replace R4 := hide (row_next (al1_below w1 (.cells #[.int .i64 x, .int .i64 y, .slice gp n gc] 26)) (unhide R4))
  replace HB := hide (below_two (unhide HB) (al1_below w1 (.cells #[.int .i64 x, .int .i64 y, .slice gp n gc] 26)))
  replace hO := hide ((unhide hO).next (al1_below w1 (.cells #[.int .i64 x, .int .i64 y, .slice gp n gc] 26)))
  generalize w1.alloc (.cells #[.int .i64 x, .int .i64 y, .slice gp n gc] 26) = W1 at R2 R4 R5 HB hO ⊢
  generalize w1.heap.size = b5 at R5 l1 ⊢
  obtain ⟨gb, rfl⟩ : ∃ gb, gp = some ⟨gb, 0, none⟩ := by
    obtain ⟨xs, o1, _⟩ := unhide hO
    obtain ⟨gb, cap, e, _⟩ := own_at o1 (by omega)
    cases e
    exact ⟨gb, rfl⟩
  have lg := hide (show W.heap.size ≤ gb ∧ gb < b5 from unhide l1 gb rfl)
  clear l1
  have hO0 := hide (show ColsV W1 W.heap.size (.slice (some ⟨gb, 0, none⟩) n gc) n (upTo G f 0) by rw [upTo_none]; exact unhide hO)
  obtain ⟨p0, p1, p2⟩ := row3 (unhide R2)
  go_upto_region 3 with fail
  go_wp2_with fail
  clear p0 p1 p2
  go_loopw [13] (fun i u => ∃ (j k0 : Nat), (j : Int) ≤ y ∧ i = .int .i64 j ∧ Hid ((k0 : Int) = (j : Int) * x) ∧ Hid (u.heap[b2]? = some (.cells #[.int .i64 x, .int .i64 y, .slice ao n cp] 26 (0, 0))) ∧ Hid (u.heap[b4]? = some (.cells #[.int .i64 0, .int .i64 0, .slice none 0 0] 26 (0, 0))) ∧ Hid (u.heap[b5]? = some (.cells #[.int .i64 x, .int .i64 y, .slice (some ⟨gb, 0, none⟩) n gc] 26 (0, 0))) ∧ Hid (Below w.heap.size w u) ∧ Hid (ColsV u W.heap.size (.slice (some ⟨gb, 0, none⟩) n gc) n (upTo G f k0))) (fun i _ => y.toNat - (intOf i).toNat)
  case atStart => exact ⟨0, 0, by omega, rfl, by show ((0 : Nat) : Int) = ((0 : Nat) : Int) * x; omega, R2, R4, R5, HB, hO0⟩
  case round =>
    clear R2 R4 R5 HB hO hO0
    obtain ⟨j, k0, hj, rfl, hk0, R2, R4, R5, HB, hO⟩ := hrel
    by_cases hlt : (j : Int) < y
    · obtain ⟨p0, p1, p2⟩ := row3 (unhide R2)
      go_upto_region 6 with fail
      go_wp2_with fail
      clear p0 p1 p2
      go_loopw [18] (fun i u => ∃ (q k : Nat), (q : Int) ≤ x ∧ i = .int .i64 q ∧ Hid ((k : Int) = (j : Int) * x + (q : Int)) ∧ Hid (u.heap[b2]? = some (.cells #[.int .i64 x, .int .i64 y, .slice ao n cp] 26 (0, 0))) ∧ Hid (u.heap[b4]? = some (.cells #[.int .i64 0, .int .i64 0, .slice none 0 0] 26 (0, 0))) ∧ Hid (u.heap[b5]? = some (.cells #[.int .i64 x, .int .i64 y, .slice (some ⟨gb, 0, none⟩) n gc] 26 (0, 0))) ∧ Hid (Below w.heap.size w u) ∧ Hid (ColsV u W.heap.size (.slice (some ⟨gb, 0, none⟩) n gc) n (upTo G f k))) (fun i _ => x.toNat - (intOf i).toNat)
      case atStart => exact ⟨0, k0, by omega, rfl, by have := unhide hk0; show (k0 : Int) = _ + ((0 : Nat) : Int); omega, R2, R4, R5, HB, hO⟩
      case round =>
        clear R2 R4 R5 HB hO hk0 k0
        obtain ⟨q, k, hq, rfl, hkk, R2, R4, R5, HB, hO⟩ := hrel
        by_cases hqx : (q : Int) < x
        · have hplace := pix_place (y := y) sx.1 (show (0 : Int) ≤ q by omega) (show (q : Int) ≤ x - 1 by omega) (show (0 : Int) ≤ j by omega) (show (j : Int) ≤ y - 1 by omega)
          have hkn : k < n := by have := unhide hkk; have := unhide sn; omega
          have hback := sq_back (x := x) (px := q) (py := j) sx.1 (by omega) hqx
          have EPL1 := hide (unhide EPL q j (IntWalk.i64_in _ (by have := unhide sn; omega)) (IntWalk.i64_in _ (by have := unhide sn; omega)))
          rw [← unhide hkk] at EPL1
          have hGq := hide (unhide hGk k)
          rw [show (k : Int) % x = q by rw [unhide hkk]; exact hback.1, show (k : Int) / x = j by rw [unhide hkk]; exact hback.2] at hGq
          clear hback hplace
          have hkk' := hide (show ((k + 1 : Nat) : Int) = (j : Int) * x + ((q + 1 : Nat) : Int) by have := unhide hkk; omega)
          clear hkk
          have vq : IntKind.i64.wrap ((q : Int) + 1) = (q : Int) + 1 := IntWalk.i64_in _ (by omega)
          obtain ⟨p0, p1, p2⟩ := row3 (unhide R2)
          go_wp2_with fail
          go_fit (unhide EPL1 _)
          rintro r w5 ⟨rfl, hb⟩
          replace R2 := hide (row_next hb (unhide R2))
          replace R4 := hide (row_next hb (unhide R4))
          replace R5 := hide (row_next hb (unhide R5))
          replace HB := hide (below_two (unhide HB) hb)
          replace hO := hide ((unhide hO).next hb)
          clear hb p0 p1 p2 EPL1
          have HP0 := unhide P k hkn
          have HP := HP0.next (unhide HB)
          obtain ⟨zz, hzz⟩ : ∃ zz, Hid (f k = zz) := ⟨_, rfl⟩
          rw [unhide hzz] at HP HP0 hGq
          obtain ⟨z0, z1, z2, z3⟩ := zz
          obtain ⟨s0, o0, rfl, g0, g1, g2, g3⟩ := HP
          obtain ⟨s0', o0', ee, g0', _⟩ := HP0
          cases ee
          have ls0 := hide (show s0 < w.heap.size from block_lt_of_cell g0')
          clear g0'
          dsimp only at g0 g1 g2 g3
          replace g0 := hide g0
          replace g1 := hide g1
          replace g2 := hide g2
          replace g3 := hide g3
          have EC1 := hide (unhide EC w5.drew q j z0 z1 z2 z3 (unhide HB).drew hqx hlt)
          generalize Gf q j ⟨z0, z1, z2, z3⟩ = BB at EC1 hGq
          obtain ⟨B0, B1, B2, B3⟩ := BB
          dsimp only at EC1
          have hkn' : (k : Int) < (n : Int) := by omega
          have hkn0 : ¬ (k : Int) < 0 := by omega
          go_upto_region 9 with fail
          have k0 := hide (show ∀ u, w5.grownBy u (some gb) → (u.cell? ⟨b5, 2, none⟩ = some (.slice (some ⟨gb, 0, none⟩) n gc) ∧ u.cell? ⟨b2, 2, none⟩ = some (.slice (some ⟨s0, o0, none⟩) n cp) ∧ u.cell? ⟨s0, o0 + k * 4, none⟩ = some (.int .i64 z0) ∧ u.cell? ⟨s0, o0 + k * 4 + 1, none⟩ = some (.int .i64 z1) ∧ u.cell? ⟨s0, o0 + k * 4 + 2, none⟩ = some (.int .i64 z2) ∧ u.cell? ⟨s0, o0 + k * 4 + 3, none⟩ = some (.int .i64 z3) ∧ w5.grownBy u (some gb)) from fun u h => by
            obtain ⟨p0, p1, p2⟩ := row3 (row_grown' h (by have := unhide l0; have := unhide lg; omega) (unhide R2))
            obtain ⟨r0, r1, r2⟩ := row3 (row_grown' h (by have := unhide lg; omega) (unhide R5))
            have hs : s0 ≠ gb := by have := unhide ls0; have := unhide lg; have := unhide lW; omega
            exact ⟨r2, p2, cell_grown' h hs (unhide g0), cell_grown' h hs (unhide g1), cell_grown' h hs (unhide g2), cell_grown' h hs (unhide g3), h⟩)
          have k00 := hide (unhide k0 _ (show w5.grownBy w5.drew (some gb) from ⟨rfl, rfl, rfl, Nat.le_refl _, fun _ _ _ => rfl⟩))
          go_region_held3 (fun u => u.cell? ⟨b5, 2, none⟩ = some (.slice (some ⟨gb, 0, none⟩) n gc) ∧ u.cell? ⟨b2, 2, none⟩ = some (.slice (some ⟨s0, o0, none⟩) n cp) ∧ u.cell? ⟨s0, o0 + k * 4, none⟩ = some (.int .i64 z0) ∧ u.cell? ⟨s0, o0 + k * 4 + 1, none⟩ = some (.int .i64 z1) ∧ u.cell? ⟨s0, o0 + k * 4 + 2, none⟩ = some (.int .i64 z2) ∧ u.cell? ⟨s0, o0 + k * 4 + 3, none⟩ = some (.int .i64 z3) ∧ w5.grownBy u (some gb)) ((first | with_reducible exact unhide k00 | (with_reducible refine unhide k0 _ ?_; first | with_reducible assumption | (with_reducible refine grown_put4' ?_ _ _ _ _ _ _ _ _; with_reducible assumption)))) (first | (go_at_call 30; go_fit (unhide EC1); rintro r w9 ⟨rfl, hb9⟩; have h9 := below_undrew hb9; clear hb9; have hg9 := grown_of_below h9 (some gb); obtain ⟨xs9, o9, x9⟩ := (unhide hO).next h9; obtain ⟨y0, y1, y2, y3, t0, t1, t2, t3⟩ := own_cell4 o9 hkn; have f0 := o9.frozenAt (k * 4); have f1 := o9.frozenAt (k * 4 + 1); have f2 := o9.frozenAt (k * 4 + 2); have f3 := o9.frozenAt (k * 4 + 3); replace o9 := hide o9; replace x9 := hide x9))
          all_goals
            go_wp2_with fail
            go_roundw
            case rel =>
              have hgg := grown_put4' hg9 (k * 4) (k * 4 + 1) (k * 4 + 2) (k * 4 + 3) (.int .i64 B0) (.int .i64 B1) (.int .i64 B2) (.int .i64 B3)
              have n5 : b2 ≠ gb ∧ b4 ≠ gb ∧ b5 ≠ gb := by have := unhide l0; have := unhide lg; omega
              refine ⟨q + 1, k + 1, by omega, by go_num, hkk', row_grown' hgg n5.1 (unhide R2), row_grown' hgg n5.2.1 (unhide R4), row_grown' hgg n5.2.2 (unhide R5), below_at4 (below_two (unhide HB) h9) (by have := unhide lg; have := unhide lW; omega) _ _ _ _ _ _ _ _, ?_⟩
              refine ⟨_, own_put4 (unhide o9) _ _ _ _, ?_⟩
              rw [upTo_step, unhide hGq]
              exact bx_put (unhide x9) (unhide o9).1 hkn ⟨B0, B1, B2, B3⟩
            case measure => simp [intOf]; omega
        · have hqe : (q : Int) = x := by omega
          have hk1 := hide (show (k : Int) = ((j + 1 : Nat) : Int) * x by have := unhide hkk; rw [this, hqe]; rw [show ((j + 1 : Nat) : Int) = (j : Int) + 1 by omega, Int.add_mul, Int.one_mul])
          clear hkk
          have vj : IntKind.i64.wrap ((j : Int) + 1) = (j : Int) + 1 := IntWalk.i64_in _ (by omega)
          go_wp2_with fail
          go_roundw
          case rel => exact ⟨j + 1, k, by omega, by go_num, hk1, R2, R4, R5, HB, hO⟩
          case measure => simp [intOf]; omega
    · have hje : (j : Int) = y := by omega
      have hkn := hide (show k0 = n by have h1 := unhide hk0; have h2 := unhide sn; rw [hje, Int.mul_comm] at h1; omega)
      obtain ⟨e0, e1, e2⟩ := row3 (unhide R4)
      obtain ⟨f0, f1, f2⟩ := frozen3 (unhide R4)
      obtain ⟨q0, q1, q2⟩ := row3 (unhide R5)
      go_wp2_with fail
      refine bodyPost_ret (v := .agg #[.int .i64 x, .int .i64 y, .slice (some ⟨gb, 0, none⟩) n gc]) (by simp [results, Tryz.results29, go_sem, e0, e1, e2]) rfl ⟨_, gc, rfl, ?_, below_put3 (unhide HB) (unhide lz) _ _ _⟩
      obtain ⟨xs, o1, hx1⟩ := unhide hO
      rw [unhide hkn] at hx1
      exact ⟨xs, own_low (own_put3 o1 (fun k hk => by have e : gb = k := Option.some.inj hk; have := unhide lg; have := unhide l0; omega) _ _ _) (unhide lW), fun i hi => by have := hx1 i hi; rw [upTo_all hi] at this; exact this⟩
end Go.Proofs.YtngnleoggblinaaGreat

/-
  The program's paints: right paints.
-/
namespace Go.Proofs.YtngnleoggblinaaGreat
open Go.RowKit
set_option linter.unusedVariables false

theorem eqlColor_at (n : Nat) (a b c d e f g h : Int) (w : World) : (Op.equalIn (n + 2) 36 (.agg #[.int .i64 a, .int .i64 b, .int .i64 c, .int .i64 d]) (.agg #[.int .i64 e, .int .i64 f, .int .i64 g, .int .i64 h])).run Tryz.prog w = .ok (decide (a = e) && (decide (b = f) && (decide (c = g) && decide (d = h)))) w := by
  have u3 := Tryz.underlying3
  have a3 := Tryz.isAgg3
  have z3 := Tryz.sizeOf3
  have hS : Tryz.prog.underlying 36 = some (.struct (Tryz.prog.fieldsOf 36)) := by kernel_rfl
  rw [show n + 2 = (n + 1) + 1 from rfl, run_equalIn_agg w (n + 1) 36 _ _ hS (by kernel_rfl)]
  simp only [Program.fieldsOf, Tryz.underlying36]
  go_simp
  by_cases h1 : a = e
  · by_cases h2 : b = f
    · by_cases h3 : c = g
      · by_cases h4 : d = h <;> simp [h1, h2, h3, h4]
      · simp [h1, h2, h3]
    · simp [h1, h2]
  · simp [h1]

theorem eqlPt_at (n : Nat) (x y a b : Int) (w : World) : (Op.equalIn (n + 2) 38 (.agg #[.int .i64 x, .int .i64 y]) (.agg #[.int .i64 a, .int .i64 b])).run Tryz.prog w = .ok (decide (x = a) && decide (y = b)) w := by
  have u3 := Tryz.underlying3
  have a3 := Tryz.isAgg3
  have z3 := Tryz.sizeOf3
  have hS : Tryz.prog.underlying 38 = some (.struct (Tryz.prog.fieldsOf 38)) := by kernel_rfl
  rw [show n + 2 = (n + 1) + 1 from rfl, run_equalIn_agg w (n + 1) 38 _ _ hS (by kernel_rfl)]
  simp only [Program.fieldsOf, Tryz.underlying38]
  go_simp
  by_cases h1 : x = a <;> by_cases h2 : y = b <;> simp [h1, h2]

theorem eqlPlain (r g b a r2 g2 b2 a2 fx fy tx ty : Int) (w : World) : (Op.equalIn 10000 40 (.agg #[.int .i64 1, .int .i64 r, .int .i64 g, .int .i64 b, .int .i64 a, .int .i64 r2, .int .i64 g2, .int .i64 b2, .int .i64 a2, .int .i64 fx, .int .i64 fy, .int .i64 tx, .int .i64 ty]) (.agg #[.int .i64 1, .int .i64 r, .int .i64 g, .int .i64 b, .int .i64 a, .int .i64 0, .int .i64 0, .int .i64 0, .int .i64 0, .int .i64 0, .int .i64 0, .int .i64 0, .int .i64 0])).run Tryz.prog w = .ok (zeroB ⟨r2, g2, b2, a2⟩ && (decide (fx = 0 ∧ fy = 0) && decide (tx = 0 ∧ ty = 0))) w := by
  have u3 := Tryz.underlying3
  have a3 := Tryz.isAgg3
  have z3 := Tryz.sizeOf3
  have a4 := Tryz.isAgg36
  have z4 := Tryz.sizeOf36
  have a5 := Tryz.isAgg38
  have z5 := Tryz.sizeOf38
  have hS : Tryz.prog.underlying 40 = some (.struct (Tryz.prog.fieldsOf 40)) := by kernel_rfl
  have e1 := eqlColor_at 9997
  have e2 := eqlPt_at 9997
  rw [show (10000 : Nat) = 9999 + 1 from rfl, run_equalIn_agg w 9999 40 _ _ hS (by kernel_rfl)]
  simp only [Program.fieldsOf, Tryz.underlying40]
  go_simp
  unfold zeroB
  by_cases h1 : r2 = 0 <;> simp only [h1, true_implies, false_implies, decide_true, decide_false, Bool.true_and, Bool.false_and, if_true]
  by_cases h2 : g2 = 0 <;> simp only [h2, true_implies, false_implies, decide_true, decide_false, Bool.true_and, Bool.false_and, if_true]
  by_cases h3 : b2 = 0 <;> simp only [h3, true_implies, false_implies, decide_true, decide_false, Bool.true_and, Bool.false_and, if_true]
  by_cases h4 : a2 = 0 <;> simp only [h4, not_true, not_false_eq_true, if_true, if_false, decide_true, decide_false, Bool.true_and, Bool.false_and]
  by_cases h5 : fx = 0 <;> simp only [h5, true_implies, false_implies, decide_true, decide_false, Bool.true_and, Bool.false_and, if_true]
  by_cases h6 : fy = 0 <;> simp only [h6, not_true, not_false_eq_true, if_true, if_false, decide_true, decide_false, Bool.true_and, Bool.false_and]
  by_cases h7 : tx = 0 <;> simp only [h7, true_implies, false_implies, decide_true, decide_false, Bool.true_and, Bool.false_and, if_true]
  by_cases h8 : ty = 0 <;> simp only [h8, not_true, not_false_eq_true, if_true, if_false, decide_true, decide_false]

/-- Two points in a row of their own. -/
def twoPt (fx fy tx ty : Int) : Nat → Int × Int := fun i => if i = 0 then (fx, fy) else (tx, ty)
theorem twoPt_arg {w : World} {q : Nat} {fx fy tx ty : Int} {t : TypeId} (h : w.heap[q]? = some (.cells #[.int .i64 fx, .int .i64 fy, .int .i64 tx, .int .i64 ty] t (0, 0))) (i : Nat) (hi : i < 2) : PtArg w (some ⟨q, 0, none⟩) i (twoPt fx fy tx ty i) := by
  obtain ⟨c0, c1, c2, c3⟩ := row4 h
  match i, hi with
  | 0, _ => exact ⟨q, 0, rfl, c0, c1⟩
  | 1, _ => exact ⟨q, 0, rfl, c2, c3⟩
theorem twoPt_ok (fx fy tx ty : Int) : (pointOkB fx fy && pointOkB tx ty) = true ↔ ∀ i, i < 2 → pointOkB (twoPt fx fy tx ty i).1 (twoPt fx fy tx ty i).2 = true := by
  rw [Bool.and_eq_true]
  constructor
  · intro h i hi
    match i, hi with
    | 0, _ => exact h.1
    | 1, _ => exact h.2
  · intro h
    exact ⟨h 0 (by omega), h 1 (by omega)⟩

set_option maxHeartbeats 8000000 in
set_option maxRecDepth 100000 in
theorem implPaintOk_any (k r g b a r2 g2 b2 a2 fx fy tx ty : Int) (w : World) :
    Calls Tryz.prog 26 #[.agg #[.int .i64 k, .int .i64 r, .int .i64 g, .int .i64 b, .int .i64 a, .int .i64 r2, .int .i64 g2, .int .i64 b2, .int .i64 a2, .int .i64 fx, .int .i64 fy, .int .i64 tx, .int .i64 ty]] w fun e w' => e = .returned (.bool (paintOkB ⟨k, ⟨r, g, b, a⟩, ⟨r2, g2, b2, a2⟩, fx, fy, tx, ty⟩)) ∧ Below w.heap.size w w' := by
  have EF := hide (implColorOk_any r g b a)
  have EL := hide (implColorOk_any r2 g2 b2 a2)
  have EA : Hid (∀ (q : Nat) (u : World), u.heap[q]? = some (.cells #[.int .i64 fx, .int .i64 fy, .int .i64 tx, .int .i64 ty] 38 (0, 0)) → Calls Tryz.prog 65 #[.slice (some ⟨q, 0, none⟩) 2 2] u fun e w' => e = .returned (.bool (pointOkB fx fy && pointOkB tx ty)) ∧ Below u.heap.size u w') := fun q u h =>
    implAllRight_any (twoPt fx fy tx ty) _ 2 2 (by omega) u _ (twoPt_ok fx fy tx ty) (fun i hi => twoPt_arg h i hi)
  have H : Hid ((colorOkB ⟨r, g, b, a⟩ && ((decide (k = 1) && (zeroB ⟨r2, g2, b2, a2⟩ && (decide (fx = 0 ∧ fy = 0) && decide (tx = 0 ∧ ty = 0)))) || (decide (k = 2) && (colorOkB ⟨r2, g2, b2, a2⟩ && ((pointOkB fx fy && pointOkB tx ty) && !decide (fx = tx ∧ fy = ty)))))) = paintOkB ⟨k, ⟨r, g, b, a⟩, ⟨r2, g2, b2, a2⟩, fx, fy, tx, ty⟩) := by unfold Hid paintOkB; rw [Bool.and_assoc]
  have q1 : ∀ u, (Op.equalIn 10000 40 (.agg #[.int .i64 1, .int .i64 r, .int .i64 g, .int .i64 b, .int .i64 a, .int .i64 r2, .int .i64 g2, .int .i64 b2, .int .i64 a2, .int .i64 fx, .int .i64 fy, .int .i64 tx, .int .i64 ty]) (.agg #[.int .i64 1, .int .i64 r, .int .i64 g, .int .i64 b, .int .i64 a, .int .i64 0, .int .i64 0, .int .i64 0, .int .i64 0, .int .i64 0, .int .i64 0, .int .i64 0, .int .i64 0])).run Tryz.prog u = .ok (zeroB ⟨r2, g2, b2, a2⟩ && (decide (fx = 0 ∧ fy = 0) && decide (tx = 0 ∧ ty = 0))) u := fun u => eqlPlain r g b a r2 g2 b2 a2 fx fy tx ty u
  have q4 : ∀ u, (Op.equalIn 10000 38 (.agg #[.int .i64 fx, .int .i64 fy]) (.agg #[.int .i64 tx, .int .i64 ty])).run Tryz.prog u = .ok (decide (fx = tx ∧ fy = ty)) u := fun u => by rw [eqlPt, Bool.decide_and]
  generalize colorOkB ⟨r, g, b, a⟩ = X1 at EF H
  generalize (zeroB ⟨r2, g2, b2, a2⟩ && (decide (fx = 0 ∧ fy = 0) && decide (tx = 0 ∧ ty = 0))) = zl at q1 H
  generalize colorOkB ⟨r2, g2, b2, a2⟩ = X2 at EL H
  generalize (pointOkB fx fy && pointOkB tx ty) = X3 at EA H
  generalize decide (fx = tx ∧ fy = ty) = z3 at q4 H
  generalize paintOkB ⟨k, ⟨r, g, b, a⟩, ⟨r2, g2, b2, a2⟩, fx, fy, tx, ty⟩ = X at H ⊢
  go_enter Tryz.func26, Tryz.ntmps26
  go_upto_region 1 with fail
  have R1 := hide (new_row w (.cells #[.int .i64 k, .int .i64 r, .int .i64 g, .int .i64 b, .int .i64 a, .int .i64 r2, .int .i64 g2, .int .i64 b2, .int .i64 a2, .int .i64 fx, .int .i64 fy, .int .i64 tx, .int .i64 ty] 40))
  have HB := hide (al1_below w (.cells #[.int .i64 k, .int .i64 r, .int .i64 g, .int .i64 b, .int .i64 a, .int .i64 r2, .int .i64 g2, .int .i64 b2, .int .i64 a2, .int .i64 fx, .int .i64 fy, .int .i64 tx, .int .i64 ty] 40))
  obtain ⟨b1, hb1⟩ : ∃ b, Hid (b = w.heap.size) := ⟨_, rfl⟩
  rw [← unhide hb1] at R1
  rw [← unhide hb1]
  generalize w.alloc (.cells #[.int .i64 k, .int .i64 r, .int .i64 g, .int .i64 b, .int .i64 a, .int .i64 r2, .int .i64 g2, .int .i64 b2, .int .i64 a2, .int .i64 fx, .int .i64 fy, .int .i64 tx, .int .i64 ty] 40) = W at R1 HB ⊢
  clear hb1
  obtain ⟨c0, c1, c2, c3, c4, c5, c6, c7, c8, c9, c10, c11, c12⟩ := row13 (unhide R1)
  go_wp2_with fail
  go_fit (unhide EF _)
  rintro e w1 ⟨rfl, hb⟩
  replace R1 := hide (row_next hb (unhide R1))
  replace HB := hide (below_two (unhide HB) hb)
  clear hb c0 c1 c2 c3 c4 c5 c6 c7 c8 c9 c10 c11 c12
  obtain ⟨c0, c1, c2, c3, c4, c5, c6, c7, c8, c9, c10, c11, c12⟩ := row13 (unhide R1)
  cases X1 with
  | false =>
    go_wp2_with fail
    go_ret
    exact ⟨ret_bool (unhide H), unhide HB⟩
  | true =>
  by_cases hk1 : k = 1
  · subst hk1
    have hX := hide (show zl = X by have := unhide H; simpa using this)
    clear H
    go_wp2_with fail
    go_ret
    exact ⟨ret_bool (unhide hX), unhide HB⟩
  · have hkb : (k == 1) = false := beq_eq_false_iff_ne.2 hk1
    rw [decide_eq_false hk1] at H
    by_cases hk2 : k = 2
    · subst hk2
      have hX := hide (show (X2 && (X3 && !z3)) = X by have := unhide H; simpa using this)
      clear H
      go_wp2_with fail
      go_fit (unhide EL _)
      rintro e w2 ⟨rfl, hb⟩
      replace R1 := hide (row_next hb (unhide R1))
      replace HB := hide (below_two (unhide HB) hb)
      clear hb c0 c1 c2 c3 c4 c5 c6 c7 c8 c9 c10 c11 c12
      obtain ⟨c0, c1, c2, c3, c4, c5, c6, c7, c8, c9, c10, c11, c12⟩ := row13 (unhide R1)
      cases X2 with
      | false =>
        go_wp2_with fail
        go_ret
        exact ⟨ret_bool (unhide hX), unhide HB⟩
      | true =>
      go_wp2_with fail
      have R2 := hide (new_row w2 (.cells #[.int .i64 fx, .int .i64 fy, .int .i64 tx, .int .i64 ty] 38))
      replace R1 := hide (row_next (al1_below w2 (.cells #[.int .i64 fx, .int .i64 fy, .int .i64 tx, .int .i64 ty] 38)) (unhide R1))
      replace HB := hide (below_two (unhide HB) (al1_below w2 (.cells #[.int .i64 fx, .int .i64 fy, .int .i64 tx, .int .i64 ty] 38)))
      generalize w2.alloc (.cells #[.int .i64 fx, .int .i64 fy, .int .i64 tx, .int .i64 ty] 38) = W2 at R1 R2 HB ⊢
      go_fit (unhide EA _ _ (unhide R2))
      rintro e w3 ⟨rfl, hb⟩
      replace R1 := hide (row_next hb (unhide R1))
      replace HB := hide (below_two (unhide HB) hb)
      clear hb c0 c1 c2 c3 c4 c5 c6 c7 c8 c9 c10 c11 c12
      obtain ⟨c0, c1, c2, c3, c4, c5, c6, c7, c8, c9, c10, c11, c12⟩ := row13 (unhide R1)
      cases X3 with
      | false =>
        go_wp2_with fail
        go_ret
        exact ⟨ret_bool (unhide hX), unhide HB⟩
      | true =>
        go_wp2_with fail
        go_ret
        exact ⟨ret_bool (unhide hX), unhide HB⟩
    · have hkb2 : (k == 2) = false := beq_eq_false_iff_ne.2 hk2
      rw [decide_eq_false hk2] at H
      have hX := hide (show false = X by have := unhide H; simpa using this)
      go_wp2_with fail
      go_ret
      exact ⟨ret_bool (unhide hX), unhide HB⟩
end Go.Proofs.YtngnleoggblinaaGreat

/-
  The program's slopes: a closure that tells how far along a square lies.
-/
namespace Go.Proofs.YtngnleoggblinaaGreat
open Go.RowKit
set_option linter.unusedVariables false

theorem implMiddleOf_any (x : Int) (w : World) :
    Calls Tryz.prog 101 #[.int .i64 x] w fun e w' => e = .returned (.int .i64 (256 * clampI x (-2000) 2000 + 128)) ∧ w' = w := by
  have bx := clamp_bd (x := x) (lo := -2000) (hi := 2000) (by omega)
  have E := hide (implClamp_any x (-2000) 2000)
  generalize clampI x (-2000) 2000 = c at bx E ⊢
  have v1 : IntKind.i64.wrap (256 * c) = 256 * c := IntWalk.i64_in _ (by omega)
  have v2 : IntKind.i64.wrap (256 * c + 128) = 256 * c + 128 := IntWalk.i64_in _ (by omega)
  clear bx
  go_enter Tryz.func101, Tryz.ntmps101
  go_wp2_with fail
  go_fit (unhide E _)
  rintro e w1 ⟨rfl, rfl⟩
  go_wp2_with fail
  go_ret
  exact ⟨rfl, rfl⟩

/-- The closure's own variables. -/
structure AlongAt (w : World) (q1 q2 q3 q4 : Nat) (fx fy dx dy sq : Int) : Prop where
  x : w.cell? ⟨q1, 0, none⟩ = some (.int .i64 fx)
  y : w.cell? ⟨q1, 1, none⟩ = some (.int .i64 fy)
  dx : w.cell? ⟨q2, 0, none⟩ = some (.int .i64 dx)
  dy : w.cell? ⟨q3, 0, none⟩ = some (.int .i64 dy)
  sq : w.cell? ⟨q4, 0, none⟩ = some (.int .i64 sq)
theorem AlongAt.next {w w1 : World} {q1 q2 q3 q4 : Nat} {fx fy dx dy sq : Int} (h : AlongAt w q1 q2 q3 q4 fx fy dx dy sq) (hb : Below w.heap.size w w1) : AlongAt w1 q1 q2 q3 q4 fx fy dx dy sq :=
  ⟨kc hb h.x, kc hb h.y, kc hb h.dx, kc hb h.dy, kc hb h.sq⟩

def slopeI (fx fy tx ty x y : Int) : Int := clampI (fdivI (256 * ((256 * clampI x (-2000) 2000 + 128 - fx) * (tx - fx) + (256 * clampI y (-2000) 2000 + 128 - fy) * (ty - fy))) ((tx - fx) * (tx - fx) + (ty - fy) * (ty - fy))) 0 256

set_option maxHeartbeats 4000000 in
set_option maxRecDepth 100000 in
theorem implAlong1_any (q1 q2 q3 q4 : Nat) (fx fy tx ty : Int) (x y : Int) (p1 : -8388608 ≤ fx ∧ fx ≤ 8388608) (p2 : -8388608 ≤ fy ∧ fy ≤ 8388608) (p3 : -8388608 ≤ tx ∧ tx ≤ 8388608) (p4 : -8388608 ≤ ty ∧ ty ≤ 8388608) (w : World)
    (h : AlongAt w q1 q2 q3 q4 fx fy (tx - fx) (ty - fy) ((tx - fx) * (tx - fx) + (ty - fy) * (ty - fy))) :
    Calls Tryz.prog 100 #[.int .i64 x, .int .i64 y, .pointer (some ⟨q1, 0, none⟩), .pointer (some ⟨q2, 0, none⟩), .pointer (some ⟨q3, 0, none⟩), .pointer (some ⟨q4, 0, none⟩)] w fun e w' => e = .returned (.int .i64 (slopeI fx fy tx ty x y)) ∧ Below w.heap.size w w' := by
  have bx := clamp_bd (x := x) (lo := -2000) (hi := 2000) (by omega)
  have by' := clamp_bd (x := y) (lo := -2000) (hi := 2000) (by omega)
  have EX := hide (implMiddleOf_any x)
  have EY := hide (implMiddleOf_any y)
  obtain ⟨V, hV⟩ : ∃ V, Hid (slopeI fx fy tx ty x y = V) := ⟨_, rfl⟩
  rw [unhide hV]
  unfold slopeI at hV
  generalize clampI x (-2000) 2000 = cx at EX bx hV
  generalize clampI y (-2000) 2000 = cy at EY by' hV
  obtain ⟨dx, hdx⟩ : ∃ dx, tx - fx = dx := ⟨_, rfl⟩
  obtain ⟨dy, hdy⟩ : ∃ dy, ty - fy = dy := ⟨_, rfl⟩
  obtain ⟨ux, hux⟩ : ∃ ux, 256 * cx + 128 - fx = ux := ⟨_, rfl⟩
  obtain ⟨uy, huy⟩ : ∃ uy, 256 * cy + 128 - fy = uy := ⟨_, rfl⟩
  have m1 := prod_bds (a := ux) (b := dx) (A := 8900736) (B := 16777216) (by omega) (by omega)
  have m2 := prod_bds (a := uy) (b := dy) (A := 8900736) (B := 16777216) (by omega) (by omega)
  have m3 := far_bd (d := dx) (L := 16777216) (by omega)
  have m4 := far_bd (d := dy) (L := 16777216) (by omega)
  have v7 : IntKind.i64.wrap (256 * cx + 128 - fx) = ux := by rw [hux]; exact IntWalk.i64_in _ (by omega)
  have v8 : IntKind.i64.wrap (256 * cy + 128 - fy) = uy := by rw [huy]; exact IntWalk.i64_in _ (by omega)
  rw [hux, huy, hdx, hdy] at hV
  rw [hdx, hdy] at h
  clear hux huy hdx hdy
  generalize 256 * cx + 128 = mx at EX v7
  generalize 256 * cy + 128 = my at EY v8
  obtain ⟨n1, hn1⟩ : ∃ n1, ux * dx = n1 := ⟨_, rfl⟩
  obtain ⟨n2, hn2⟩ : ∃ n2, uy * dy = n2 := ⟨_, rfl⟩
  obtain ⟨n3, hn3⟩ : ∃ n3, dx * dx = n3 := ⟨_, rfl⟩
  obtain ⟨n4, hn4⟩ : ∃ n4, dy * dy = n4 := ⟨_, rfl⟩
  rw [hn1] at m1
  rw [hn2] at m2
  rw [hn3] at m3
  rw [hn4] at m4
  rw [hn1, hn2, hn3, hn4] at hV
  rw [hn3, hn4] at h
  have v9 : IntKind.i64.wrap (ux * dx) = n1 := by rw [hn1]; exact IntWalk.i64_in _ (by omega)
  have v10 : IntKind.i64.wrap (uy * dy) = n2 := by rw [hn2]; exact IntWalk.i64_in _ (by omega)
  have v13 : IntKind.i64.wrap (n1 + n2) = n1 + n2 := IntWalk.i64_in _ (by omega)
  have v14 : IntKind.i64.wrap (256 * (n1 + n2)) = 256 * (n1 + n2) := IntWalk.i64_in _ (by omega)
  have EF := hide (implFloorDiv_any (256 * (n1 + n2)) (n3 + n4) (by omega) (by omega) (by omega))
  have EC := hide (implClamp_any (fdivI (256 * (n1 + n2)) (n3 + n4)) 0 256)
  generalize fdivI (256 * (n1 + n2)) (n3 + n4) = fd at EF EC hV
  generalize clampI fd 0 256 = cl at EC hV
  generalize n3 + n4 = sq at h EF
  clear hn1 hn2 hn3 hn4 m1 m2 m3 m4 p1 p2 p3 p4 bx by'
  obtain ⟨c0, c1, c2, c3, c4⟩ := h
  go_enter Tryz.func100, Tryz.ntmps100
  go_upto_region 1 with fail
  go_quiet (first | (go_at_call 101; first | exact Calls.quiet_of_same (unhide EX _) | exact Calls.quiet_of_same (unhide EY _)))
  go_wp2_with fail
  go_fit (unhide EF _)
  rintro e w4 ⟨rfl, hb⟩
  go_wp2_with fail
  go_fit (unhide EC _)
  rintro e w5 ⟨rfl, rfl⟩
  go_wp2_with fail
  go_ret
  exact ⟨by rw [← unhide hV]; rfl, below_two (below_drews (Below.refl _ _) _) hb⟩

theorem cell_one {w1 : World} {b : Nat} {x : Value} {t : TypeId} (h : w1.heap[b]? = some (.cells #[x] t (0, 0))) : w1.cell? ⟨b, 0, none⟩ = some x := by simp [World.cell?, h]
theorem along_three (W : World) {b1 : Nat} {fx fy : Int} (c0 : W.cell? ⟨b1, 0, none⟩ = some (.int .i64 fx)) (c1 : W.cell? ⟨b1, 1, none⟩ = some (.int .i64 fy)) (A B C : Int) :
    ((((W.alloc (.cells #[.int .i64 A] 3)).alloc (.cells #[.int .i64 B] 3)).alloc (.cells #[.int .i64 C] 3)).drew).cell? ⟨b1, 0, none⟩ = some (.int .i64 fx) ∧
    ((((W.alloc (.cells #[.int .i64 A] 3)).alloc (.cells #[.int .i64 B] 3)).alloc (.cells #[.int .i64 C] 3)).drew).cell? ⟨b1, 1, none⟩ = some (.int .i64 fy) ∧
    ((((W.alloc (.cells #[.int .i64 A] 3)).alloc (.cells #[.int .i64 B] 3)).alloc (.cells #[.int .i64 C] 3)).drew).cell? ⟨W.heap.size, 0, none⟩ = some (.int .i64 A) ∧
    ((((W.alloc (.cells #[.int .i64 A] 3)).alloc (.cells #[.int .i64 B] 3)).alloc (.cells #[.int .i64 C] 3)).drew).cell? ⟨W.heap.size + 1, 0, none⟩ = some (.int .i64 B) ∧
    ((((W.alloc (.cells #[.int .i64 A] 3)).alloc (.cells #[.int .i64 B] 3)).alloc (.cells #[.int .i64 C] 3)).drew).cell? ⟨W.heap.size + 1 + 1, 0, none⟩ = some (.int .i64 C) ∧
    Below W.heap.size W ((((W.alloc (.cells #[.int .i64 A] 3)).alloc (.cells #[.int .i64 B] 3)).alloc (.cells #[.int .i64 C] 3)).drew) := by
  have hb := al3_below W (.cells #[.int .i64 A] 3) (.cells #[.int .i64 B] 3) (.cells #[.int .i64 C] 3)
  exact ⟨kc hb.drew c0, kc hb.drew c1, cell_one (al3_0 _ _ _ _), cell_one (al3_1 _ _ _ _), cell_one (al3_2 _ _ _ _), hb.drew⟩

set_option maxHeartbeats 4000000 in
set_option maxRecDepth 100000 in
theorem implPartAlong_any (fx fy tx ty : Int) (p1 : -8388608 ≤ fx ∧ fx ≤ 8388608) (p2 : -8388608 ≤ fy ∧ fy ≤ 8388608) (p3 : -8388608 ≤ tx ∧ tx ≤ 8388608) (p4 : -8388608 ≤ ty ∧ ty ≤ 8388608) (w : World) :
    Calls Tryz.prog 69 #[.agg #[.int .i64 fx, .int .i64 fy], .agg #[.int .i64 tx, .int .i64 ty]] w fun e w' => ∃ q1 q2 q3 q4, e = .returned (.func (.func 100) #[] #[.pointer (some ⟨q1, 0, none⟩), .pointer (some ⟨q2, 0, none⟩), .pointer (some ⟨q3, 0, none⟩), .pointer (some ⟨q4, 0, none⟩)]) ∧ AlongAt w' q1 q2 q3 q4 fx fy (tx - fx) (ty - fy) ((tx - fx) * (tx - fx) + (ty - fy) * (ty - fy)) ∧ Below w.heap.size w w' := by
  obtain ⟨dx, hdx⟩ : ∃ dx, tx - fx = dx := ⟨_, rfl⟩
  obtain ⟨dy, hdy⟩ : ∃ dy, ty - fy = dy := ⟨_, rfl⟩
  have m3 := far_bd (d := dx) (L := 16777216) (by omega)
  have m4 := far_bd (d := dy) (L := 16777216) (by omega)
  have v5 : IntKind.i64.wrap (tx - fx) = dx := by rw [hdx]; exact IntWalk.i64_in _ (by omega)
  have v6 : IntKind.i64.wrap (ty - fy) = dy := by rw [hdy]; exact IntWalk.i64_in _ (by omega)
  rw [hdx, hdy]
  clear hdx hdy p1 p2 p3 p4
  obtain ⟨n3', hn3⟩ : ∃ n3', dx * dx = n3' := ⟨_, rfl⟩
  obtain ⟨n4', hn4⟩ : ∃ n4', dy * dy = n4' := ⟨_, rfl⟩
  rw [hn3] at m3
  rw [hn4] at m4
  have v11 : IntKind.i64.wrap (dx * dx) = n3' := by rw [hn3]; exact IntWalk.i64_in _ (by omega)
  have v12 : IntKind.i64.wrap (dy * dy) = n4' := by rw [hn4]; exact IntWalk.i64_in _ (by omega)
  have v15 : IntKind.i64.wrap (n3' + n4') = n3' + n4' := IntWalk.i64_in _ (by omega)
  rw [hn3, hn4]
  clear hn3 hn4 m3 m4
  go_enter Tryz.func69, Tryz.ntmps69
  go_upto_region 1 with fail
  have R1 := hide (al2_0 w (.cells #[.int .i64 fx, .int .i64 fy] 38) (.cells #[.int .i64 tx, .int .i64 ty] 38))
  have R2 := hide (al2_1 w (.cells #[.int .i64 fx, .int .i64 fy] 38) (.cells #[.int .i64 tx, .int .i64 ty] 38))
  have HB := hide (al2_below w (.cells #[.int .i64 fx, .int .i64 fy] 38) (.cells #[.int .i64 tx, .int .i64 ty] 38))
  obtain ⟨b2, hb2⟩ : ∃ b, Hid (b = w.heap.size + 1) := ⟨_, rfl⟩
  obtain ⟨b1, hb1⟩ : ∃ b, Hid (b = w.heap.size) := ⟨_, rfl⟩
  rw [← unhide hb2] at R2
  rw [← unhide hb1] at R1
  rw [← unhide hb2, ← unhide hb1]
  generalize (w.alloc (.cells #[.int .i64 fx, .int .i64 fy] 38)).alloc (.cells #[.int .i64 tx, .int .i64 ty] 38) = W at R1 R2 HB ⊢
  clear hb2 hb1
  obtain ⟨c0, c1⟩ := row2 (unhide R1)
  obtain ⟨d0, d1⟩ := row2 (unhide R2)
  have lt1 : b1 < W.heap.size := heap_lt (unhide R1)
  have lt2 : b2 < W.heap.size := heap_lt (unhide R2)
  have lt3 : b1 < W.heap.size + 1 := by omega
  have lt4 : b2 < W.heap.size + 1 := by omega
  have n1 : ¬ b1 = W.heap.size := by omega
  have n2 : ¬ b2 = W.heap.size := by omega
  have n3 : ¬ b1 = W.heap.size + 1 := by omega
  have n4 : ¬ b2 = W.heap.size + 1 := by omega
  go_region
  all_goals
    go_wp2_with fail
    go_ret
    first
      | (obtain ⟨a1, a2, a3, a4, a5, a6⟩ := along_three W c0 c1 dx dy (n3' + n4')
         exact ⟨_, _, _, _, rfl, ⟨a1, a2, a3, a4, a5⟩, below_two (unhide HB) a6⟩)
      | (obtain ⟨a1, a2, a3, a4, a5, a6⟩ := along_three W c0 c1 dy dx (n3' + n4')
         exact ⟨_, _, _, _, rfl, ⟨a1, a2, a4, a3, a5⟩, below_two (unhide HB) a6⟩)

end Go.Proofs.YtngnleoggblinaaGreat

/-
  The program's brushes: closures that answer a square's colour.
-/
namespace Go.Proofs.YtngnleoggblinaaGreat
open Go.RowKit
set_option linter.unusedVariables false

theorem implMix_any (q : Nat) (x y t : Int) (hx : 0 ≤ x ∧ x ≤ 255) (hy : 0 ≤ y ∧ y ≤ 255) (ht : 0 ≤ t ∧ t ≤ 256) (w : World) (h : w.cell? ⟨q, 0, none⟩ = some (.int .i64 t)) :
    Calls Tryz.prog 104 #[.int .i64 x, .int .i64 y, .pointer (some ⟨q, 0, none⟩)] w fun e w' => e = .returned (.int .i64 (mixI x y t)) ∧ Below w.heap.size w w' := by
  have hm := mix_bd hx hy ht
  have E := hide (implRoundDiv_any ((256 - t) * x + t * y) 256 (by omega) (by omega) (by omega))
  have v1 : IntKind.i64.wrap (256 - t) = 256 - t := IntWalk.i64_in _ (by omega)
  have m1 : 0 ≤ (256 - t) * x := Int.mul_nonneg (by omega) (by omega)
  have m2 : 0 ≤ t * y := Int.mul_nonneg (by omega) (by omega)
  have v2 : IntKind.i64.wrap ((256 - t) * x) = (256 - t) * x := IntWalk.i64_in _ (by omega)
  have v3 : IntKind.i64.wrap (t * y) = t * y := IntWalk.i64_in _ (by omega)
  have v4 : IntKind.i64.wrap ((256 - t) * x + t * y) = (256 - t) * x + t * y := IntWalk.i64_in _ (by omega)
  unfold mixI
  clear hm m1 m2
  go_enter Tryz.func104, Tryz.ntmps104
  go_wp2_with fail
  go_fit (unhide E _)
  rintro e w1 ⟨rfl, hb⟩
  go_wp2_with fail
  go_ret
  exact ⟨rfl, hb⟩

set_option maxHeartbeats 8000000 in
set_option maxRecDepth 100000 in
theorem implEachPart_any (q : Nat) (r g b a r2 g2 b2' a2 t : Int) (hf : colorOkB ⟨r, g, b, a⟩ = true) (hl : colorOkB ⟨r2, g2, b2', a2⟩ = true) (ht : 0 ≤ t ∧ t ≤ 256) (w : World) (h : w.cell? ⟨q, 0, none⟩ = some (.int .i64 t)) :
    Calls Tryz.prog 74 #[.agg #[.int .i64 r, .int .i64 g, .int .i64 b, .int .i64 a], .agg #[.int .i64 r2, .int .i64 g2, .int .i64 b2', .int .i64 a2], .func (.func 104) #[] #[.pointer (some ⟨q, 0, none⟩)]] w fun e w' => e = .returned (.agg #[.int .i64 (mixI r r2 t), .int .i64 (mixI g g2 t), .int .i64 (mixI b b2' t), .int .i64 (mixI a a2 t)]) ∧ Below w.heap.size w w' := by
  obtain ⟨f1, f2, f3, f4⟩ := colorOk_iff.1 hf
  obtain ⟨l1, l2, l3, l4⟩ := colorOk_iff.1 hl
  have K0 := hide (implMix_any q r r2 t f1 l1 ht)
  have K1 := hide (implMix_any q g g2 t f2 l2 ht)
  have K2 := hide (implMix_any q b b2' t f3 l3 ht)
  have K3 := hide (implMix_any q a a2 t f4 l4 ht)
  generalize mixI r r2 t = m0 at K0 ⊢
  generalize mixI g g2 t = m1 at K1 ⊢
  generalize mixI b b2' t = m2 at K2 ⊢
  generalize mixI a a2 t = m3 at K3 ⊢
  clear f1 f2 f3 f4 l1 l2 l3 l4 hf hl ht
  go_enter Tryz.func74, Tryz.ntmps74
  go_upto_region 1 with fail
  have R1 := hide (al3_0 w (.cells #[.int .i64 r, .int .i64 g, .int .i64 b, .int .i64 a] 36) (.cells #[.int .i64 r2, .int .i64 g2, .int .i64 b2', .int .i64 a2] 36) (.cells #[.int .i64 0, .int .i64 0, .int .i64 0, .int .i64 0] 36))
  have R2 := hide (al3_1 w (.cells #[.int .i64 r, .int .i64 g, .int .i64 b, .int .i64 a] 36) (.cells #[.int .i64 r2, .int .i64 g2, .int .i64 b2', .int .i64 a2] 36) (.cells #[.int .i64 0, .int .i64 0, .int .i64 0, .int .i64 0] 36))
  have R3 := hide (al3_2 w (.cells #[.int .i64 r, .int .i64 g, .int .i64 b, .int .i64 a] 36) (.cells #[.int .i64 r2, .int .i64 g2, .int .i64 b2', .int .i64 a2] 36) (.cells #[.int .i64 0, .int .i64 0, .int .i64 0, .int .i64 0] 36))
  have HB := hide (al3_below w (.cells #[.int .i64 r, .int .i64 g, .int .i64 b, .int .i64 a] 36) (.cells #[.int .i64 r2, .int .i64 g2, .int .i64 b2', .int .i64 a2] 36) (.cells #[.int .i64 0, .int .i64 0, .int .i64 0, .int .i64 0] 36))
  have cq := kc (unhide HB) h
  obtain ⟨b3, hb3⟩ : ∃ b, Hid (b = w.heap.size + 1 + 1) := ⟨_, rfl⟩
  obtain ⟨b2, hb2⟩ : ∃ b, Hid (b = w.heap.size + 1) := ⟨_, rfl⟩
  obtain ⟨b1, hb1⟩ : ∃ b, Hid (b = w.heap.size) := ⟨_, rfl⟩
  have lz : Hid (w.heap.size ≤ b3 ∧ b1 < b3 ∧ b2 < b3) := by unfold Hid; rw [unhide hb3, unhide hb2, unhide hb1]; omega
  rw [← unhide hb3] at R3
  rw [← unhide hb2] at R2
  rw [← unhide hb1] at R1
  rw [← unhide hb3, ← unhide hb2, ← unhide hb1]
  generalize ((w.alloc (.cells #[.int .i64 r, .int .i64 g, .int .i64 b, .int .i64 a] 36)).alloc (.cells #[.int .i64 r2, .int .i64 g2, .int .i64 b2', .int .i64 a2] 36)).alloc (.cells #[.int .i64 0, .int .i64 0, .int .i64 0, .int .i64 0] 36) = W at R1 R2 R3 HB cq ⊢
  clear hb3 hb2 hb1 h
  have ne1 : ¬ b3 = b1 := by have := unhide lz; omega
  have ne2 : ¬ b1 = b3 := by have := unhide lz; omega
  have ne3 : ¬ b3 = b2 := by have := unhide lz; omega
  have ne4 : ¬ b2 = b3 := by have := unhide lz; omega
  have l6 := hide (show b3 ≤ W.heap.size from Nat.le_of_lt (heap_lt (unhide R3)))
  have cq0 : W.drew.cell? ⟨q, 0, none⟩ = some (.int .i64 t) := cq
  have k0 := hide (show ∀ u, Below b3 W u → (u.cell? ⟨b1, 0, none⟩ = some (.int .i64 r) ∧ u.cell? ⟨b1, 1, none⟩ = some (.int .i64 g) ∧ u.cell? ⟨b1, 2, none⟩ = some (.int .i64 b) ∧ u.cell? ⟨b1, 3, none⟩ = some (.int .i64 a) ∧ u.cell? ⟨b2, 0, none⟩ = some (.int .i64 r2) ∧ u.cell? ⟨b2, 1, none⟩ = some (.int .i64 g2) ∧ u.cell? ⟨b2, 2, none⟩ = some (.int .i64 b2') ∧ u.cell? ⟨b2, 3, none⟩ = some (.int .i64 a2) ∧ Below b3 W u) from fun u h => by
    obtain ⟨c0, c1, c2, c3⟩ := row4 ((h.block b1 (unhide lz).2.1).trans (unhide R1))
    obtain ⟨d0, d1, d2, d3⟩ := row4 ((h.block b2 (unhide lz).2.2).trans (unhide R2))
    exact ⟨c0, c1, c2, c3, d0, d1, d2, d3, h⟩)
  have k1 := hide (show ∀ u, Below W.heap.size W u → (u.cell? ⟨b3, 0, none⟩ = some (.int .i64 0) ∧ u.cell? ⟨b3, 1, none⟩ = some (.int .i64 0) ∧ u.cell? ⟨b3, 2, none⟩ = some (.int .i64 0) ∧ u.cell? ⟨b3, 3, none⟩ = some (.int .i64 0) ∧ u.frozen? ⟨b3, 0, none⟩ = false ∧ u.frozen? ⟨b3, 1, none⟩ = false ∧ u.frozen? ⟨b3, 2, none⟩ = false ∧ u.frozen? ⟨b3, 3, none⟩ = false) from fun u h => by
    obtain ⟨e0, e1, e2, e3⟩ := row4 (row_next h (unhide R3))
    obtain ⟨f0, f1, f2, f3⟩ := free4 (row_next h (unhide R3))
    exact ⟨e0, e1, e2, e3, f0, f1, f2, f3⟩)
  have k00 := hide (unhide k0 _ (Below.refl _ _).drew)
  go_region_held3 (fun u => u.cell? ⟨b1, 0, none⟩ = some (.int .i64 r) ∧ u.cell? ⟨b1, 1, none⟩ = some (.int .i64 g) ∧ u.cell? ⟨b1, 2, none⟩ = some (.int .i64 b) ∧ u.cell? ⟨b1, 3, none⟩ = some (.int .i64 a) ∧ u.cell? ⟨b2, 0, none⟩ = some (.int .i64 r2) ∧ u.cell? ⟨b2, 1, none⟩ = some (.int .i64 g2) ∧ u.cell? ⟨b2, 2, none⟩ = some (.int .i64 b2') ∧ u.cell? ⟨b2, 3, none⟩ = some (.int .i64 a2) ∧ Below b3 W u) ((first | with_reducible exact unhide k00 | (with_reducible refine unhide k0 _ ?_; first | with_reducible exact Below.mono (by assumption) (unhide l6) | (with_reducible refine below_put4 ?_ (Nat.le_refl _) _ _ _ _; with_reducible exact Below.mono (by assumption) (unhide l6))))) (first | (go_at_call 104; go_fit (unhide K0 _ cq0); rintro e w4 ⟨rfl, hb1⟩; have h1 := below_undrew hb1; have cq1 := kc h1 cq; clear hb1) | (go_at_call 104; go_fit (unhide K1 _ cq1); rintro e w5 ⟨rfl, hb2⟩; have h2 := below_two h1 hb2; clear h1 cq1; have cq2 := kc h2 cq; clear hb2) | (go_at_call 104; go_fit (unhide K2 _ cq2); rintro e w6 ⟨rfl, hb3⟩; have h3 := below_two h2 hb3; clear h2 cq2; have cq3 := kc h3 cq; clear hb3) | (go_at_call 104; go_fit (unhide K3 _ cq3); rintro e w7 ⟨rfl, hb4⟩; have h4 := below_two h3 hb4; clear h3 cq3; clear hb4; obtain ⟨e0, e1, e2, e3, f0, f1, f2, f3⟩ := unhide k1 _ h4))
  all_goals
    go_wp2_with fail
    refine bodyPost_ret (v := .agg #[.int .i64 m0, .int .i64 m1, .int .i64 m2, .int .i64 m3]) (by simp [results, Tryz.results74, go_sem, e0, e1, e2, e3]) rfl ⟨rfl, ?_⟩
    exact below_put4 (below_two (unhide HB) h4) (unhide lz).1 _ _ _ _

set_option maxHeartbeats 4000000 in
set_option maxRecDepth 100000 in
theorem implColorBetween_any (r g b a r2 g2 b2' a2 t : Int) (hf : colorOkB ⟨r, g, b, a⟩ = true) (hl : colorOkB ⟨r2, g2, b2', a2⟩ = true) (ht : 0 ≤ t ∧ t ≤ 256) (w : World) :
    Calls Tryz.prog 71 #[.agg #[.int .i64 r, .int .i64 g, .int .i64 b, .int .i64 a], .agg #[.int .i64 r2, .int .i64 g2, .int .i64 b2', .int .i64 a2], .int .i64 t] w fun e w' => e = .returned (.agg #[.int .i64 (mixI r r2 t), .int .i64 (mixI g g2 t), .int .i64 (mixI b b2' t), .int .i64 (mixI a a2 t)]) ∧ Below w.heap.size w w' := by
  have EE := hide (fun q => implEachPart_any q r g b a r2 g2 b2' a2 t hf hl ht)
  generalize mixI r r2 t = m0 at EE ⊢
  generalize mixI g g2 t = m1 at EE ⊢
  generalize mixI b b2' t = m2 at EE ⊢
  generalize mixI a a2 t = m3 at EE ⊢
  clear hf hl ht
  go_enter Tryz.func71, Tryz.ntmps71
  go_upto_region 1 with fail
  have R1 := hide (old_row (.cells #[.int .i64 0, .int .i64 0, .int .i64 0, .int .i64 0] 36) (al3_0 w (.cells #[.int .i64 r, .int .i64 g, .int .i64 b, .int .i64 a] 36) (.cells #[.int .i64 r2, .int .i64 g2, .int .i64 b2', .int .i64 a2] 36) (.cells #[.int .i64 t] 3)))
  have R2 := hide (old_row (.cells #[.int .i64 0, .int .i64 0, .int .i64 0, .int .i64 0] 36) (al3_1 w (.cells #[.int .i64 r, .int .i64 g, .int .i64 b, .int .i64 a] 36) (.cells #[.int .i64 r2, .int .i64 g2, .int .i64 b2', .int .i64 a2] 36) (.cells #[.int .i64 t] 3)))
  have R4 := hide (old_row (.cells #[.int .i64 0, .int .i64 0, .int .i64 0, .int .i64 0] 36) (al3_2 w (.cells #[.int .i64 r, .int .i64 g, .int .i64 b, .int .i64 a] 36) (.cells #[.int .i64 r2, .int .i64 g2, .int .i64 b2', .int .i64 a2] 36) (.cells #[.int .i64 t] 3)))
  have R3 := hide (new_row (((w.alloc (.cells #[.int .i64 r, .int .i64 g, .int .i64 b, .int .i64 a] 36)).alloc (.cells #[.int .i64 r2, .int .i64 g2, .int .i64 b2', .int .i64 a2] 36)).alloc (.cells #[.int .i64 t] 3)) (.cells #[.int .i64 0, .int .i64 0, .int .i64 0, .int .i64 0] 36))
  have HB := hide (below_two (al3_below w (.cells #[.int .i64 r, .int .i64 g, .int .i64 b, .int .i64 a] 36) (.cells #[.int .i64 r2, .int .i64 g2, .int .i64 b2', .int .i64 a2] 36) (.cells #[.int .i64 t] 3)) (al1_below _ (.cells #[.int .i64 0, .int .i64 0, .int .i64 0, .int .i64 0] 36)))
  rw [al3_size] at R3
  obtain ⟨b3, hb3⟩ : ∃ b, Hid (b = w.heap.size + 1 + 1 + 1) := ⟨_, rfl⟩
  obtain ⟨b4, hb4⟩ : ∃ b, Hid (b = w.heap.size + 1 + 1) := ⟨_, rfl⟩
  obtain ⟨b2, hb2⟩ : ∃ b, Hid (b = w.heap.size + 1) := ⟨_, rfl⟩
  obtain ⟨b1, hb1⟩ : ∃ b, Hid (b = w.heap.size) := ⟨_, rfl⟩
  have lz : Hid (w.heap.size ≤ b3 ∧ b1 < b3 ∧ b2 < b3) := by unfold Hid; rw [unhide hb3, unhide hb2, unhide hb1]; omega
  rw [show w.heap.size + 3 = b3 from (unhide hb3).symm] at R3
  rw [← unhide hb4] at R4
  rw [← unhide hb2] at R2
  rw [← unhide hb1] at R1
  rw [← unhide hb3, ← unhide hb4, ← unhide hb2, ← unhide hb1]
  generalize (((w.alloc (.cells #[.int .i64 r, .int .i64 g, .int .i64 b, .int .i64 a] 36)).alloc (.cells #[.int .i64 r2, .int .i64 g2, .int .i64 b2', .int .i64 a2] 36)).alloc (.cells #[.int .i64 t] 3)).alloc (.cells #[.int .i64 0, .int .i64 0, .int .i64 0, .int .i64 0] 36) = W at R1 R2 R3 R4 HB ⊢
  clear hb3 hb4 hb2 hb1
  obtain ⟨c0, c1, c2, c3⟩ := row4 (unhide R1)
  obtain ⟨d0, d1, d2, d3⟩ := row4 (unhide R2)
  go_wp2_with fail
  go_fit (unhide EE _ _ (cell_one (unhide R4)))
  rintro e w1 ⟨rfl, hb⟩
  replace R3 := hide (row_next hb (unhide R3))
  replace HB := hide (below_two (unhide HB) hb)
  clear hb c0 c1 c2 c3 d0 d1 d2 d3
  obtain ⟨e0, e1, e2, e3⟩ := row4 (unhide R3)
  obtain ⟨f0, f1, f2, f3⟩ := free4 (unhide R3)
  go_wp2_with fail
  refine bodyPost_ret (v := .agg #[.int .i64 m0, .int .i64 m1, .int .i64 m2, .int .i64 m3]) (by simp [results, Tryz.results71, go_sem, e0, e1, e2, e3]) rfl ⟨rfl, ?_⟩
  exact below_put4 (unhide HB) (unhide lz).1 _ _ _ _

set_option maxHeartbeats 4000000 in
set_option maxRecDepth 100000 in
theorem implEven1_any (q : Nat) (r g b a x y : Int) (w : World) (h : w.heap[q]? = some (.cells #[.int .i64 r, .int .i64 g, .int .i64 b, .int .i64 a] 36 (0, 0))) :
    Calls Tryz.prog 99 #[.int .i64 x, .int .i64 y, .pointer (some ⟨q, 0, none⟩)] w fun e w' => e = .returned (.agg #[.int .i64 r, .int .i64 g, .int .i64 b, .int .i64 a]) ∧ Below w.heap.size w w' := by
  go_enter Tryz.func99, Tryz.ntmps99
  go_upto_region 1 with fail
  have R1 := hide (old_row (.cells #[.int .i64 0, .int .i64 0, .int .i64 0, .int .i64 0] 36) h)
  have R3 := hide (new_row w (.cells #[.int .i64 0, .int .i64 0, .int .i64 0, .int .i64 0] 36))
  have HB := hide (al1_below w (.cells #[.int .i64 0, .int .i64 0, .int .i64 0, .int .i64 0] 36))
  obtain ⟨b3, hb3⟩ : ∃ b, Hid (b = w.heap.size) := ⟨_, rfl⟩
  have lz : Hid (w.heap.size ≤ b3) := by unfold Hid; rw [unhide hb3]; omega
  rw [← unhide hb3] at R3
  rw [← unhide hb3]
  generalize w.alloc (.cells #[.int .i64 0, .int .i64 0, .int .i64 0, .int .i64 0] 36) = W at R1 R3 HB ⊢
  clear hb3 h
  obtain ⟨c0, c1, c2, c3⟩ := row4 (unhide R1)
  obtain ⟨e0, e1, e2, e3⟩ := row4 (unhide R3)
  obtain ⟨f0, f1, f2, f3⟩ := free4 (unhide R3)
  go_wp2_with fail
  refine bodyPost_ret (v := .agg #[.int .i64 r, .int .i64 g, .int .i64 b, .int .i64 a]) (by simp [results, Tryz.results99, go_sem, e0, e1, e2, e3]) rfl ⟨rfl, ?_⟩
  exact below_put4 (unhide HB) (unhide lz) _ _ _ _

theorem implEvenBrush_any (r g b a : Int) (w : World) :
    Calls Tryz.prog 67 #[.agg #[.int .i64 r, .int .i64 g, .int .i64 b, .int .i64 a]] w fun e w' => ∃ q, e = .returned (.func (.func 99) #[] #[.pointer (some ⟨q, 0, none⟩)]) ∧ w'.heap[q]? = some (.cells #[.int .i64 r, .int .i64 g, .int .i64 b, .int .i64 a] 36 (0, 0)) ∧ Below w.heap.size w w' := by
  go_enter Tryz.func67, Tryz.ntmps67
  go_wp2_with fail
  go_ret
  exact ⟨_, rfl, new_row _ _, al1_below _ _⟩
end Go.Proofs.YtngnleoggblinaaGreat

/-
  The program's brushes: the colour of a square.
-/
namespace Go.Proofs.YtngnleoggblinaaGreat
open Go.RowKit
set_option linter.unusedVariables false

set_option maxHeartbeats 8000000 in
set_option maxRecDepth 100000 in
theorem implBrush1_any (qp qf q1 q2 q3 q4 : Nat) {tf : TypeId} (k r g b a r2 g2 b2 a2 fx fy tx ty : Int) (x y : Int) (o1 : colorOkB ⟨r, g, b, a⟩ = true) (o2 : colorOkB ⟨r2, g2, b2, a2⟩ = true) (p1 : -8388608 ≤ fx ∧ fx ≤ 8388608) (p2 : -8388608 ≤ fy ∧ fy ≤ 8388608) (p3 : -8388608 ≤ tx ∧ tx ≤ 8388608) (p4 : -8388608 ≤ ty ∧ ty ≤ 8388608) (w : World)
    (hp : w.heap[qp]? = some (.cells #[.int .i64 k, .int .i64 r, .int .i64 g, .int .i64 b, .int .i64 a, .int .i64 r2, .int .i64 g2, .int .i64 b2, .int .i64 a2, .int .i64 fx, .int .i64 fy, .int .i64 tx, .int .i64 ty] 40 (0, 0))) (hf : w.heap[qf]? = some (.cells #[.func (.func 100) #[] #[.pointer (some ⟨q1, 0, none⟩), .pointer (some ⟨q2, 0, none⟩), .pointer (some ⟨q3, 0, none⟩), .pointer (some ⟨q4, 0, none⟩)]] tf (0, 0)))
    (hA : AlongAt w q1 q2 q3 q4 fx fy (tx - fx) (ty - fy) ((tx - fx) * (tx - fx) + (ty - fy) * (ty - fy))) :
    Calls Tryz.prog 70 #[.int .i64 x, .int .i64 y, .pointer (some ⟨qp, 0, none⟩), .pointer (some ⟨qf, 0, none⟩)] w fun e w' => e = .returned (.agg #[.int .i64 ((laidC (mixC ⟨r, g, b, a⟩ ⟨r2, g2, b2, a2⟩ (slopeI fx fy tx ty x y))).x0), .int .i64 ((laidC (mixC ⟨r, g, b, a⟩ ⟨r2, g2, b2, a2⟩ (slopeI fx fy tx ty x y))).y0), .int .i64 ((laidC (mixC ⟨r, g, b, a⟩ ⟨r2, g2, b2, a2⟩ (slopeI fx fy tx ty x y))).x1), .int .i64 ((laidC (mixC ⟨r, g, b, a⟩ ⟨r2, g2, b2, a2⟩ (slopeI fx fy tx ty x y))).y1)]) ∧ Below w.heap.size w w' := by
  have bt : 0 ≤ slopeI fx fy tx ty x y ∧ slopeI fx fy tx ty x y ≤ 256 := clamp_bd (by omega)
  have EB := hide (fun W h => implAlong1_any q1 q2 q3 q4 fx fy tx ty x y p1 p2 p3 p4 W h)
  generalize slopeI fx fy tx ty x y = t at bt EB ⊢
  have EC := hide (implColorBetween_any r g b a r2 g2 b2 a2 t o1 o2 bt)
  unfold mixC
  dsimp only
  generalize mixI r r2 t = m0 at EC ⊢
  generalize mixI g g2 t = m1 at EC ⊢
  generalize mixI b b2 t = m2 at EC ⊢
  generalize mixI a a2 t = m3 at EC ⊢
  have EL := hide (implLaid_any m0 m1 m2 m3)
  generalize laidC ⟨m0, m1, m2, m3⟩ = D at EL ⊢
  generalize (tx - fx) * (tx - fx) + (ty - fy) * (ty - fy) = sq at EB hA
  generalize tx - fx = dx at EB hA
  generalize ty - fy = dy at EB hA
  clear p1 p2 p3 p4 o1 o2 bt
  go_enter Tryz.func70, Tryz.ntmps70
  go_upto_region 1 with fail
  have R1 := hide (old_row (.cells #[.int .i64 0, .int .i64 0, .int .i64 0, .int .i64 0] 36) hp)
  have R2 := hide (old_row (.cells #[.int .i64 0, .int .i64 0, .int .i64 0, .int .i64 0] 36) hf)
  have R3 := hide (new_row w (.cells #[.int .i64 0, .int .i64 0, .int .i64 0, .int .i64 0] 36))
  have HB := hide (al1_below w (.cells #[.int .i64 0, .int .i64 0, .int .i64 0, .int .i64 0] 36))
  replace hA := hide (hA.next (unhide HB))
  obtain ⟨b3, hb3⟩ : ∃ b, Hid (b = w.heap.size) := ⟨_, rfl⟩
  have lz : Hid (w.heap.size ≤ b3 ∧ qp < b3 ∧ qf < b3) := by
    have h1 := heap_lt hp
    have h2 := heap_lt hf
    unfold Hid; rw [unhide hb3]; omega
  rw [← unhide hb3] at R3
  rw [← unhide hb3]
  generalize w.alloc (.cells #[.int .i64 0, .int .i64 0, .int .i64 0, .int .i64 0] 36) = W at R1 R2 R3 HB hA ⊢
  clear hb3 hp hf
  have ne1 : ¬ b3 = qp := by have := unhide lz; omega
  have ne2 : ¬ qp = b3 := by have := unhide lz; omega
  have ne3 : ¬ b3 = qf := by have := unhide lz; omega
  have ne4 : ¬ qf = b3 := by have := unhide lz; omega
  have l6 := hide (show b3 ≤ W.heap.size from Nat.le_of_lt (heap_lt (unhide R3)))
  have hA0 := hide ((unhide hA).next (Below.refl W.heap.size W).drew)
  have k0 := hide (show ∀ u, Below b3 W u → (u.cell? ⟨qp, 1, none⟩ = some (.int .i64 r) ∧ u.cell? ⟨qp, 2, none⟩ = some (.int .i64 g) ∧ u.cell? ⟨qp, 3, none⟩ = some (.int .i64 b) ∧ u.cell? ⟨qp, 4, none⟩ = some (.int .i64 a) ∧ u.cell? ⟨qp, 5, none⟩ = some (.int .i64 r2) ∧ u.cell? ⟨qp, 6, none⟩ = some (.int .i64 g2) ∧ u.cell? ⟨qp, 7, none⟩ = some (.int .i64 b2) ∧ u.cell? ⟨qp, 8, none⟩ = some (.int .i64 a2) ∧ u.cell? ⟨qf, 0, none⟩ = some (.func (.func 100) #[] #[.pointer (some ⟨q1, 0, none⟩), .pointer (some ⟨q2, 0, none⟩), .pointer (some ⟨q3, 0, none⟩), .pointer (some ⟨q4, 0, none⟩)]) ∧ Below b3 W u) from fun u h => by
    obtain ⟨c0, c1, c2, c3, c4, c5, c6, c7, c8, c9, c10, c11, c12⟩ := row13 ((h.block qp (unhide lz).2.1).trans (unhide R1))
    exact ⟨c1, c2, c3, c4, c5, c6, c7, c8, cell_one ((h.block qf (unhide lz).2.2).trans (unhide R2)), h⟩)
  have k1 := hide (show ∀ u, Below W.heap.size W u → (u.cell? ⟨b3, 0, none⟩ = some (.int .i64 0) ∧ u.cell? ⟨b3, 1, none⟩ = some (.int .i64 0) ∧ u.cell? ⟨b3, 2, none⟩ = some (.int .i64 0) ∧ u.cell? ⟨b3, 3, none⟩ = some (.int .i64 0) ∧ u.frozen? ⟨b3, 0, none⟩ = false ∧ u.frozen? ⟨b3, 1, none⟩ = false ∧ u.frozen? ⟨b3, 2, none⟩ = false ∧ u.frozen? ⟨b3, 3, none⟩ = false) from fun u h => by
    obtain ⟨e0, e1, e2, e3⟩ := row4 (row_next h (unhide R3))
    obtain ⟨f0, f1, f2, f3⟩ := free4 (row_next h (unhide R3))
    exact ⟨e0, e1, e2, e3, f0, f1, f2, f3⟩)
  have k00 := hide (unhide k0 _ (Below.refl _ _).drew)
  go_region_held3 (fun u => u.cell? ⟨qp, 1, none⟩ = some (.int .i64 r) ∧ u.cell? ⟨qp, 2, none⟩ = some (.int .i64 g) ∧ u.cell? ⟨qp, 3, none⟩ = some (.int .i64 b) ∧ u.cell? ⟨qp, 4, none⟩ = some (.int .i64 a) ∧ u.cell? ⟨qp, 5, none⟩ = some (.int .i64 r2) ∧ u.cell? ⟨qp, 6, none⟩ = some (.int .i64 g2) ∧ u.cell? ⟨qp, 7, none⟩ = some (.int .i64 b2) ∧ u.cell? ⟨qp, 8, none⟩ = some (.int .i64 a2) ∧ u.cell? ⟨qf, 0, none⟩ = some (.func (.func 100) #[] #[.pointer (some ⟨q1, 0, none⟩), .pointer (some ⟨q2, 0, none⟩), .pointer (some ⟨q3, 0, none⟩), .pointer (some ⟨q4, 0, none⟩)]) ∧ Below b3 W u) ((first | with_reducible exact unhide k00 | (with_reducible refine unhide k0 _ ?_; first | with_reducible exact Below.mono (by assumption) (unhide l6) | (with_reducible refine below_put4 ?_ (Nat.le_refl _) _ _ _ _; with_reducible exact Below.mono (by assumption) (unhide l6))))) (first | (go_at_call 100; go_fit (unhide EB _ (unhide hA0)); rintro e w4 ⟨rfl, hb4⟩; have h4 := below_undrew hb4; clear hb4) | (go_at_call 71; go_fit (unhide EC _); rintro e w5 ⟨rfl, hb5⟩; have h5 := below_two h4 hb5; clear h4 hb5) | (go_at_call 68; go_fit (unhide EL _); rintro e w6 ⟨rfl, hb6⟩; have h6 := below_two h5 hb6; clear h5 hb6; obtain ⟨e0, e1, e2, e3, f0, f1, f2, f3⟩ := unhide k1 _ h6))
  all_goals
    go_wp2_with fail
    refine bodyPost_ret (v := .agg #[.int .i64 D.x0, .int .i64 D.y0, .int .i64 D.x1, .int .i64 D.y1]) (by simp [results, Tryz.results70, go_sem, e0, e1, e2, e3]) rfl ⟨rfl, ?_⟩
    exact below_put4 (below_two (unhide HB) h6) (unhide lz).1 _ _ _ _

/-- What brushOf hands back: one even colour, or a slope. -/
def Even (v : Value) (w : World) (k r g b a r2 g2 b2 a2 fx fy tx ty : Int) : Prop :=
  ∃ q r0 g0 b0 a0, v = .func (.func 99) #[] #[.pointer (some ⟨q, 0, none⟩)] ∧ w.heap[q]? = some (.cells #[.int .i64 r0, .int .i64 g0, .int .i64 b0, .int .i64 a0] 36 (0, 0)) ∧ ∀ x y, colorAtC ⟨k, ⟨r, g, b, a⟩, ⟨r2, g2, b2, a2⟩, fx, fy, tx, ty⟩ x y = ⟨r0, g0, b0, a0⟩
def Sloped (v : Value) (w : World) (k r g b a r2 g2 b2 a2 fx fy tx ty : Int) : Prop :=
  ∃ qp qf q1 q2 q3 q4 tf, v = .func (.func 70) #[] #[.pointer (some ⟨qp, 0, none⟩), .pointer (some ⟨qf, 0, none⟩)] ∧ w.heap[qp]? = some (.cells #[.int .i64 k, .int .i64 r, .int .i64 g, .int .i64 b, .int .i64 a, .int .i64 r2, .int .i64 g2, .int .i64 b2, .int .i64 a2, .int .i64 fx, .int .i64 fy, .int .i64 tx, .int .i64 ty] 40 (0, 0)) ∧ w.heap[qf]? = some (.cells #[.func (.func 100) #[] #[.pointer (some ⟨q1, 0, none⟩), .pointer (some ⟨q2, 0, none⟩), .pointer (some ⟨q3, 0, none⟩), .pointer (some ⟨q4, 0, none⟩)]] tf (0, 0)) ∧
    AlongAt w q1 q2 q3 q4 fx fy (tx - fx) (ty - fy) ((tx - fx) * (tx - fx) + (ty - fy) * (ty - fy)) ∧ k = 2 ∧ paintOkB ⟨k, ⟨r, g, b, a⟩, ⟨r2, g2, b2, a2⟩, fx, fy, tx, ty⟩ = true

set_option maxHeartbeats 8000000 in
set_option maxRecDepth 100000 in
theorem implBrushOf_any (k r g b a r2 g2 b2 a2 fx fy tx ty : Int) (w : World) :
    Calls Tryz.prog 28 #[.agg #[.int .i64 k, .int .i64 r, .int .i64 g, .int .i64 b, .int .i64 a, .int .i64 r2, .int .i64 g2, .int .i64 b2, .int .i64 a2, .int .i64 fx, .int .i64 fy, .int .i64 tx, .int .i64 ty]] w fun e w' => ∃ v, e = .returned v ∧ (Even v w' k r g b a r2 g2 b2 a2 fx fy tx ty ∨ Sloped v w' k r g b a r2 g2 b2 a2 fx fy tx ty) ∧ Below w.heap.size w w' := by
  have EP := hide (implPaintOk_any k r g b a r2 g2 b2 a2 fx fy tx ty)
  have EL := hide (implLaid_any r g b a)
  have hno : Hid (paintOkB ⟨k, ⟨r, g, b, a⟩, ⟨r2, g2, b2, a2⟩, fx, fy, tx, ty⟩ = false → ∀ x y, colorAtC ⟨k, ⟨r, g, b, a⟩, ⟨r2, g2, b2, a2⟩, fx, fy, tx, ty⟩ x y = ⟨0, 0, 0, 0⟩) := fun h x y => by unfold colorAtC; rw [h]; rfl
  have hpl : Hid (paintOkB ⟨k, ⟨r, g, b, a⟩, ⟨r2, g2, b2, a2⟩, fx, fy, tx, ty⟩ = true → k = 1 → ∀ x y, colorAtC ⟨k, ⟨r, g, b, a⟩, ⟨r2, g2, b2, a2⟩, fx, fy, tx, ty⟩ x y = laidC ⟨r, g, b, a⟩) := fun h h1 x y => by unfold colorAtC; rw [h, if_pos rfl, if_pos h1]
  have hsl : Hid (paintOkB ⟨k, ⟨r, g, b, a⟩, ⟨r2, g2, b2, a2⟩, fx, fy, tx, ty⟩ = true → k ≠ 1 → k = 2 ∧ (-8388608 ≤ fx ∧ fx ≤ 8388608) ∧ (-8388608 ≤ fy ∧ fy ≤ 8388608) ∧ (-8388608 ≤ tx ∧ tx ≤ 8388608) ∧ (-8388608 ≤ ty ∧ ty ≤ 8388608)) := fun h h1 => by
    have h2 := (plain_ok (p := ⟨k, ⟨r, g, b, a⟩, ⟨r2, g2, b2, a2⟩, fx, fy, tx, ty⟩) h).2 h1
    have h3 := slope_bd (p := ⟨k, ⟨r, g, b, a⟩, ⟨r2, g2, b2, a2⟩, fx, fy, tx, ty⟩) h2 h
    exact ⟨h2, h3.1, h3.2.1, h3.2.2.1, h3.2.2.2.1⟩
  obtain ⟨X, hX⟩ : ∃ X, Hid (paintOkB ⟨k, ⟨r, g, b, a⟩, ⟨r2, g2, b2, a2⟩, fx, fy, tx, ty⟩ = X) := ⟨_, rfl⟩
  rw [unhide hX] at EP hno hpl hsl
  go_enter Tryz.func28, Tryz.ntmps28
  go_upto_region 1 with fail
  have R1 := hide (new_row w (.cells #[.int .i64 k, .int .i64 r, .int .i64 g, .int .i64 b, .int .i64 a, .int .i64 r2, .int .i64 g2, .int .i64 b2, .int .i64 a2, .int .i64 fx, .int .i64 fy, .int .i64 tx, .int .i64 ty] 40))
  have HB := hide (al1_below w (.cells #[.int .i64 k, .int .i64 r, .int .i64 g, .int .i64 b, .int .i64 a, .int .i64 r2, .int .i64 g2, .int .i64 b2, .int .i64 a2, .int .i64 fx, .int .i64 fy, .int .i64 tx, .int .i64 ty] 40))
  obtain ⟨b1, hb1⟩ : ∃ b, Hid (b = w.heap.size) := ⟨_, rfl⟩
  rw [← unhide hb1] at R1
  rw [← unhide hb1]
  generalize w.alloc (.cells #[.int .i64 k, .int .i64 r, .int .i64 g, .int .i64 b, .int .i64 a, .int .i64 r2, .int .i64 g2, .int .i64 b2, .int .i64 a2, .int .i64 fx, .int .i64 fy, .int .i64 tx, .int .i64 ty] 40) = W at R1 HB ⊢
  clear hb1
  obtain ⟨c0, c1, c2, c3, c4, c5, c6, c7, c8, c9, c10, c11, c12⟩ := row13 (unhide R1)
  go_wp2_with fail
  go_fit (unhide EP _)
  rintro e w1 ⟨rfl, hb⟩
  replace R1 := hide (row_next hb (unhide R1))
  replace HB := hide (below_two (unhide HB) hb)
  clear hb c0 c1 c2 c3 c4 c5 c6 c7 c8 c9 c10 c11 c12
  cases X with
  | false =>
    have EV := hide (implEvenBrush_any 0 0 0 0)
    go_wp2_with fail
    go_fit (unhide EV _)
    rintro e w2 ⟨q, rfl, hq, hb⟩
    replace HB := hide (below_two (unhide HB) hb)
    replace hq := hide hq
    clear hb
    go_wp2_with fail
    go_ret
    exact ⟨_, rfl, Or.inl ⟨q, 0, 0, 0, 0, rfl, unhide hq, unhide hno (by trivial)⟩, unhide HB⟩
  | true =>
  obtain ⟨c0, c1, c2, c3, c4, c5, c6, c7, c8, c9, c10, c11, c12⟩ := row13 (unhide R1)
  by_cases hk : k = 1
  · have hC := hide (unhide hpl (by trivial) hk)
    subst hk
    generalize laidC ⟨r, g, b, a⟩ = D at EL hC
    have EV := hide (implEvenBrush_any D.x0 D.y0 D.x1 D.y1)
    go_wp2_with fail
    go_fit (unhide EL _)
    rintro e w2 ⟨rfl, hb⟩
    replace HB := hide (below_two (unhide HB) hb)
    clear hb c0 c1 c2 c3 c4 c5 c6 c7 c8 c9 c10 c11 c12
    go_wp2_with fail
    go_fit (unhide EV _)
    rintro e w3 ⟨q, rfl, hq, hb⟩
    replace HB := hide (below_two (unhide HB) hb)
    replace hq := hide hq
    clear hb
    go_wp2_with fail
    go_ret
    exact ⟨_, rfl, Or.inl ⟨q, D.x0, D.y0, D.x1, D.y1, rfl, unhide hq, unhide hC⟩, unhide HB⟩
  · have hkb : (k == 1) = false := beq_eq_false_iff_ne.2 hk
    obtain ⟨hk2, p1, p2, p3, p4⟩ := unhide hsl (by trivial) hk
    have EA := hide (implPartAlong_any fx fy tx ty p1 p2 p3 p4)
    replace hk2 := hide hk2
    clear p1 p2 p3 p4 EL EP hno hpl hsl
    go_wp2_with fail
    go_fit (unhide EA _)
    rintro e w2 ⟨q1, q2, q3, q4, rfl, hA, hb⟩
    replace HB := hide (below_two (unhide HB) hb)
    replace R1 := hide (row_next hb (unhide R1))
    replace hA := hide hA
    clear hb c0 c1 c2 c3 c4 c5 c6 c7 c8 c9 c10 c11 c12
    go_wp2_with fail
    go_ret
    exact ⟨_, rfl, Or.inr ⟨b1, w2.heap.size, q1, q2, q3, q4, _, rfl, row_next (al1_below _ _) (unhide R1), new_row _ _, (unhide hA).next (al1_below _ _), unhide hk2, unhide hX⟩, below_two (unhide HB) (al1_below _ _)⟩

end Go.Proofs.YtngnleoggblinaaGreat
