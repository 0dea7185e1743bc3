/-
  The program's walkFrom.
-/
import Derived.Test.YthkcfgnnpcamiaaDashW
namespace Go.Proofs.Ythkcfgnnpcamiaa
open Go.RowKit
set_option linter.unusedVariables false

theorem al3w (u : World) (x y : Int) (da : Option Addr) (m dc : Nat) (z : Int) {w : World} (hb : Below w.heap.size w u) :
    DW w (((u.alloc (.cells #[.int .i64 x, .int .i64 y] 29)).alloc (.cells #[] 30)).alloc (.cells #[.slice da m dc, .int .i64 0, .int .i64 z, .slice none 0 0, .slice (some ⟨u.heap.size + 1, 0, none⟩) 0 0] 60)) (u.heap.size + 1 + 1) da m dc 0 z (.slice (some ⟨u.heap.size + 1, 0, none⟩) 0 0) (.slice none 0 0) [] [] [] (u.heap.size + 1 + 1) := by
  have O := World.ownsRow_lit (base := w.heap.size) (e := 30) (size := 1) (u.alloc (.cells #[.int .i64 x, .int .i64 y] 29)) #[] 0 (by rw [al1_size]; have := hb.size; omega) (by decide) rfl
  rw [al1_size] at O
  have hs := hb.size
  refine ⟨al3_2 _ _ _ _, by omega, ⟨below_two hb (al3_below _ _ _ _), O.alloc _, Lines.nil _ _, fun v hv => by simp at hv, ⟨rfl, .inl ⟨rfl, rfl⟩⟩, by omega, ?_⟩⟩
  simp

set_option maxHeartbeats 8000000 in
set_option maxRecDepth 100000 in
theorem walkFrom_any {w u : World} {da : Option Addr} {m dc : Nat} {ds : Nat → Int} (x y ph : Int) (hd : Dsh m ds) (V : ∀ i, i < m → IntAt w da i (ds i)) (hph : 0 ≤ ph ∧ ph ≤ 20000) (hb : Below w.heap.size w u) :
    Calls Try.prog 37 #[.agg #[.int .i64 x, .int .i64 y], .slice da m dc, .int .i64 ph] u fun r u' => ∃ p, r = .returned (.pointer (some ⟨p, 0, none⟩)) ∧ DSt w u' p da m dc (startS m ds ph (x, y)) := by
  obtain ⟨i1, hi1, hz1, hs1, hb1⟩ := info_parts infoPoint
  have hm := hd.cases
  have hm0 := hd.pos
  have hd0 := hd.bd 0 hd.pos
  have hmi : (0 : Int) < (m : Int) := by omega
  have g0 := (V 0 hm0).next hb
  obtain ⟨s, o, rfl, g0⟩ := g0
  rw [Nat.add_zero] at g0
  have n0 := fun o => kn o g0
  have q0 : IntKind.i64.wrap (ds 0 - ph) = ds 0 - ph := IntWalk.i64_in _ (by omega)
  have H := hide (al3w u x y (some ⟨s, o, none⟩) m dc (ds 0 - ph) hb)
  have A := hide (al3_0 u (.cells #[.int .i64 x, .int .i64 y] 29) (.cells #[] 30) (.cells #[.slice (some ⟨s, o, none⟩) m dc, .int .i64 0, .int .i64 (ds 0 - ph), .slice none 0 0, .slice (some ⟨u.heap.size + 1, 0, none⟩) 0 0] 60))
  have hS : Hid (startS m ds ph (x, y) = ⟨(begP m ds ph).1, (begP m ds ph).2, if (begP m ds ph).1 % 2 = 0 then [(x, y)] else [], []⟩) := rfl
  have hB : Hid (begS m ds (ph.toNat + 1) 0 (ds 0 - ph) = begP m ds ph) := rfl
  have hok := hide (begP_ok hd hph.1)
  generalize begP m ds ph = be at hS hB hok
  obtain ⟨K, X⟩ := be
  dsimp only at hS hok
  rw [unhide hS]
  generalize hdz : ds 0 = d0 at *
  have EN := hide (fun (p k : Nat) (x : Int) (v v4 : Value) D l vs B (u : World) hk hx h => nextDash_any (w := w) (u := u) (p := p) (da := some ⟨s, o, none⟩) (m := m) (dc := dc) (k := k) (x := x) (v := v) (v4 := v4) (D := D) (l := l) (vs := vs) (B := B) hm hk hx hd.bd V h)
  have ED := hide (fun (p k : Nat) (hk : k < m) (x : Int) (v v4 : Value) D l vs B (u : World) b hb h => drawn_any (w := w) (u := u) (p := p) (da := some ⟨s, o, none⟩) (m := m) (dc := dc) (k := k) (x := x) (v := v) (v4 := v4) (D := D) (l := l) (vs := vs) (B := B) (by omega) h b hb)
  replace hd := hide hd
  replace V := hide V
  replace hdz := hide hdz
  replace hm := hide hm
  go_enter Try.func37, Try.ntmps37
  go_wp2_with fail
  generalize hW : ((u.alloc (.cells #[.int .i64 x, .int .i64 y] 29)).alloc (.cells #[] 30)).alloc (.cells #[.slice (some ⟨s, o, none⟩) m dc, .int .i64 0, .int .i64 (d0 - ph), .slice none 0 0, .slice (some ⟨u.heap.size + 1, 0, none⟩) 0 0] 60) = W at H A ⊢
  clear hW n0 g0 q0 hb
  obtain ⟨b3, hb3⟩ : ∃ b3, Hid (b3 = u.heap.size) := ⟨_, rfl⟩
  have F3 : Hid (Far (u.heap.size + 1 + 1) (.slice (some ⟨u.heap.size + 1, 0, none⟩) 0 0) (.slice none 0 0) b3) := by
    have := unhide hb3
    exact ⟨by omega, by simp [Value.ownBlock]; omega, by simp [Value.ownBlock]⟩
  rw [← unhide hb3] at A H F3 ⊢
  generalize b3 + 1 + 1 = p at H F3 ⊢
  go_loopg [17] (ph.toNat + 1) (fun f _ u' => ∃ (k : Nat) (z : Int) (v : Value) (vs : List Value) (B : Nat), Hid (k < m) ∧ -20000 ≤ z ∧ z ≤ 20000 ∧ Hid (1 - z ≤ (f : Int)) ∧ Hid (begS m ds f k z = (K, X)) ∧ Hid (DW w u' p (some ⟨s, o, none⟩) m dc k z v (.slice none 0 0) [] [] vs B) ∧ Hid (Far p v (.slice none 0 0) b3) ∧ Hid (u'.heap[b3]? = some (.cells #[.int .i64 x, .int .i64 y] 29 (0, 0))))
  case atStart => exact ⟨0, d0 - ph, _, _, _, hm0, by omega, by omega, (by unfold Hid; omega), hB, H, F3, A⟩
  case round =>
    clear H F3 A
    obtain ⟨k, z, v, vs, B, hkl, hz0, hz1', Hf, Hb, H, F3, A⟩ := hrel
    obtain ⟨av, cv, e1⟩ := own_form (unhide H).str.out
    subst e1
    obtain ⟨_, _, c2, c3, _, frz⟩ := (unhide H).cells
    have f3 := frz 3
    clear frz
    by_cases hz : z ≤ 0
    · obtain ⟨f, rfl⟩ : ∃ f, gk = f + 1 := ⟨gk - 1, by have := unhide Hf; omega⟩
      have hnb := (unhide hd).bd _ ((unhide hd).nx k)
      have Hb2 : Hid (begS m ds f ((k + 1) % m) (z + ds ((k + 1) % m)) = (K, X)) := by
        have h9 := unhide Hb
        simp only [begS] at h9
        rw [if_neg (by omega)] at h9
        exact h9
      have Hf2 : Hid (1 - (z + ds ((k + 1) % m)) ≤ (f : Int)) := by have := unhide Hf; unfold Hid; push_cast at this; omega
      have hk2 := hide ((unhide hd).nx k)
      have hza : -20000 ≤ z + ds ((k + 1) % m) := by omega
      have hzb : z + ds ((k + 1) % m) ≤ 20000 := by omega
      have E1 := hide (unhide EN p k z _ _ _ _ _ _ _ (unhide hkl) (by omega) (unhide H))
      generalize ds ((k + 1) % m) = dk at *
      generalize (k + 1) % m = k' at *
      go_wp2_with fail
      go_fit (unhide E1)
      rintro r w3 ⟨rfl, D3, L3⟩
      have X0 := unhide A
      obtain ⟨Y0, F3'⟩ := L3.2 b3 (heap_lt X0) (unhide F3)
      have A3 := hide (Y0.trans X0)
      replace F3' := hide F3'
      replace D3 := hide D3
      clear L3 X0 Y0
      go_wp2_with fail
      go_roundg f
      case measure => omega
      case rel => exact ⟨k', z + dk, _, _, _, hk2, hza, hzb, Hf2, Hb2, D3, F3', A3⟩
    · have hzp : 0 < z := by omega
      have hE := (unhide Hb).symm.trans (beg_here hzp)
      obtain ⟨rfl, rfl⟩ : K = k ∧ X = z := by simpa using hE
      clear hE Hb Hf
      obtain ⟨a0, a1⟩ := row2 (unhide A)
      have n3 := fun o => kn o c3
      have m0 := fun o => kn o a0
      have m1 := fun o => kn o a1
      have hkl' := unhide hkl
      by_cases hk : K % 2 = 0
      · have E1 := hide (unhide ED p K hkl' X _ _ _ _ _ _ _ true (by rw [decide_eq_true hk]) (unhide H))
        replace hkl := hide hkl
        clear hkl'
        go_wp2_with fail
        go_fit (unhide E1)
        rintro r w1 ⟨rfl, rfl⟩
        clear E1
        go_wp2_with fail
        go_region_law (first | (refine step_append_pl (wr := w1) rfl _ _ 30 (by rfl) B i1 (.agg #[.int .i64 0, .int .i64 0]) 16 Try.underlying30 hi1 hz1 hs1 hb1 rfl _ [] (by rfl) (unhide H).str.now x y 1 (by rfl) (by decide) (by decide) (unhide H).str.hi ?_; intro v6 w6 ho hg hat; clear hat; have G6 := hide ((unhide H).point ho hg); obtain ⟨a6, n6, c6, rfl⟩ := own_form3 ho; clear ho hg; obtain ⟨r0, r1, r2, r3, r4, fr6⟩ := dw_cells (unhide G6).1; have s3 := fr6 3; clear fr6 r0 r1 r2) | (refine step_append_pl (wr := w1.drew) rfl _ _ 30 (by rfl) B i1 (.agg #[.int .i64 0, .int .i64 0]) 16 Try.underlying30 hi1 hz1 hs1 hb1 rfl _ [] (by rfl) (unhide H).drew.str.now x y 1 (by rfl) (by decide) (by decide) (unhide H).str.hi ?_; intro v6 w6 ho hg hat; clear hat; have G6 := hide ((unhide H).drew.point ho hg); obtain ⟨a6, n6, c6, rfl⟩ := own_form3 ho; clear ho hg; obtain ⟨r0, r1, r2, r3, r4, fr6⟩ := dw_cells (unhide G6).1; have s3 := fr6 3; clear fr6 r0 r1 r2))
        all_goals
          have G7 := hide (dw_now (unhide G6))
          clear c2 c3 f3 a0 a1 n3 m0 m1 r3 r4 s3 H A G6
          generalize w6.setCell ⟨p, 3, none⟩ (.slice a6 n6 c6) = U at G7 ⊢
          go_wp2_with fail
          go_ret
          exact ⟨_, rfl, _, _, _, _, unhide G7⟩
      · have E1 := hide (unhide ED p K hkl' X _ _ _ _ _ _ _ false (by rw [decide_eq_false hk]) (unhide H))
        clear hkl'
        go_wp2_with fail
        go_fit (unhide E1)
        rintro r w1 ⟨rfl, rfl⟩
        clear E1
        go_wp2_with fail
        go_ret
        exact ⟨_, rfl, _, _, _, _, unhide H⟩
end Go.Proofs.Ythkcfgnnpcamiaa
