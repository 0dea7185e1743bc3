/-
  The law of FlatOf (made by flatlaw.py).
-/
import Derived.Test.YtkhacppaemilgabLinesW
import Derived.Test.YtkhacppaemilgabFlatS
import Derived.Deep.RegionHeld3
import Derived.Deep.DeepCutAuto
import Derived.Deep.DeepFit
namespace Go.Proofs.Ytkhacppaemilgab
open Go.RowKit
set_option linter.unusedVariables false

set_option maxHeartbeats 16000000 in
set_option maxRecDepth 100000 in
theorem fnExactFlatOf_walk (a : Option Addr) (n c : Nat) (vf : Nat → Int) (b : Option Addr) (m d : Nat) (pf : Nat → Int × Int) (w : World)
    (hw : n ≤ maxLen ∧ (∀ i, i < n → IntAt w a i (vf i)) ∧ m ≤ maxLen ∧ ∀ i, i < m → PtArg w b i (pf i)) :
    Calls Try.prog 3 #[.agg #[.slice a n c, .slice b m d]] w fun r w' => r = .returned (.bool true) ∧ Below w.heap.size w w' := by
  obtain ⟨hn0, V, hm0, P⟩ := hw
  have Z := hide (szPath_any a b n c m d hn0 hm0)
  by_cases hbig : 1048576 < n + m
  · rw [if_pos hbig] at Z
    go_enter Try.func3, Try.ntmps3
    go_wp2_with fail
    go_fit (unhide Z _)
    rintro r w1 ⟨rfl, hb⟩
    go_wp2_with fail
    go_ret
    exact ⟨rfl, below_two (al1_below _ _) hb⟩
  · rw [if_neg hbig] at Z
    have hpos : ¬ ((1048576 : Int) - ((n : Int) + (m : Int)) < 0) := by omega
    have hn : n ≤ 1048576 := by omega
    have hm : m ≤ 1048576 := by omega
    obtain ⟨x, hx⟩ : ∃ x : Bool, (x = true ↔ Right vf n pf m) := by
      by_cases h : Right vf n pf m
      · exact ⟨true, by simp [h]⟩
      · exact ⟨false, by simp [h]⟩
    have TP := hide (fun u (hu : Below w.heap.size w u) => toPath_v vf pf a b n c m d hn hm u (fun i hi => (V i hi).next hu) (fun i hi => (P i hi).next hu))
    have S := hide (fun (u : World) (a b : Option Addr) (c' d' base : Nat) (hv : PathV u base (.slice a n c') (.slice b m d') n m vf pf) => specFlatOf_any vf pf a b n c' m d' hn hm u x hx hv.ints hv.pts)
    have I := hide (fun (u : World) (a b : Option Addr) (c' d' base : Nat) (hv : PathV u base (.slice a n c') (.slice b m d') n m vf pf) => implFlatOf_any vf pf a b n c' m d' hn hm hv.capQ u x hx hv.ints hv.pts)
    have EX := hide (fun (b0 b1 c d c' d' : Nat) (a b a' b' : Option Addr) (w : World) h0 h1 => @eqPath_v b0 b1 n m c d c' d' a b a' b' vf pf hn hm w h0 h1)
    have MX := hide (fun (v1 v2 : Value) (base : Nat) (w : World) h => @markPath_v v1 v2 base n m vf pf hn hm w h)
    obtain ⟨hLn, hLl⟩ := flatL_small hx
    generalize flatL x vf pf n = L at S I hLn hLl
    have EL := hide (fun (a b : Option Addr) (N c d base base' : Nat) (hN : N = L.length) (w : World) h h' => eqPointSS_any L a b N c d base base' hN hLn hLl w h h')
    have ML := hide (fun (a : Option Addr) (N c base : Nat) (hN : N = L.length) (w : World) hs h => markPointSS_any L a N c base hN hLn hLl w hs h)
    have HL := hide (fun (a : Option Addr) (N c base : Nat) (hN : N = L.length) (w : World) h => heldPointSS_any L a N c base hN hLn hLl w h)
    obtain ⟨N, hN⟩ : ∃ N, Hid (N = L.length) := ⟨_, rfl⟩
    have hqq : ¬ (((1 + preN L N : Nat) : Int) < 0) := by omega
    have hp : ¬ (((1 + n + m * 2 : Nat) : Int) < 0) := by omega
    generalize ((1 + n + m * 2 : Nat) : Int) = p at MX hp
    generalize hQQ : ((1 + preN L N : Nat) : Int) = Q at hqq
    replace hQQ := hide hQQ
    clear hn hm hx V P hn0 hm0 hbig hLn hLl
    go_enter Try.func3, Try.ntmps3
    go_wp2_with fail
    have HB := hide (Below.refl w.heap.size w)
    obtain ⟨W1, hW⟩ : ∃ W, W = w.alloc (.cells #[.slice a n c, .slice b m d] 25) := ⟨_, rfl⟩
    have hn := hide (show Below w.heap.size w W1 by rw [hW]; exact below_new _ (Below.refl _ _) (Nat.le_refl _))
    have RP := hide (show W1.heap[w.heap.size]? = some (.cells #[.slice a n c, .slice b m d] 25 (0, 0)) by rw [hW]; exact new_row _ _)
    rw [← hW]
    clear hW
    replace HB := hide (below_two (unhide HB) (unhide hn))
    clear hn
    go_fit (unhide Z _)
    rintro r w2 ⟨rfl, hb⟩
    replace RP := hide (row_next hb (unhide RP))
    replace HB := hide (below_two (unhide HB) hb)
    clear hb
    clear Z
    obtain ⟨q_RP_0, q_RP_1⟩ := row2 (unhide RP)
    go_wp2_with fail
    clear q_RP_0 q_RP_1
    go_fit (unhide TP _ (unhide HB))
    rintro r w3 ⟨s50, t50, rfl, hp, hb⟩
    have k_RP_p0 := hide (fun u u' (ho : Only u u' (.slice (some ⟨s50, 0, none⟩) n n) (.slice (some ⟨t50, 0, none⟩) m m)) (base) (hb : base = w2.heap.size) (hv : PathV u base (.slice (some ⟨s50, 0, none⟩) n n) (.slice (some ⟨t50, 0, none⟩) m m) n m vf pf) (hr : u.heap[w.heap.size]? = some (.cells #[.slice a n c, .slice b m d] 25 (0, 0))) => ho.old hv hr (by rw [hb]; exact heap_lt (unhide RP)))
    have p0 := hide hp
    clear hp
    have lb_p0 := hide (show w.heap.size ≤ w2.heap.size from (unhide HB).size)
    replace RP := hide (row_next hb (unhide RP))
    replace HB := hide (below_two (unhide HB) hb)
    clear hb
    go_wp2_with fail
    go_fit (unhide S _ _ _ _ _ _ (unhide p0))
    rintro r w4 ⟨v, rfl, hl, hb⟩
    obtain ⟨a0, c0, e1⟩ := hl.form
    rw [← unhide hN] at e1
    subst e1
    replace RP := hide (row_next hb (unhide RP))
    replace p0 := hide ((unhide p0).next hb)
    replace HB := hide (below_two (unhide HB) hb)
    have l0 := hide hl.bound
    have sl0 := hide hb.size
    clear hb hl
    clear p0
    obtain ⟨q_RP_0, q_RP_1⟩ := row2 (unhide RP)
    go_wp2_with fail
    clear q_RP_0 q_RP_1
    have ge0 := hide (Nat.le_refl w4.heap.size)
    go_fit (unhide TP _ (unhide HB))
    rintro r w5 ⟨s60, t60, rfl, hp, hb⟩
    have k_RP_p1 := hide (fun u u' (ho : Only u u' (.slice (some ⟨s60, 0, none⟩) n n) (.slice (some ⟨t60, 0, none⟩) m m)) (base) (hb : base = w4.heap.size) (hv : PathV u base (.slice (some ⟨s60, 0, none⟩) n n) (.slice (some ⟨t60, 0, none⟩) m m) n m vf pf) (hr : u.heap[w.heap.size]? = some (.cells #[.slice a n c, .slice b m d] 25 (0, 0))) => ho.old hv hr (by rw [hb]; exact heap_lt (unhide RP)))
    have p1 := hide hp
    clear hp
    have lb_p1 := hide (show w.heap.size ≤ w4.heap.size from (unhide HB).size)
    replace RP := hide (row_next hb (unhide RP))
    replace l0 := hide ((unhide l0).next hb)
    replace ge0 := hide (Nat.le_trans (unhide ge0) (hb).size)
    replace HB := hide (below_two (unhide HB) hb)
    clear hb
    have x0 := hide (show ∀ k, (Value.slice (some ⟨s60, 0, none⟩) n n).ownBlock = some k ∨ (Value.slice (some ⟨t60, 0, none⟩) m m).ownBlock = some k → k < w3.heap.size ∨ w4.heap.size ≤ k from fun k hk => by
        obtain ⟨_, _, h1, _, _⟩ := unhide p1
        rcases hk with hk | hk
        · exact .inr (h1.one.lt k hk).1
        · exact .inr (h1.two.lt k hk).1)
    go_wp2_with fail
    have old_p1 := p1
    obtain ⟨W6, hW⟩ : ∃ W, W = w5.alloc (.cells #[.slice (some ⟨s60, 0, none⟩) n n, .slice (some ⟨t60, 0, none⟩) m m] 31) := ⟨_, rfl⟩
    have hn := hide (show Below w5.heap.size w5 W6 by rw [hW]; exact below_new _ (Below.refl _ _) (Nat.le_refl _))
    have R1 := hide (show W6.heap[w5.heap.size]? = some (.cells #[.slice (some ⟨s60, 0, none⟩) n n, .slice (some ⟨t60, 0, none⟩) m m] 31 (0, 0)) by rw [hW]; exact new_row _ _)
    rw [← hW]
    clear hW
    replace RP := hide (row_next (unhide hn) (unhide RP))
    replace p1 := hide ((unhide p1).next (unhide hn))
    replace l0 := hide ((unhide l0).next (unhide hn))
    replace ge0 := hide (Nat.le_trans (unhide ge0) ((unhide hn)).size)
    replace HB := hide (below_two (unhide HB) (unhide hn))
    clear hn
    have ge_R1_p1 := hide (show w5.heap.size ≤ w5.heap.size from Nat.le_refl _)
    have x1 := hide (show ∀ k, (Value.slice (some ⟨s60, 0, none⟩) n n).ownBlock = some k ∨ (Value.slice (some ⟨t60, 0, none⟩) m m).ownBlock = some k → k < W6.heap.size from fun k hk => by
        obtain ⟨_, _, h1, _, _⟩ := unhide p1
        rcases hk with hk | hk
        · exact (h1.one.lt k hk).2
        · exact (h1.two.lt k hk).2)
    have gw := hide (show w.heap.size ≤ W6.heap.size from (unhide HB).size)
    have g01 := hide (show w4.heap.size ≤ W6.heap.size from unhide ge0)
    have grp := hide (heap_lt (unhide RP))
    go_fit (unhide I _ _ _ _ _ _ (unhide p1))
    rintro r w7 ⟨v, rfl, hl, hb⟩
    obtain ⟨a1, c1, e1⟩ := hl.form
    rw [← unhide hN] at e1
    subst e1
    replace RP := hide (row_next hb (unhide RP))
    replace R1 := hide (row_next hb (unhide R1))
    replace p1 := hide ((unhide p1).next hb)
    replace l0 := hide ((unhide l0).next hb)
    replace HB := hide (below_two (unhide HB) hb)
    have l1 := hide hl.bound
    have sl1 := hide hb.size
    clear hb hl
    go_wp2_with fail
    go_fit (unhide EL _ _ _ _ _ _ _ (unhide hN) _ (unhide l1).v (unhide l0).v)
    rintro r w8 ⟨rfl, hb⟩
    replace RP := hide (row_next hb (unhide RP))
    replace R1 := hide (row_next hb (unhide R1))
    replace p1 := hide ((unhide p1).next hb)
    replace l0 := hide ((unhide l0).next hb)
    replace l1 := hide ((unhide l1).next hb)
    replace sl1 := hide (Nat.le_trans (unhide sl1) (hb).size)
    replace HB := hide (below_two (unhide HB) hb)
    clear hb
    go_wp2_with fail
    have k0 := hide (show ∀ u, Below w8.heap.size w8 u → (u.cell? ⟨w5.heap.size, 0, none⟩ = some (.slice (some ⟨s60, 0, none⟩) n n) ∧ u.cell? ⟨w5.heap.size, 1, none⟩ = some (.slice (some ⟨t60, 0, none⟩) m m) ∧ u.cell? ⟨w.heap.size, 0, none⟩ = some (.slice a n c) ∧ u.cell? ⟨w.heap.size, 1, none⟩ = some (.slice b m d) ∧ Below w8.heap.size w8 u) from fun u h => ⟨(row2 (row_next h (unhide R1))).1, (row2 (row_next h (unhide R1))).2, (row2 (row_next h (unhide RP))).1, (row2 (row_next h (unhide RP))).2, h⟩)
    have kS := hide (show ∀ u, (u.cell? ⟨w5.heap.size, 0, none⟩ = some (.slice (some ⟨s60, 0, none⟩) n n) ∧ u.cell? ⟨w5.heap.size, 1, none⟩ = some (.slice (some ⟨t60, 0, none⟩) m m) ∧ u.cell? ⟨w.heap.size, 0, none⟩ = some (.slice a n c) ∧ u.cell? ⟨w.heap.size, 1, none⟩ = some (.slice b m d) ∧ Below w8.heap.size w8 u) → Below w8.heap.size w8 u from fun u h => h.2.2.2.2)
    have k00 := hide (unhide k0 _ (Below.refl _ _).drew)
    have hd : w8.drew.heap.size = w8.heap.size := rfl
    go_cut [31] (fun s u => s = .bool false ∧ Below w8.heap.size w8 u)
    case first =>
      go_region_held3 (fun u => u.cell? ⟨w5.heap.size, 0, none⟩ = some (.slice (some ⟨s60, 0, none⟩) n n) ∧ u.cell? ⟨w5.heap.size, 1, none⟩ = some (.slice (some ⟨t60, 0, none⟩) m m) ∧ u.cell? ⟨w.heap.size, 0, none⟩ = some (.slice a n c) ∧ u.cell? ⟨w.heap.size, 1, none⟩ = some (.slice b m d) ∧ Below w8.heap.size w8 u) ((first | with_reducible exact unhide k00 | (refine unhide k0 _ ?_; first | with_reducible assumption | (with_reducible refine below_new _ ?_ (Nat.le_refl _); with_reducible assumption) | (with_reducible refine Below.drew ?_; with_reducible exact below_new _ (Below.refl _ _) (Nat.le_refl _)) | (with_reducible refine below_put2 ?_ ?_ _ _ <;> first | with_reducible assumption | omega)))) (first | (go_at_call 7; go_fit (unhide TP _ (below_two (unhide HB) (unhide kS _ (by with_reducible assumption)))); rintro r y1 ⟨s1, t1, rfl, hpv, hb1⟩; have hW1 := below_after hb1 (unhide kS _ (by with_reducible assumption)) (Nat.le_refl _); have hsz := hb1.size; have hge := hW1.size; have pv := hide hpv; clear hpv) | (go_at_call 10; (first | go_fit (unhide EX _ _ _ _ _ _ _ _ _ _ _ ((unhide p1).next (unhide kS _ (by with_reducible assumption))) (unhide pv))); rintro r y1 ⟨rfl, hb1⟩; have hW1 := below_after hb1 (unhide kS _ (by with_reducible assumption)) (Nat.le_refl _); have hsz := hb1.size; have hge := hW1.size))
      all_goals
        go_wp2_with fail
        go_meet
        exact ⟨rfl, unhide kS _ (by with_reducible assumption)⟩
    case rest =>
      obtain ⟨rfl, hb⟩ := hcut
      replace RP := hide (row_next hb (unhide RP))
      replace R1 := hide (row_next hb (unhide R1))
      replace p1 := hide ((unhide p1).next hb)
      replace l0 := hide ((unhide l0).next hb)
      replace l1 := hide ((unhide l1).next hb)
      replace sl1 := hide (Nat.le_trans (unhide sl1) (hb).size)
      replace HB := hide (below_two (unhide HB) hb)
      clear hb
      clear k0 kS k00 hd
      generalize wc = X80 at *
      obtain ⟨q_R1_0, q_R1_1⟩ := row2 (unhide R1)
      go_wp2_with fail
      clear q_R1_0 q_R1_1
      go_fit (unhide MX _ _ _ _ (unhide p1))
      rintro r w9 ⟨rfl, hm, ho⟩
      replace RP := hide (unhide k_RP_p1 _ _ ho _ rfl (unhide p1) (unhide RP))
      replace l0 := hide ((unhide l0).only ho (unhide x0))
      replace l1 := hide ((unhide l1).only ho (fun k hk => .inl (unhide x1 k hk)))
      replace HB := hide (ho.after (unhide p1) (unhide lb_p1) (unhide HB).size (unhide HB))
      replace sl1 := hide (Nat.le_trans (unhide sl1) (only_size ho))
      clear hm ho p1 R1
      go_wp2_with fail
      go_fit (unhide EL _ _ _ _ _ _ _ (unhide hN) _ (unhide l1).v (unhide l0).v)
      rintro r w10 ⟨rfl, hb⟩
      replace RP := hide (row_next hb (unhide RP))
      replace l0 := hide ((unhide l0).next hb)
      replace l1 := hide ((unhide l1).next hb)
      replace sl1 := hide (Nat.le_trans (unhide sl1) (hb).size)
      replace HB := hide (below_two (unhide HB) hb)
      clear hb
      go_wp2_with fail
      go_fit (unhide ML _ _ _ _ (unhide hN) _ (unhide sl1) (unhide l1).v)
      rintro r w11 ⟨rfl, hr, hb⟩
      rw [unhide hQQ]
      have m1 := hide hr
      replace l0 := hide ((unhide l0).part hb (unhide g01))
      replace RP := hide ((hb.block _ (unhide grp)).trans (unhide RP))
      replace HB := hide ((unhide HB).trans (hb.mono (unhide gw)))
      clear hr hb l1
      go_wp2_with fail
      go_fit (unhide HL _ _ _ _ (unhide hN) _ (unhide m1))
      rintro r w12 ⟨rfl, hb⟩
      rw [unhide hQQ]
      replace RP := hide (row_next hb (unhide RP))
      replace l0 := hide ((unhide l0).next hb)
      replace m1 := hide ((unhide m1).next hb)
      replace HB := hide (below_two (unhide HB) hb)
      clear hb
      obtain ⟨q_RP_0, q_RP_1⟩ := row2 (unhide RP)
      go_wp2_with fail
      clear q_RP_0 q_RP_1
      go_fit (unhide TP _ (unhide HB))
      rintro r w13 ⟨s70, t70, rfl, hp, hb⟩
      have k_RP_p2 := hide (fun u u' (ho : Only u u' (.slice (some ⟨s70, 0, none⟩) n n) (.slice (some ⟨t70, 0, none⟩) m m)) (base) (hb : base = w12.heap.size) (hv : PathV u base (.slice (some ⟨s70, 0, none⟩) n n) (.slice (some ⟨t70, 0, none⟩) m m) n m vf pf) (hr : u.heap[w.heap.size]? = some (.cells #[.slice a n c, .slice b m d] 25 (0, 0))) => ho.old hv hr (by rw [hb]; exact heap_lt (unhide RP)))
      have p2 := hide hp
      clear hp
      have lb_p2 := hide (show w.heap.size ≤ w12.heap.size from (unhide HB).size)
      replace RP := hide (row_next hb (unhide RP))
      replace l0 := hide ((unhide l0).next hb)
      replace m1 := hide ((unhide m1).next hb)
      replace HB := hide (below_two (unhide HB) hb)
      clear hb
      go_wp2_with fail
      go_fit (unhide I _ _ _ _ _ _ (unhide p2))
      rintro r w14 ⟨v, rfl, hl, hb⟩
      obtain ⟨a2, c2, e1⟩ := hl.form
      rw [← unhide hN] at e1
      subst e1
      replace RP := hide (row_next hb (unhide RP))
      replace p2 := hide ((unhide p2).next hb)
      replace l0 := hide ((unhide l0).next hb)
      replace m1 := hide ((unhide m1).next hb)
      replace HB := hide (below_two (unhide HB) hb)
      have l2 := hide hl.bound
      have sl2 := hide hb.size
      clear hb hl
      clear p2
      go_wp2_with fail
      go_fit (unhide EL _ _ _ _ _ _ _ (unhide hN) _ (unhide l2).v (unhide l0).v)
      rintro r w15 ⟨rfl, hb⟩
      replace RP := hide (row_next hb (unhide RP))
      replace l0 := hide ((unhide l0).next hb)
      replace m1 := hide ((unhide m1).next hb)
      replace l2 := hide ((unhide l2).next hb)
      replace HB := hide (below_two (unhide HB) hb)
      clear hb
      go_wp2_with fail
      go_fit (unhide HL _ _ _ _ (unhide hN) _ (unhide m1))
      rintro r w16 ⟨rfl, hb⟩
      rw [unhide hQQ]
      replace RP := hide (row_next hb (unhide RP))
      replace l0 := hide ((unhide l0).next hb)
      replace m1 := hide ((unhide m1).next hb)
      replace l2 := hide ((unhide l2).next hb)
      replace HB := hide (below_two (unhide HB) hb)
      clear hb
      go_wp2_with fail
      go_ret
      exact ⟨rfl, unhide HB⟩
end Go.Proofs.Ytkhacppaemilgab
