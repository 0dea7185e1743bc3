/-
  The law of ParsePath (made by parselaw.py).
-/
import Derived.Test.YtkhacppaemilgaaDoorParseV
import Derived.Test.YtkhacppaemilgaaDoorParseI
namespace Go.Proofs.YtkhacppaemilgaaDoor
open Go.RowKit
set_option linter.unusedVariables false

set_option maxHeartbeats 16000000 in
set_option maxRecDepth 100000 in
theorem fnExactParsePath_walk (s : ByteArray) (_ : s.size ≤ maxLen) (w : World) (htab : Pow w) (hT : Tabs w) :
    Calls Tryd.prog 4 #[.string s] w fun r w' => r = .returned (.bool true) ∧ Below w.heap.size w w' := by
  by_cases hbig : 1048576 < s.size
  · have hbig' : (1048576 : Int) < (s.size : Int) := by omega
    go_enter Tryd.func4, Tryd.ntmps4
    go_wp2_with fail
    go_ret
    exact ⟨rfl, Below.refl _ _⟩
  · have hbig' : ¬ (1048576 : Int) < (s.size : Int) := by omega
    have S := hide (specParsePath_any s (by omega))
    have I := hide (fun u (hu : Below w.heap.size w u) => implParsePath_any s (by omega) u (hT.next hu) (tab_below pow10_at htab hu))
    clear htab hT
    clear hbig
    go_enter Tryd.func4, Tryd.ntmps4
    go_wp2_with fail
    have HB := hide (Below.refl w.heap.size w)
    go_fit (unhide S _)
    intro r w1 hres
    obtain ⟨ok, vs, ps, hF, a1, c1, b1, d1, rfl, hp, hb⟩ := ParseRes.first hres
    clear hres S
    have hn : vs.length ≤ 1048576 := by have := hF.small; omega
    have hm : ps.length ≤ 1048576 := by have := hF.small; omega
    obtain ⟨vf, hvf⟩ : ∃ vf, vf = listI vs := ⟨_, rfl⟩
    obtain ⟨pf, hpf⟩ : ∃ pf, pf = listP ps := ⟨_, rfl⟩
    have G := hide (fun (u : World) r u' (h : ParseRes u r u' s.data.toList) => ParseRes.again hF h)
    rw [← hvf, ← hpf] at G hp
    clear hvf hpf hF
    generalize vs.length = n at *
    generalize ps.length = m at *
    have EP := hide (fun (b0 b1 c d c' d' : Nat) (a b a' b' : Option Addr) (w : World) h0 h1 => @eqPath_v b0 b1 n m c d c' d' a b a' b' vf pf hn hm w h0 h1)
    have MP := hide (fun (v1 v2 : Value) (base : Nat) (w : World) h => @markPath_v v1 v2 base n m vf pf hn hm w h)
    have HP := hide (fun (v1 v2 : Value) (base : Nat) (w : World) h => @heldPath_v v1 v2 base n m hn hm w h)
    have hq : ¬ (((1 + n + m * 2 : Nat) : Int) < 0) := by omega
    generalize ((1 + n + m * 2 : Nat) : Int) = q at MP HP hq
    clear hn hm
    have p0 := hide hp
    clear hp
    have lb_p0 := hide (show w.heap.size ≤ w.heap.size from (unhide HB).size)
    replace HB := hide (below_two (unhide HB) hb)
    clear hb
    go_wp2_with fail
    have old_p0 := p0
    obtain ⟨W1, hW⟩ : ∃ W, W = w1.alloc (.cells #[.slice a1 n c1, .slice b1 m d1] 27) := ⟨_, rfl⟩
    have hn := hide (show Below w1.heap.size w1 W1 by rw [hW]; exact below_new _ (Below.refl _ _) (Nat.le_refl _))
    have R0 := hide (show W1.heap[w1.heap.size]? = some (.cells #[.slice a1 n c1, .slice b1 m d1] 27 (0, 0)) by rw [hW]; exact new_row _ _)
    rw [← hW]
    clear hW
    replace p0 := hide ((unhide p0).next (unhide hn))
    replace HB := hide (below_two (unhide HB) (unhide hn))
    clear hn
    have ge_R0_p0 := hide (show w1.heap.size ≤ w1.heap.size from Nat.le_refl _)
    go_fit (unhide I _ (unhide HB))
    intro r w92 hres
    obtain ⟨a2, c2, b2, d2, rfl, hp, hb⟩ := unhide G _ _ _ hres
    clear hres
    have k_R0_p1 := hide (fun u u' (ho : Only u u' (.slice a2 n c2) (.slice b2 m d2)) (base) (hb : base = W1.heap.size) (hv : PathV u base (.slice a2 n c2) (.slice b2 m d2) n m vf pf) (hr : u.heap[w1.heap.size]? = some (.cells #[.slice a1 n c1, .slice b1 m d1] 27 (0, 0))) => ho.old hv hr (by rw [hb]; exact heap_lt (unhide R0)))
    have ap_p0_p1 := hide ((unhide p0).far hp (Nat.le_refl _))
    have p1 := hide hp
    clear hp
    have lb_p1 := hide (show w.heap.size ≤ W1.heap.size from (unhide HB).size)
    replace R0 := hide (row_next hb (unhide R0))
    replace p0 := hide ((unhide p0).next hb)
    replace HB := hide (below_two (unhide HB) hb)
    clear hb
    obtain ⟨q_R0_0, q_R0_1⟩ := row2 (old_row (.cells #[.slice a2 n c2, .slice b2 m d2] 27) (unhide R0))
    go_wp2_with fail
    clear q_R0_0 q_R0_1
    have old_p1 := p1
    obtain ⟨W3, hW⟩ : ∃ W, W = w92.alloc (.cells #[.slice a2 n c2, .slice b2 m d2] 27) := ⟨_, rfl⟩
    have hn := hide (show Below w92.heap.size w92 W3 by rw [hW]; exact below_new _ (Below.refl _ _) (Nat.le_refl _))
    have R1 := hide (show W3.heap[w92.heap.size]? = some (.cells #[.slice a2 n c2, .slice b2 m d2] 27 (0, 0)) by rw [hW]; exact new_row _ _)
    rw [← hW]
    clear hW
    replace R0 := hide (row_next (unhide hn) (unhide R0))
    replace p0 := hide ((unhide p0).next (unhide hn))
    replace p1 := hide ((unhide p1).next (unhide hn))
    replace HB := hide (below_two (unhide HB) (unhide hn))
    clear hn
    have ge_R1_p1 := hide (show w92.heap.size ≤ w92.heap.size from Nat.le_refl _)
    go_fit (unhide EP _ _ _ _ _ _ _ _ _ _ _ (unhide p1) (unhide p0))
    rintro r w4 ⟨rfl, hb⟩
    replace R0 := hide (row_next hb (unhide R0))
    replace R1 := hide (row_next hb (unhide R1))
    replace p0 := hide ((unhide p0).next hb)
    replace p1 := hide ((unhide p1).next hb)
    replace HB := hide (below_two (unhide HB) hb)
    clear hb
    obtain ⟨q_R1_0, q_R1_1⟩ := row2 (unhide R1)
    go_wp2_with fail
    clear q_R1_0 q_R1_1
    go_fit (unhide MP _ _ _ _ (unhide p1))
    rintro r w5 ⟨rfl, hm, ho⟩
    replace R0 := hide (unhide k_R0_p1 _ _ ho _ rfl (unhide p1) (unhide R0))
    replace R1 := hide (ho.new (unhide old_p1) (unhide R1) (unhide ge_R1_p1))
    replace p0 := hide (ho.keep (unhide p0) (unhide ap_p0_p1))
    replace HB := hide (ho.after (unhide p1) (unhide lb_p1) (unhide HB).size (unhide HB))
    replace p1 := hide hm
    clear hm ho
    obtain ⟨q_R1_0, q_R1_1⟩ := row2 (unhide R1)
    go_wp2_with fail
    clear q_R1_0 q_R1_1
    go_fit (unhide HP _ _ _ _ (unhide p1))
    rintro r w6 ⟨rfl, hb⟩
    replace R0 := hide (row_next hb (unhide R0))
    replace R1 := hide (row_next hb (unhide R1))
    replace p0 := hide ((unhide p0).next hb)
    replace p1 := hide ((unhide p1).next hb)
    replace HB := hide (below_two (unhide HB) hb)
    clear hb
    go_wp2_with fail
    go_fit (unhide I _ (unhide HB))
    intro r w97 hres
    obtain ⟨a3, c3, b3, d3, rfl, hp, hb⟩ := unhide G _ _ _ hres
    clear hres
    have k_R0_p2 := hide (fun u u' (ho : Only u u' (.slice a3 n c3) (.slice b3 m d3)) (base) (hb : base = w6.heap.size) (hv : PathV u base (.slice a3 n c3) (.slice b3 m d3) n m vf pf) (hr : u.heap[w1.heap.size]? = some (.cells #[.slice a1 n c1, .slice b1 m d1] 27 (0, 0))) => ho.old hv hr (by rw [hb]; exact heap_lt (unhide R0)))
    have k_R1_p2 := hide (fun u u' (ho : Only u u' (.slice a3 n c3) (.slice b3 m d3)) (base) (hb : base = w6.heap.size) (hv : PathV u base (.slice a3 n c3) (.slice b3 m d3) n m vf pf) (hr : u.heap[w92.heap.size]? = some (.cells #[.slice a2 n c2, .slice b2 m d2] 27 (0, 0))) => ho.old hv hr (by rw [hb]; exact heap_lt (unhide R1)))
    have ap_p0_p2 := hide ((unhide p0).far hp (Nat.le_refl _))
    have p2 := hide hp
    clear hp
    have lb_p2 := hide (show w.heap.size ≤ w6.heap.size from (unhide HB).size)
    replace R0 := hide (row_next hb (unhide R0))
    replace R1 := hide (row_next hb (unhide R1))
    replace p0 := hide ((unhide p0).next hb)
    replace p1 := hide ((unhide p1).next hb)
    replace HB := hide (below_two (unhide HB) hb)
    clear hb
    obtain ⟨q_R0_0, q_R0_1⟩ := row2 (old_row (.cells #[.slice a3 n c3, .slice b3 m d3] 27) (unhide R0))
    go_wp2_with fail
    clear q_R0_0 q_R0_1
    have old_p2 := p2
    obtain ⟨W8, hW⟩ : ∃ W, W = w97.alloc (.cells #[.slice a3 n c3, .slice b3 m d3] 27) := ⟨_, rfl⟩
    have hn := hide (show Below w97.heap.size w97 W8 by rw [hW]; exact below_new _ (Below.refl _ _) (Nat.le_refl _))
    have R2 := hide (show W8.heap[w97.heap.size]? = some (.cells #[.slice a3 n c3, .slice b3 m d3] 27 (0, 0)) by rw [hW]; exact new_row _ _)
    rw [← hW]
    clear hW
    replace R0 := hide (row_next (unhide hn) (unhide R0))
    replace R1 := hide (row_next (unhide hn) (unhide R1))
    replace p0 := hide ((unhide p0).next (unhide hn))
    replace p2 := hide ((unhide p2).next (unhide hn))
    replace p1 := hide ((unhide p1).next (unhide hn))
    replace HB := hide (below_two (unhide HB) (unhide hn))
    clear hn
    have ge_R2_p2 := hide (show w97.heap.size ≤ w97.heap.size from Nat.le_refl _)
    go_fit (unhide EP _ _ _ _ _ _ _ _ _ _ _ (unhide p2) (unhide p0))
    rintro r w9 ⟨rfl, hb⟩
    replace R0 := hide (row_next hb (unhide R0))
    replace R1 := hide (row_next hb (unhide R1))
    replace R2 := hide (row_next hb (unhide R2))
    replace p0 := hide ((unhide p0).next hb)
    replace p2 := hide ((unhide p2).next hb)
    replace p1 := hide ((unhide p1).next hb)
    replace HB := hide (below_two (unhide HB) hb)
    clear hb
    obtain ⟨q_R1_0, q_R1_1⟩ := row2 (unhide R1)
    go_wp2_with fail
    clear q_R1_0 q_R1_1
    go_fit (unhide HP _ _ _ _ (unhide p1))
    rintro r w10 ⟨rfl, hb⟩
    replace R0 := hide (row_next hb (unhide R0))
    replace R1 := hide (row_next hb (unhide R1))
    replace R2 := hide (row_next hb (unhide R2))
    replace p0 := hide ((unhide p0).next hb)
    replace p2 := hide ((unhide p2).next hb)
    replace p1 := hide ((unhide p1).next hb)
    replace HB := hide (below_two (unhide HB) hb)
    clear hb
    go_wp2_with fail
    go_ret
    exact ⟨rfl, unhide HB⟩
end Go.Proofs.YtkhacppaemilgaaDoor
