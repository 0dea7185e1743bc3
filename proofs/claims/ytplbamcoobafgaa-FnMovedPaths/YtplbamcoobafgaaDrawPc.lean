/-
  Drawn right paths, and lists of numbers held against each other.
-/
import Derived.Test.YtplbamcoobafgaaDrawPb
namespace Go.Proofs.Ytplbamcoobafgaa
open Go.RowKit

set_option maxHeartbeats 4000000 in
set_option maxRecDepth 100000 in
theorem drawRightPath_any (a : Option Addr) (len cap : Nat) (w : World) (hl : len ≤ 1048576) (hin : InB w.heap.size w a len) :
    Calls Try.prog 13 #[.slice a len cap] w fun e w' => ∃ v1 v2, e = .returned (.agg #[v1, v2]) ∧ DrawnP w v1 v2 w' ∧ Below w.heap.size w w' := by
  have HI := hide hin
  clear hin
  go_enter Try.func13, Try.ntmps13
  go_wp2_with fail
  obtain ⟨W, hW⟩ : ∃ W, W = w.alloc (.cells #[.slice none 0 0, .slice none 0 0] 27) := ⟨_, rfl⟩
  have R := hide (show W.heap[w.heap.size]? = some (.cells #[.slice none 0 0, .slice none 0 0] 27 (0, 0)) by rw [hW]; exact al1_0 _ _)
  have HB := hide (show Below w.heap.size w W by rw [hW]; exact al1_below _ _)
  rw [← hW]
  clear hW
  refine (l01New_any a len cap _ hl ((unhide HI).next (unhide HB))).mono ?_
  rintro e w1 ⟨g, hg, rfl, hc, hb1⟩
  have D1 := hide (DS.start hc (((unhide HI).next (unhide HB)).below hb1) hb1.size hg)
  have B1 := hide hb1
  have lw : Hid (w.heap.size < w1.heap.size) := heap_lt (row_next hb1 (unhide R))
  clear hc hb1
  go_wp2_with fail
  refine (l06Path_any g _ a len cap _ hl (unhide D1)).mono ?_
  rintro e w2 ⟨v1, v2, rfl, hd, d2⟩
  have hb2 := d2.below (unhide B1) (unhide B1).size
  replace R := hide (row_next hb2 (unhide R))
  have HB2 := hide (below_two (unhide HB) hb2)
  clear d2 hb2
  obtain ⟨n, m, vf, pf, PV, hr, hn, h1, h2⟩ := hd
  obtain ⟨a1, c1, a2, c2, rfl, rfl⟩ := (show ∃ a c b d, v1 = .slice a n c ∧ v2 = .slice b m d from by obtain ⟨xs, ys, o, _, _⟩ := PV; exact o.form)
  replace PV := hide PV
  obtain ⟨e0, e1⟩ := row2 (unhide R)
  obtain ⟨f0, f1⟩ := free2 (unhide R)
  replace hr := hide hr
  replace hn := hide hn
  go_wp2_with fail
  refine bodyPost_ret (v := .agg #[.slice a1 n c1, .slice a2 m c2]) (by simp [results, Try.results13, go_sem, e0, e1]) rfl ?_
  exact ⟨_, _, rfl, ⟨n, m, vf, pf, ((unhide PV).put ((unhide PV).notOld (unhide lw))).low (Nat.le_of_lt (unhide lw)), unhide hr, unhide hn, h1, h2⟩, below_put2 (unhide HB2) (Nat.le_refl _) _ _⟩

set_option maxHeartbeats 4000000 in
set_option maxRecDepth 100000 in
theorem sameInts_any (f : Nat → Int) (ao bo : Option Addr) (n cap cap' : Nat) (hn : n ≤ 1048576) (w : World) (HA : ∀ i, i < n → IntAt w ao i (f i)) (HB : ∀ i, i < n → IntAt w bo i (f i)) :
    Calls Try.prog 15 #[.slice ao n cap, .slice bo n cap'] w fun r w' => r = .returned (.bool true) ∧ Below w.heap.size w w' := by
  replace HA := hide HA
  replace HB := hide HB
  go_enter Try.func15, Try.ntmps15
  go_wp2_with fail
  go_loopw [5] (fun i u => ∃ k : Nat, k ≤ n ∧ i = .int .i64 k ∧ Below w.heap.size w u) (fun i _ => n - (intOf i).toNat)
  case atStart => exact ⟨0, Nat.zero_le _, rfl, Below.refl _ _⟩
  case round =>
    obtain ⟨k, hk, rfl, hb⟩ := hrel
    by_cases hlt : k < n
    · have HP := (unhide HA k hlt).next hb
      have HQ := (unhide HB k hlt).next hb
      generalize f k = z at HP HQ
      obtain ⟨s, o, rfl, g0⟩ := HP
      obtain ⟨s', o', rfl, h0⟩ := HQ
      replace hb := hide hb
      go_wp2_with fail
      obtain ⟨I, F, hI, F1, F2⟩ := kept_worlds wr
      have a0 : ∀ i, (F i).cell? ⟨s, o + k, none⟩ = some (.int .i64 z) := fun i => kc (F2 i) g0
      have b0 : ∀ i, (F i).cell? ⟨s', o' + k, none⟩ = some (.int .i64 z) := fun i => kc (F2 i) h0
      clear g0 h0
      replace F1 := hide F1
      replace F2 := hide F2
      refine wp_region_quiet_in (unhide F1) (by kernel_rfl) (by kernel_rfl) ?_
      repeat (go_big_quiet_step (fail))
      refine wpQuiet_nil ?_
      rintro _ ⟨i, rfl⟩
      have hF := unhide F2 i
      clear F1 a0 b0
      go_wp2_with fail
      go_roundw
      case rel => exact ⟨k + 1, by omega, by go_num, below_two (unhide hb) hF⟩
      case measure => simp [intOf]; omega
    · have hke : k = n := by omega
      subst hke
      go_wp2_with fail
      go_ret
      exact ⟨rfl, hb⟩
end Go.Proofs.Ytplbamcoobafgaa
