/-
  The walk of the program's Unhex: two loops, the inner one left by the outer one's label.
-/
import Derived.Test.YtfkgfnjbdlkccaaDoorUnhexS
import Derived.Deep.LoopGhost
import Derived.Deep.QuietTactic
import Derived.BigQuiet
namespace Go.Proofs.YtfkgfnjbdlkccaaDoor
open Go.RowKit

theorem made_zero {w : World} {base n : Nat} {v : Value} (h : w.ownsRow base 5 1 v n (madeCells (Value.int .u8 0).cells (n * 1)).toList) : w.ownsRow base 5 1 v n ((List.replicate n (0 : UInt8)).map Bv) := by
  have e : (madeCells (Value.int .u8 0).cells (n * 1)).toList = (List.replicate n (0 : UInt8)).map Bv := by
    rw [List.map_replicate, Nat.mul_one]
    exact toList_madeCells_one _ _
  rw [e] at h
  exact h
theorem own_drewN {w : World} {base e size n : Nat} {v : Value} {xs : List Value} (h : w.ownsRow base e size v n xs) (k : Nat) : (w.drewN k).ownsRow base e size v n xs := h

theorem set_byte {w : World} {base n j k : Nat} {v : Value} {row : List UInt8} {x u : Nat} (h : x * 16 + u < 256) (ho : w.ownsRow base 5 1 v n ((row.map Bv).set j (.int .u8 ((x : Int) * 16 + (u : Int))))) :
    (w.drewN k).ownsRow base 5 1 v n ((row.set j (UInt8.ofNat (x * 16 + u))).map Bv) := by
  have e : (row.set j (UInt8.ofNat (x * 16 + u))).map Bv = (row.map Bv).set j (.int .u8 ((x : Int) * 16 + (u : Int))) := by
    rw [List.map_set]
    congr 1
    unfold Bv
    rw [ofNat_toNat _ h]
    simp
  rw [e]
  exact ho

theorem implUnhex_no (s : ByteArray) (hs : 40000 < s.size ∨ s.size % 2 ≠ 0) (w : World) :
    Calls Tryd.prog 14 #[.string s] w fun e w' => e = .returned (.tuple #[.string ⟨#[]⟩, .bool false]) ∧ Below w.heap.size w w' := by
  by_cases h : s.size % 2 = 0
  · have h2 : ((s.size : Int) % 2 != 0) = false := by simp; omega
    have h3 : (40000 : Int) < (s.size : Int) := by omega
    clear hs h
    go_enter Tryd.func14, Tryd.ntmps14
    go_wp2
    go_step3
    go_wp2
    rw [Exit.noGoto_ret]
    go_ret2
    exact ⟨rfl, Below.refl _ _⟩
  · have h2 : ((s.size : Int) % 2 != 0) = true := by rw [bne_iff_ne]; omega
    clear hs h
    go_enter Tryd.func14, Tryd.ntmps14
    go_wp2
    go_step3
    go_wp2
    rw [Exit.noGoto_ret]
    go_ret2
    exact ⟨rfl, Below.refl _ _⟩

set_option maxHeartbeats 1000000 in
set_option maxRecDepth 100000 in
theorem implUnhex_yes (s : ByteArray) (hs : s.size ≤ 40000) (he : s.size % 2 = 0) (w : World) :
    Calls Tryd.prog 14 #[.string s] w fun e w' => e = .returned (.tuple #[.string ⟨(uhA s).toArray⟩, .bool (uhB s)]) ∧ Below w.heap.size w w' := by
  obtain ⟨i0, hi, hz0, hz1, hz2⟩ := info_parts Tryd.info5
  have hb0 : ((s.size : Int) % 2 != 0) = false := by simp; omega
  have HE := hide he
  clear he
  go_enter Tryd.func14, Tryd.ntmps14
  go_wp2
  go_step3
  go_wp2_with (at_make; go_must (refine wpList_make_full w rfl _ _ 22 rfl w.heap.size 5 i0 (.int .u8 0) 1 Tryd.underlying22 hi hz0 hz1 .i64 .i64 _ _ (s.size / 2) (by rfl) (by rfl) (by omega) (by omega) (by rw [hz2]; omega) (by unfold maxLen; omega) (Nat.le_refl _) ?_); intro w1 hown1 hg1)
  go_step3
  go_wp2
  go_loopg [5] s.size (fun gk i wr => ∃ (j : Nat) (row : List UInt8), j + gk = s.size ∧ i = .int .i64 j ∧ ImAt s j row ∧ wr.ownsRow w.heap.size 5 1 (.slice (some ⟨w.heap.size, 0, none⟩) (s.size / 2) (s.size / 2)) (s.size / 2) (row.map Bv) ∧ Below w.heap.size w wr)
  case atStart => exact ⟨0, List.replicate (s.size / 2) 0, by omega, rfl, ImAt.start s, made_zero hown1, (Below.refl _ _).grown hg1 (Nat.le_refl _) (by simp)⟩
  case round =>
    obtain ⟨j, row, hjg, rfl, R, hown, hnx⟩ := hrel
    have HJ := hide hjg
    clear hjg hown1 hg1
    cases gk with
    | zero =>
      have hj : ¬ (j : Int) < (s.size : Int) := by have := unhide HJ; omega
      have H := hide (uh_some (R.fin (unhide HJ) (unhide HE)))
      have hcv := run_string_owned Tryd.underlying22 Tryd.underlying5 Tryd.underlying9 hown
      clear hown
      go_wp2
      try rw [Exit.noGoto_ret]
      go_ret2
      exact ⟨ret_str_ok (unhide H).1 (unhide H).2, hnx⟩
    | succ g =>
      have hlt : j < s.size := by have := unhide HJ; omega
      have hj : (j : Int) < (s.size : Int) := by omega
      obtain ⟨x, hx, hx16, hrl, hstep⟩ := R.cell hlt (unhide HE)
      have HS := hide hstep
      have HX := hide hx
      clear hstep hx
      go_wp2
      go_loopg [6] 16 (fun g2 v wx => ∃ u : Nat, u + g2 = 16 ∧ v = .int .i64 u ∧ (∀ t, t < u → hexd t ≠ s[j]) ∧ wx.ownsRow w.heap.size 5 1 (.slice (some ⟨w.heap.size, 0, none⟩) (s.size / 2) (s.size / 2)) (s.size / 2) (row.map Bv) ∧ Below w.heap.size w wx)
      case atStart => exact ⟨0, by omega, rfl, fun t ht => absurd ht (by omega), hown, hnx⟩
      case round =>
        obtain ⟨u, hug, rfl, hno, hown2, hnx2⟩ := hrel
        have HU := hide hug
        have HN := hide hno
        clear hug hno hown hnx
        cases gk with
        | zero =>
          have hu : ¬ (u : Int) < 16 := by have := unhide HU; omega
          have H := hide (uh_none (R.bad hlt (unhide HE) (hexv_none (fun t ht => unhide HN t (by have := unhide HU; omega)))))
          go_wp2
          try rw [Exit.noGoto_ret]
          go_ret2
          exact ⟨ret_str_ok (unhide H).1 (unhide H).2, hnx2⟩
        | succ g2 =>
          have hu : (u : Int) < 16 := by have := unhide HU; omega
          have hu16 : u < (ByteArray.mk #[48, 49, 50, 51, 52, 53, 54, 55, 56, 57, 97, 98, 99, 100, 101, 102]).size := by show u < 16; omega
          have hfig := figure_at u hu16
          by_cases heq : hexd u = s[j]
          · have hc : ((s[j].toNat : Int) == ((ByteArray.mk #[48, 49, 50, 51, 52, 53, 54, 55, 56, 57, 97, 98, 99, 100, 101, 102])[u].toNat : Int)) = true := by rw [hfig, heq]; simp
            have R' := unhide HS u (by rw [← heq]; exact hexv_d (by omega))
            have hcell : wr.cell? ⟨w.heap.size, j / 2, none⟩ = some (.int .u8 (x.toNat : Int)) := by
              rw [hown2.cellAt (j / 2) (by have := unhide HE; omega)]
              rw [List.getElem?_map, unhide HX]
              rfl
            have hfr := hown2.frozenAt (j / 2)
            have hj2 : (j : Int) / 2 < (s.size : Int) / 2 := by have := unhide HE; omega
            have hst := (hown2.stored (j / 2) (.int .u8 ((x.toNat : Int) * 16 + (u : Int)))).1
            have hbl := hnx2.setCell (p := ⟨w.heap.size, j / 2, none⟩) (Nat.le_refl _) (.int .u8 ((x.toNat : Int) * 16 + (u : Int)))
            have HST := hide hst
            clear hfig heq hst hown2
            go_wp2
            go_quiet (fail)
            go_wp2
            go_roundg g
            case measure => omega
            case rel => exact ⟨j + 1, row.set (j / 2) (UInt8.ofNat (x.toNat * 16 + u)), by have := unhide HJ; omega, by go_num, R', set_byte (by omega) (unhide HST), below_drewN hbl _⟩
          · have hc : ((s[j].toNat : Int) == ((ByteArray.mk #[48, 49, 50, 51, 52, 53, 54, 55, 56, 57, 97, 98, 99, 100, 101, 102])[u].toNat : Int)) = false := by
              rw [hfig]; rw [beq_eq_false_iff_ne]; intro h; exact heq (u8_eq (by omega))
            clear hfig
            go_wp2
            go_quiet (fail)
            go_wp2
            go_roundg g2
            case measure => omega
            case rel => exact ⟨u + 1, by have := unhide HU; omega, by go_num, fun t ht => by
              by_cases h : t = u
              · subst h; exact heq
              · exact unhide HN t (by omega), own_drewN hown2 _, below_drewN hnx2 _⟩

end Go.Proofs.YtfkgfnjbdlkccaaDoor
