/-
  A drawn text: some bytes of the length that was asked for.
-/
import Derived.Test.YtkhacppaemilgaaDoorDraw
namespace Go.Proofs.YtkhacppaemilgaaDoor
open Go.RowKit

set_option maxHeartbeats 1000000 in
set_option maxRecDepth 100000 in
theorem l01Text_any (g B : Nat) (a : Option Addr) (len cap : Nat) (n : Nat) (hn : n ≤ 5000) (w : World) (hl : len ≤ 1048576) (hB : B ≤ g) (hs : B ≤ w.heap.size) (hin : InB B w a len) (hc : Cur w g a len cap) :
    Calls Tryd.prog 54 #[.pointer (some ⟨g, 0, none⟩), .int .i64 (n : Int)] w fun e w' => ∃ l : List UInt8, l.length = n ∧ e = .returned (.string ⟨l.toArray⟩) ∧ Cur w' g a len cap ∧ w.grownBy w' (some g) := by
  obtain ⟨i0, hi, hz0, hz1, hz2⟩ := info_parts Tryd.info5
  have hgl := hc.lt
  have HC := hide hc
  have HI := hide hin
  clear hc hin
  have hn0 : ¬ (5000 : Int) < (n : Int) := by omega
  go_enter Tryd.func54, Tryd.ntmps54
  go_wp2
  go_loopw [5, 6] (fun v i wr => ∃ (k : Nat) (l : List UInt8), k ≤ n ∧ i = .int .i64 k ∧ l.length = k ∧ wr.ownsRow w.heap.size 5 1 v l.length (l.map Bv) ∧ Cur wr g a len cap ∧ w.grownBy wr (some g)) (fun _ i _ => n - (intOf i).toNat)
  case atStart => exact ⟨0, [], by omega, rfl, rfl, World.ownsRow_lit w #[] 0 (Nat.le_refl _) (by decide) rfl, (unhide HC).grown (World.grownBy_alloc w _ none) (by simp), World.grownBy_alloc w _ _⟩
  case round =>
    obtain ⟨k, l, hk, rfl, hlk, hown, hc, hg⟩ := hrel
    have C := hide hc
    have G := hide hg
    have O := hide hown
    have LK := hide hlk
    clear hc hg hlk
    by_cases hlt : k < n
    · clear hown
      go_wp2_with (first | (go_at_call 53; go_must (refine (l01Byte_any g B a len cap _ hl hB ((unhide HI).grown (unhide G) hB hs) (unhide C)).mono ?_); rintro e w1 ⟨x, hx, rfl, hc1, hg1⟩; have C1 := hide hc1; have G1 := hide (grown_trans (unhide G) hg1); have O1 := hide (own_grown (unhide O) hg1 hgl); clear hc1 hg1) | (at_builtin; go_must (refine wpList_append_cur w1 rfl _ _ 22 5 rfl w.heap.size i0 (.int .u8 0) 1 Tryd.underlying22 hi hz0 hz1 hz2 rfl _ (l.map Bv) (by rfl) (by rw [List.length_map]; exact unhide O1) _ (by intro u hu; simp at hu; subst hu; rfl) 1 1 rfl (by rfl) (by have := unhide LK; unfold maxLen; simp; omega) (by have := unhide LK; simp; omega) w (Nat.le_refl _) (unhide G1).size g a len cap hgl (unhide G1) (unhide C1) ?_); intro v' w2 hown2 hc2 hg2))
      go_roundw
      case rel => exact ⟨k + 1, l ++ [UInt8.ofNat x], by omega, by go_num, by have := unhide LK; simp; omega, byte_row hx hown2, hc2, hg2⟩
      case measure => simp [intOf]; omega
    · have hke : k = n := by omega
      have hcv := run_string_owned Tryd.underlying22 Tryd.underlying5 Tryd.underlying9 hown
      have hlt' : ¬ (k : Int) < (n : Int) := by omega
      have KE := hide hke
      clear hown hke
      go_wp2
      go_ret
      exact ⟨l, (unhide LK).trans (unhide KE), rfl, unhide C, unhide G⟩
end Go.Proofs.YtkhacppaemilgaaDoor
