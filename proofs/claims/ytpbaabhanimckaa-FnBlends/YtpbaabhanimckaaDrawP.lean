/-
  DrawPlaces: twelve numbers in 0 .. 9999.
-/
import Derived.Test.YtpbaabhanimckaaDraw
namespace Go.Proofs.Ytpbaabhanimckaa
open Go.RowKit

theorem Try.info3 : (Try.prog.info? 3).map (fun i => (i.zero, i.size, i.bytes)) = some (some (.int .i64 0), 1, 8) := by kernel_rfl

/-- A number as a value. -/
def Nv (n : Nat) : Value := .int .i64 (n : Int)
theorem all_snoc {p : List Nat} {x n : Nat} (h : ∀ y ∈ p, y < n) (hx : x < n) : ∀ y ∈ p ++ [x], y < n := by
  intro y hy
  rcases List.mem_append.1 hy with h' | h'
  · exact h y h'
  · simp at h'; omega
theorem num_row {w : World} {base x : Nat} {v : Value} {p : List Nat} (h : w.ownsRow base 3 1 v (p.map Nv ++ #[Value.int .i64 (x : Int)].toList).length (p.map Nv ++ #[Value.int .i64 (x : Int)].toList)) : w.ownsRow base 3 1 v (p ++ [x]).length ((p ++ [x]).map Nv) := by
  have e : p.map Nv ++ #[Value.int .i64 (x : Int)].toList = (p ++ [x]).map Nv := by simp [Nv]
  rw [e, List.length_map] at h
  exact h

theorem big_no (a : Option Addr) (len cap : Nat) (hl : len ≤ 1048576) (w : World) :
    Calls Try.prog 9 #[.slice a len cap] w fun e w' => e = .returned (.bool false) ∧ w' = w := by
  have hd : decide ((1048576 : Int) < (len : Int)) = false := by simp; omega
  go_enter Try.func9, Try.ntmps9
  go_wp2
  go_ret
  exact ⟨rfl, rfl⟩
theorem big_yes (a : Option Addr) (len cap : Nat) (hl : ¬ len ≤ 1048576) (w : World) :
    Calls Try.prog 9 #[.slice a len cap] w fun e w' => e = .returned (.bool true) ∧ w' = w := by
  have hd : decide ((1048576 : Int) < (len : Int)) = true := by simp; omega
  go_enter Try.func9, Try.ntmps9
  go_wp2
  go_ret
  exact ⟨rfl, rfl⟩

set_option maxHeartbeats 1000000 in
set_option maxRecDepth 100000 in
theorem drawPlaces_any (a : Option Addr) (len cap : Nat) (w : World) (hl : len ≤ 1048576) (hin : InB w.heap.size w a len) :
    Calls Try.prog 14 #[.slice a len cap] w fun e w' => ∃ (v : Value) (p : List Nat), p.length = 12 ∧ (∀ x ∈ p, x < 10000) ∧ e = .returned v ∧ w'.ownsRow w.heap.size 3 1 v p.length (p.map Nv) ∧ Below w.heap.size w w' := by
  obtain ⟨i0, hi, hz0, hz1, hz2⟩ := info_parts Try.info3
  have HI := hide hin
  clear hin
  go_enter Try.func14, Try.ntmps14
  go_wp2_with fail
  refine (l01New_any a len cap _ hl (unhide HI)).mono ?_
  rintro e w1 ⟨g, hgB, rfl, hc1, hb1⟩
  have C1 := hide hc1
  have B1 := hide hb1
  clear hc1 hb1
  go_wp2_with fail
  refine (l01Byte_any g w.heap.size a len cap _ hl hgB ((unhide HI).below (unhide B1)) (unhide C1)).mono ?_
  rintro e w2 ⟨x0, _, rfl, hc2, hg2⟩
  have B2 := hide ((unhide B1).grown hg2 (unhide B1).size (fun k hk => by cases hk; exact hgB))
  have C2 := hide hc2
  clear hc2 hg2
  go_wp2
  go_loopw [4, 5] (fun v i wr => ∃ (k : Nat) (p : List Nat), k ≤ 12 ∧ i = .int .i64 k ∧ p.length = k ∧ (∀ x ∈ p, x < 10000) ∧ wr.ownsRow w2.heap.size 3 1 v p.length (p.map Nv) ∧ Cur wr g a len cap ∧ w2.grownBy wr (some g)) (fun _ i _ => 12 - (intOf i).toNat)
  case atStart => exact ⟨0, [], by omega, rfl, rfl, by simp, World.ownsRow_lit w2 #[] 0 (Nat.le_refl _) (by decide) rfl, (unhide C2).grown (World.grownBy_alloc w2 _ none) (by simp), World.grownBy_alloc w2 _ _⟩
  case round =>
    obtain ⟨k, p, hk, rfl, hlk, hpb, hown, hc, hg⟩ := hrel
    have hgl := (unhide C2).lt
    have C := hide hc
    have G := hide hg
    have O := hide hown
    have LK := hide hlk
    have PB := hide hpb
    clear hc hg hlk hown hpb
    by_cases hlt : k < 12
    · go_wp2_with (first | (go_at_call 31; go_must (refine (l01Below_any g w.heap.size a len cap 10000 (by omega) (by omega) _ hl hgB (Nat.le_trans (unhide B2).size (unhide G).size) (((unhide HI).below (unhide B2)).grown (unhide G) hgB (unhide B2).size) (unhide C)).mono ?_); rintro e w3 ⟨x, hx, rfl, hc1, hg1⟩; have C3 := hide hc1; have G3 := hide (grown_trans (unhide G) hg1); have O3 := hide (own_grown (unhide O) hg1 hgl); clear hc1 hg1) | (at_builtin; go_must (refine wpList_append_cur w3 rfl _ _ 30 3 rfl w2.heap.size i0 (.int .i64 0) 8 Try.underlying30 hi hz0 hz1 hz2 rfl _ (p.map Nv) (by rfl) (by rw [List.length_map]; exact unhide O3) _ (by intro u hu; simp at hu; subst hu; rfl) 1 1 rfl (by rfl) (by have := unhide LK; unfold maxLen; simp; omega) (by have := unhide LK; simp; omega) w2 (Nat.le_refl _) (unhide G3).size g a len cap hgl (unhide G3) (unhide C3) ?_); intro v' w4 hown2 hc2 hg2))
      go_roundw
      case rel => exact ⟨k + 1, p ++ [x], by omega, by go_num, by have := unhide LK; simp; omega, all_snoc (unhide PB) hx, num_row hown2, hc2, hg2⟩
      case measure => simp [intOf]; omega
    · have hke : k = 12 := by omega
      have KE := hide hke
      have hlt' : ¬ (k : Int) < 12 := by omega
      clear hke
      go_wp2
      go_ret
      exact ⟨_, p, (unhide LK).trans (unhide KE), unhide PB, rfl, own_low (unhide O) (unhide B2).size, (unhide B2).grown (unhide G) (unhide B2).size (fun k hk => by cases hk; exact hgB)⟩
end Go.Proofs.Ytpbaabhanimckaa
