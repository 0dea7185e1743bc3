/-
  The walk of DrawPoints: a row of four to eight drawn points.
-/
import Derived.Test.YticgjigjlclefaaDrawPt
import Derived.Test.YticgjigjlclefaaPtCur
namespace Go.Proofs.Yticgjigjlclefaa
open Go.RowKit

def SmallPt (p : Int × Int) : Prop := (-300 ≤ p.1 ∧ p.1 ≤ 3299) ∧ (-300 ≤ p.2 ∧ p.2 ≤ 3299)
theorem small_snoc {l : List (Int × Int)} {p : Int × Int} (h : ∀ q ∈ l, SmallPt q) (hp : SmallPt p) : ∀ q ∈ l ++ [p], SmallPt q := by
  intro q hq; rcases List.mem_append.1 hq with h1 | h1
  · exact h q h1
  · simp at h1; subst h1; exact hp

set_option maxHeartbeats 2000000 in
set_option maxRecDepth 100000 in
theorem drawPoints_any (a : Option Addr) (len cap : Nat) (w : World) (hl : len ≤ 1048576) (hin : InB w.heap.size w a len) :
    Calls Try.prog 17 #[.slice a len cap] w fun e w' => ∃ (v : Value) (l : List (Int × Int)), 4 ≤ l.length ∧ l.length ≤ 8 ∧ (∀ q ∈ l, SmallPt q) ∧ e = .returned v ∧ w'.ownsRow w.heap.size 27 2 v l.length (ptsV l) ∧ Below w.heap.size w w' := by
  obtain ⟨i0, hi, hz0, hz1, hz2⟩ := info_parts infoPoint
  have HI := hide hin
  clear hin
  go_enter Try.func17, Try.ntmps17
  go_wp2_with fail
  refine (l01New_any a len cap _ hl (unhide HI)).mono ?_
  rintro e w1 ⟨g, hg, rfl, hc, hb1⟩
  have D1 := hide (DS.start hc ((unhide HI).below hb1) hb1.size hg)
  have B1 := hide hb1
  clear hc hb1
  go_wp2
  go_loopw [4, 5] (fun v i u => ∃ (k : Nat) (l : List (Int × Int)), k ≤ 8 ∧ i = .int .i64 k ∧ l.length = k ∧ (∀ q ∈ l, SmallPt q) ∧ u.ownsRow w1.heap.size 27 2 v l.length (ptsV l) ∧ DS w1 u g w.heap.size a len cap) (fun _ i _ => 8 - (intOf i).toNat)
  case atStart => exact ⟨0, [], by omega, rfl, rfl, by simp, World.ownsRow_lit w1 #[] 0 (Nat.le_refl _) (by decide) rfl, (unhide D1).alloc _⟩
  case round =>
    obtain ⟨k, l, hk, rfl, hlk, hsm, hown, hd⟩ := hrel
    have hgl := (unhide D1).lt
    have D := hide hd
    have O := hide hown
    have LK := hide hlk
    have SM := hide hsm
    clear hd hown hlk hsm
    go_wp2_with fail
    refine (draw_any (unhide D) hl 5 (by omega) (by omega)).mono ?_
    rintro e w2 ⟨x, hx, rfl, d2, g2⟩
    replace O := hide (own_grown (unhide O) g2 hgl)
    have D2 := hide d2
    clear d2 g2 D
    have vv : IntKind.i64.wrap (4 + (x : Int)) = 4 + (x : Int) := IntWalk.i64_in _ (by omega)
    by_cases hlt : (k : Int) < 4 + (x : Int)
    · go_wp2_with fail
      refine (l04Point_any g _ a len cap _ hl (unhide D2).again).mono ?_
      rintro e w3 ⟨px, py, hpx, hpy, rfl, d3⟩
      replace O := hide (own_grown (unhide O) d3.gb hgl)
      have D3 := hide ((unhide D2).next d3.cur d3.gb)
      clear d3 D2
      have SP := hide (show SmallPt (px, py) from ⟨hpx, hpy⟩)
      clear hpx hpy
      go_wp2_with (first | (at_builtin; go_must (refine wpList_append_curP w3 rfl _ _ 34 27 rfl w1.heap.size i0 (.agg #[.int .i64 0, .int .i64 0]) 16 Try.underlying34 hi hz0 hz1 hz2 rfl _ l (by rfl) (unhide O) px py 1 rfl (by have := unhide LK; unfold maxLen; omega) (by have := unhide LK; omega) w1 (Nat.le_refl _) (unhide D3).size g a len cap hgl (unhide D3).gb (unhide D3).cur ?_); intro v' w4 hown2 hc2 hg2))
      go_roundw
      case rel => exact ⟨k + 1, l ++ [(px, py)], by omega, by go_num, by have := unhide LK; simp; omega, small_snoc (unhide SM) (unhide SP), hown2, (unhide D1).next hc2 hg2⟩
      case measure => simp [intOf]; omega
    · go_wp2
      go_ret
      exact ⟨_, l, by have := unhide LK; omega, by have := unhide LK; omega, unhide SM, rfl, own_low (unhide O) (unhide B1).size, (unhide D2).below (unhide B1) (unhide B1).size⟩
end Go.Proofs.Yticgjigjlclefaa
