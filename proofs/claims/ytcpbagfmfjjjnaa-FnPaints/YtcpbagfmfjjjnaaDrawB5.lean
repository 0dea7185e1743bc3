/-
  A drawn box of any kind: l05Box.
-/
import Derived.Test.YtcpbagfmfjjjnaaDrawN
import Derived.Test.YtcpbagfmfjjjnaaDrawBx
import Derived.Test.YtcpbagfmfjjjnaaMoveK
import Derived.Test.YtcpbagfmfjjjnaaPathL
import Derived.Deep.RegionLaw
import Derived.Deep.DeepCutAuto
import Derived.Deep.DeepFit
namespace Go.Proofs.Ytcpbagfmfjjjnaa
open Go.RowKit
set_option linter.unusedVariables false

theorem pick3Row (w : World) (p q r : Int) (hp : -9223372036854775808 ≤ p ∧ p ≤ 9223372036854775807) (hq : -9223372036854775808 ≤ q ∧ q ≤ 9223372036854775807) (hr : -9223372036854775808 ≤ r ∧ r ≤ 9223372036854775807) : IntRow (w.alloc (.cells #[.int .i64 p, .int .i64 q, .int .i64 r] 3)) w.heap.size 3 := by
  intro j hj
  have h := heap_alloc_new w (.cells #[.int .i64 p, .int .i64 q, .int .i64 r] 3)
  generalize w.alloc (.cells #[.int .i64 p, .int .i64 q, .int .i64 r] 3) = W at h ⊢
  have h5 : j = 0 ∨ j = 1 ∨ j = 2 := by omega
  rcases h5 with rfl | rfl | rfl
  · exact ⟨p, hp, by simp [World.cell?, h]⟩
  · exact ⟨q, hq, by simp [World.cell?, h]⟩
  · exact ⟨r, hr, by simp [World.cell?, h]⟩

/-- A number is picked out of three that have just been written down. -/
theorem pick3_any {w u : World} {g B : Nat} {a : Option Addr} {len cap : Nat} (h : DS w u g B a len cap) (hl : len ≤ 1048576) (p q r : Int) (hp : -9223372036854775808 ≤ p ∧ p ≤ 9223372036854775807) (hq : -9223372036854775808 ≤ q ∧ q ≤ 9223372036854775807) (hr : -9223372036854775808 ≤ r ∧ r ≤ 9223372036854775807) :
    Calls Try.prog 54 #[.pointer (some ⟨g, 0, none⟩), .slice (some ⟨u.heap.size, 0, none⟩) 3 3] (u.alloc (.cells #[.int .i64 p, .int .i64 q, .int .i64 r] 3)) fun e w' => ∃ z : Int, e = .returned (.int .i64 z) ∧ DS w w' g B a len cap ∧ (u.alloc (.cells #[.int .i64 p, .int .i64 q, .int .i64 r] 3)).grownBy w' (some g) := by
  have ha := h.alloc (.cells #[.int .i64 p, .int .i64 q, .int .i64 r] 3)
  refine (l01PickInt_any g B a len cap u.heap.size 3 (by omega) (by omega) _ hl ha.lg ha.le ha.inb ha.cur (by have := h.lt; have := h.size; omega) (by simp) (pick3Row u p q r hp hq hr)).mono ?_
  rintro e w' ⟨z, _, he, hc, hg⟩
  exact ⟨z, he, ha.next hc hg, hg⟩

theorem once_any {w u : World} {g B : Nat} {a : Option Addr} {len cap : Nat} (h : DS w u g B a len cap) (hl : len ≤ 1048576) (n : Nat) (hn : 0 < n) (hn2 : n ≤ 4294967296) :
    Calls Try.prog 42 #[.pointer (some ⟨g, 0, none⟩), .int .i64 (n : Int)] u fun e w' => ∃ b : Bool, e = .returned (.bool b) ∧ DS w w' g B a len cap ∧ u.grownBy w' (some g) :=
  (l01Once_any g B a len cap n hn hn2 u hl h.lg h.le h.inb h.cur).mono fun _ _ ⟨b, he, hc, hg⟩ => ⟨b, he, h.next hc hg, hg⟩

end Go.Proofs.Ytcpbagfmfjjjnaa
