/-
  The walks of Decimal, the program's and the specification's.
-/
import Derived.Test.YtfkgfnjbdlkccaaDoorFigure
import Derived.Test.YtfkgfnjbdlkccaaDoorDecs
import Derived.Test.YtfkgfnjbdlkccaaDoorShelf
import Derived.WalkSmall
import Derived.OpenShut
import Derived.Lib.AppendIntMem
namespace Go.Proofs.YtfkgfnjbdlkccaaDoor
open Go.RowKit

/-- One byte as a text. -/
theorem run_one_byte (w : World) (b : UInt8) (X : List UInt8) (hX : X = [b]) (q : Int) (hq : q = (b.toNat : Int)) :
    (convert 22 9 (.slice (some ⟨w.heap.size, 0, none⟩) 1 1)).run Tryd.prog (w.alloc (.cells #[.int .u8 q] 5)) = .ok (.string ⟨X.toArray⟩) (w.alloc (.cells #[.int .u8 q] 5)) := by
  subst hX hq
  exact run_string_owned (base := 0) (n := 1) Tryd.underlying22 Tryd.underlying5 Tryd.underlying9 (World.ownsRow_lit w #[.int .u8 (b.toNat : Int)] 1 (Nat.zero_le _) (by decide) rfl)

theorem neg_tmod (m : Nat) : (-(m : Int)).tmod 10 = -((m : Int) % 10) := by rw [Int.neg_tmod, Int.tmod_eq_emod_of_nonneg (by omega)]
theorem neg_tdiv (m : Nat) : (-(m : Int)).tdiv 10 = -((m : Int) / 10) := by rw [Int.neg_tdiv, Int.tdiv_eq_ediv_of_nonneg (by omega)]

theorem implDecimal_any (n : Int) (h0 : -9223372036854775808 ≤ n) (h1 : n ≤ 9223372036854775807) (w : World) (htab : Lib.TabIs Tryd.prog w "internal/strconv.uint64pow10" .u64 Lib.pow10Tab) :
    Calls Tryd.prog 9 #[.int .i64 n] w fun e w' => e = .returned (.string ⟨(Lib.itoa n).toArray⟩) ∧ Below w.heap.size w w' := by
  have H := hide htab
  clear htab
  go_enter Tryd.func9, Tryd.ntmps9
  go_wp2_with (go_at_call 17; go_must (refine (Tryd.strconv_Itoa n h0 h1 _ (unhide H)).mono ?_); rintro e w' ⟨rfl, k, os, rfl⟩)
  go_ret
  exact ⟨rfl, Lib.below_grow _ _ (Nat.le_refl _) _ _⟩

/-- A table of the library's lies as it lay. -/
theorem tab_below {w w' : World} {name : String} {k : IntKind} {zs : List Int} {g : Nat} (hg : Tryd.prog.globalNamed name = some g) (h : Lib.TabIs Tryd.prog w name k zs) (hb : Below w.heap.size w w') : Lib.TabIs Tryd.prog w' name k zs := by
  have hgs : g < w.heap.size := by
    have h' := h
    unfold Lib.TabIs World.var? at h'
    rw [hg] at h'
    by_cases hc : g < w.heap.size
    · exact hc
    · simp [Array.getElem?_eq_none (Nat.le_of_not_lt hc)] at h'
  exact var?_below hb hg hgs h

theorem pow10_at : Tryd.prog.globalNamed "internal/strconv.uint64pow10" = some 0 := by kernel_rfl

end Go.Proofs.YtfkgfnjbdlkccaaDoor
