/-
  How many points a list has that came in, by its bulk.
-/
import Derived.Test.YthkcfgnnpcamiaaOpenPts
import Derived.JoinedCond
namespace Go.Proofs.Ythkcfgnnpcamiaa
open Go.ChangeShapes Go.WideShapes Go.RowKit

theorem bulk_pairs {H : Type} (D0 D1 : Nat → DataW H) : ∀ l : List Nat, 3 * l.length ≤ Rows.uptoBulkAll (l.map fun i => .agg [D0 i, D1 i])
  | [] => by simp [Rows.uptoBulkAll]
  | i :: l => by
    have ih := bulk_pairs D0 D1 l
    have one : ∀ d : DataW H, 1 ≤ Rows.uptoBulk d := fun d => by cases d with
      | lit l => cases l <;> simp [Rows.uptoBulk]
      | nil => simp [Rows.uptoBulk]
      | ptr d => simp [Rows.uptoBulk]
      | slice elems spare => simp [Rows.uptoBulk]
      | agg parts => simp [Rows.uptoBulk]
      | iface t d => simp [Rows.uptoBulk]
      | map entries => simp [Rows.uptoBulk]
      | held h => simp [Rows.uptoBulk]
    have h0 := one (D0 i)
    have h1 := one (D1 i)
    simp only [List.map_cons, Rows.uptoBulkAll, Rows.uptoBulk, List.length_cons]
    omega
theorem bulk_points {H : Type} {enc : TypeId × Value → H} {P : Program} {w : World} {base : Nat} {sp : Nat → Bool} {held : Bool} {t e : TypeId} {f0 f1 : Field} {a : Option Addr} {n c fuel : Nat} {x : DataW H × List MemPlace}
    (ht : P.underlying t = some (.slice e)) (he : P.underlying e = some (.struct #[f0, f1])) (ce : P.cellsOf e = 2) (o0 : f0.offset = 0) (o1 : f1.offset = 1) (c0 : P.cellsOf f0.type = 1) (c1 : P.cellsOf f1.type = 1)
    (h : DataW.trod enc P w base sp held fuel t [.slice a n c] = some x) : 3 * n ≤ Rows.uptoBulk x.1 := by
  rcases Go.Deep.open_slice_pairs ht he ce o0 o1 c0 c1 h with ⟨hcs, _⟩ | ⟨b, len, cap, m, q, V0, V1, D0, D1, P0, P1, hcs, _, hl, hm, hmm, hx, _⟩
  · simp at hcs
    obtain ⟨rfl, rfl, rfl⟩ := hcs
    omega
  · simp at hcs
    obtain ⟨rfl, rfl, rfl⟩ := hcs
    rw [hx]
    have h1 := bulk_pairs D0 D1 (List.range n)
    rw [List.length_range] at h1
    simp only [Rows.uptoBulk]
    omega
theorem bulk_first {H : Type} {d : DataW H} {ds : List (DataW H)} {n : Nat} (hk : Rows.uptoSmall H (d :: ds) = true) (h : 3 * n ≤ Rows.uptoBulk d) : n ≤ 349525 := by
  have h1 : Rows.uptoBulkAll (d :: ds) ≤ 1048576 := of_decide_eq_true hk
  simp only [Rows.uptoBulkAll] at h1
  omega
end Go.Proofs.Ythkcfgnnpcamiaa
