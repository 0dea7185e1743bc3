/-
  A region that draws its order and only reads, whose callees make memory of their own: one walk, in the class of all worlds that keep what stood before.
-/
import Derived.Test.YtngnleoggblinaaAgg
import Derived.BigQuiet
namespace Go.Proofs.Ytngnleoggblinaa
open Go.RowKit

/-- The worlds that keep what stands in V, numbered. -/
theorem kept_worlds (V : World) : ∃ (I : Type) (F : I → World), Nonempty I ∧ (∀ u, Below V.heap.size V u → ∃ i, u = F i) ∧ (∀ i, Below V.heap.size V (F i)) :=
  ⟨{u : World // Below V.heap.size V u}, Subtype.val, ⟨⟨V, Below.refl _ _⟩⟩, fun u h => ⟨⟨u, h⟩, rfl⟩, fun i => i.2⟩

theorem wp_region_quiet_in {P : Program} {I : Type} {V : World} {F : I → World} (h1 : ∀ u, Below V.heap.size V u → ∃ i, u = F i) {id : Nat} {Q : Exit → Act → World → Prop} {a : Act} {l : List Oper} (hm : P.follows .mixedOrders = true) (hB : Region.lexB .any l.toArray = true)
    (h : wpQuiet P l.toArray (fun w' => ∃ i, w' = F i) (fun a' => ∀ w', (∃ i, w' = F i) → Q .normal a' w') l a) : (Code.region id l.toArray true).wp P Q a V :=
  wp_region_quiet (C := fun w' => ∃ i, w' = F i) hm hB (h1 _ (Below.refl _ _).drew) (by simpa using h)

theorem quiet_in {P : Program} {I : Type} {V : World} {F : I → World} (h1 : ∀ u, Below V.heap.size V u → ∃ i, u = F i) (h2 : ∀ i, Below V.heap.size V (F i)) {f : FuncId} {args : Array Value} {i : I} {v : Value}
    (h : Calls P f args (F i) fun e w' => e = .returned v ∧ Below (F i).heap.size (F i) w') : Calls P f args (F i) fun e w'' => e = .returned v ∧ ∃ j, w'' = F j :=
  h.mono fun _ _ ⟨he, hb⟩ => ⟨he, h1 _ (below_after hb (h2 i) (Nat.le_refl _))⟩
end Go.Proofs.Ytngnleoggblinaa
