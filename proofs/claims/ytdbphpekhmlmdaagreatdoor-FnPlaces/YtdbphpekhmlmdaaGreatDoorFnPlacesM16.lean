/-
  SetS: texts of one claim, in one.
-/
import Derived.Test.YtdbphpekhmlmdaaGreatDoorFnPlacesM6
import Derived.Test.YtdbphpekhmlmdaaGreatDoorFnPlacesM15

/-
  The specification's SetNode. (By changet.py.)
-/
namespace Go.Proofs.YtdbphpekhmlmdaaGreatDoor
open Go.RowKit
set_option linter.unusedVariables false

theorem sg_setn {u : World} {base T n c b j : Nat} {p : Option Addr} {v : Value} {X : Nat → Nd} {A : Nat → Na} (h : SG u base T p n c X A) (hb : T ≤ b) : SG (u.setCell ⟨b, j, none⟩ v) base T p n c X A :=
  let ⟨ys, h1, h2⟩ := h.row; ⟨⟨ys, own_setc_ne h1 (fun k e => by have := h.apt.row k e; omega), h2⟩, fun i hi l hl => let ⟨xs, a1, a2⟩ := h.own i hi l hl; ⟨xs, own_setc_ne a1 (fun k e => by have := (h.apt.blk i hi l hl k e).1; omega), a2⟩, h.apt⟩
theorem nd_setn {u : World} {base b j : Nat} {v : Value} {x : Nd} {s : Na} (h : NdG u base x s) (hb : ∀ l, l < 5 → ∀ q, (lvl x s l).ownBlock = some q → q < b) : NdG (u.setCell ⟨b, j, none⟩ v) base x s :=
  ⟨fun l hl => let ⟨xs, a1, a2⟩ := h.own l hl; ⟨xs, own_setc_ne a1 (fun k e => by have := hb l hl k e; omega), a2⟩, h.inj⟩

end Go.Proofs.YtdbphpekhmlmdaaGreatDoor
