/-
  Two readings of one text agree.
-/
import Derived.Test.YtkhacppaemilgaaDoorParseS
namespace Go.Proofs.YtkhacppaemilgaaDoor
open Go.RowKit

def Fix (s : List UInt8) (ok : Bool) (vs : List Int) (ps : List (Int × Int)) : Prop :=
  (ok = true ∧ Right (listI vs) vs.length (listP ps) ps.length ∧ textN (listI vs) (listP ps) vs.length = s ∧ AllQ s (fun vf n pf m => n = vs.length ∧ m = ps.length ∧ (∀ j, j < n → vf j = listI vs j) ∧ ∀ j, j < m → pf j = listP ps j)) ∨
  (ok = false ∧ vs = [] ∧ ps = [] ∧ AllQ s (fun _ _ _ _ => False))
theorem Fix.small {s : List UInt8} {ok : Bool} {vs : List Int} {ps : List (Int × Int)} (h : Fix s ok vs ps) : vs.length ≤ 24 ∧ ps.length ≤ 24 := by
  rcases h with ⟨_, h, _⟩ | ⟨_, rfl, rfl, _⟩
  · exact ⟨h.nv24, h.np24⟩
  · simp
theorem ix_map (vs : List Int) : IxAt (vs.map Iv) (listI vs) vs.length := ix_list vs
theorem ParseRes.first {w w' : World} {r : Ending} {s : List UInt8} (h : ParseRes w r w' s) : ∃ (ok : Bool) (vs : List Int) (ps : List (Int × Int)), Fix s ok vs ps ∧ ∃ a c b d, r = .returned (.tuple #[.agg #[.slice a vs.length c, .slice b ps.length d], .bool ok]) ∧ PathV w' w.heap.size (.slice a vs.length c) (.slice b ps.length d) vs.length ps.length (listI vs) (listP ps) ∧ Below w.heap.size w w' := by
  rcases h with ⟨v1, v2, vs, ps, rfl, ho, hR, ht, hq, hb⟩ | ⟨rfl, hq, hb⟩
  · obtain ⟨a, c, b, d, rfl, rfl⟩ := ho.form
    exact ⟨true, vs, ps, .inl ⟨rfl, hR, ht, hq⟩, a, c, b, d, rfl, ⟨_, _, ho, ix_map vs, px_list ps⟩, hb⟩
  · exact ⟨false, [], [], .inr ⟨rfl, rfl, rfl, hq⟩, none, 0, none, 0, rfl, ⟨[], [], ⟨World.ownsRow_nil _ _ _ _, World.ownsRow_nil _ _ _ _, .inl rfl⟩, fun j hj => absurd hj (by simp), fun j hj => absurd hj (by simp)⟩, hb⟩
theorem ParseRes.again {w w' : World} {r : Ending} {s : List UInt8} {ok : Bool} {vs : List Int} {ps : List (Int × Int)} (hF : Fix s ok vs ps) (h : ParseRes w r w' s) : ∃ a c b d, r = .returned (.tuple #[.agg #[.slice a vs.length c, .slice b ps.length d], .bool ok]) ∧ PathV w' w.heap.size (.slice a vs.length c) (.slice b ps.length d) vs.length ps.length (listI vs) (listP ps) ∧ Below w.heap.size w w' := by
  rcases hF with ⟨rfl, hR, ht, hq⟩ | ⟨rfl, rfl, rfl, hq⟩
  · rcases h with ⟨v1, v2, vs', ps', rfl, ho, hR', ht', _, hb⟩ | ⟨rfl, hq', hb⟩
    · obtain ⟨e1, e2, e3, e4⟩ := hq _ _ _ _ hR' ht'
      obtain ⟨a, c, b, d, rfl, rfl⟩ := ho.form
      rw [e1, e2] at ho ⊢
      exact ⟨a, c, b, d, rfl, ⟨_, _, ho, fun j hj => by rw [← e3 j (by omega)]; exact ix_map vs' j (by omega), fun j hj => by rw [← e4 j (by omega)]; exact px_list ps' j (by omega)⟩, hb⟩
    · exact (hq' _ _ _ _ hR ht).elim
  · rcases h with ⟨v1, v2, vs', ps', rfl, ho, hR', ht', _, hb⟩ | ⟨rfl, _, hb⟩
    · exact (hq _ _ _ _ hR' ht').elim
    · exact ⟨none, 0, none, 0, rfl, ⟨[], [], ⟨World.ownsRow_nil _ _ _ _, World.ownsRow_nil _ _ _ _, .inl rfl⟩, fun j hj => absurd hj (by simp), fun j hj => absurd hj (by simp)⟩, hb⟩
end Go.Proofs.YtkhacppaemilgaaDoor
