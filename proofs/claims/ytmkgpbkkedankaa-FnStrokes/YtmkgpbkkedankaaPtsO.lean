/-
  A list of points that a call hands back, and what later calls write.
-/
import Derived.Test.YtmkgpbkkedankaaPathL
import Derived.Test.YtmkgpbkkedankaaMoveK
import Derived.Test.YtmkgpbkkedankaaLinesM
import Derived.Deep.RegionHeld3
import Derived.Deep.DeepCutAuto
import Derived.Deep.DeepFit
namespace Go.Proofs.Ytmkgpbkkedankaa
open Go.RowKit
set_option linter.unusedVariables false

def PtsO (u : World) (base B : Nat) (v : Value) (l : List Pt) : Prop := u.ownsRow base 25 2 v l.length (ptsV l) ∧ ∀ k, v.ownBlock = some k → k < B
theorem PtsO.mk' {u : World} {base : Nat} {v : Value} {l : List Pt} (h : u.ownsRow base 25 2 v l.length (ptsV l)) : PtsO u base u.heap.size v l := ⟨h, fun k hk => (h.lt k hk).2⟩
theorem PtsO.next {u u' : World} {base B : Nat} {v : Value} {l : List Pt} (h : PtsO u base B v l) (hb : Below u.heap.size u u') : PtsO u' base B v l := ⟨own_below h.1 hb, h.2⟩
theorem PtsO.part {u u' : World} {base B C : Nat} {v : Value} {l : List Pt} (h : PtsO u base B v l) (hb : Below C u u') (hB : B ≤ C) : PtsO u' base B v l :=
  ⟨own_part h.1 hb (fun k hk => Nat.lt_of_lt_of_le (h.2 k hk) hB), h.2⟩
theorem PtsO.form {u : World} {base B : Nat} {v : Value} {l : List Pt} (h : PtsO u base B v l) : ∃ a c, v = .slice a l.length c := own_form h.1
theorem PtsO.pts {u : World} {base B n c : Nat} {a : Option Addr} {l : List Pt} (hn : n = l.length) (h : PtsO u base B (.slice a n c) l) : ∀ i, i < n → PtArg u a i (listP l i) := by
  subst hn; exact own_pxa h.1 (px_list l)
theorem eqPts_o (l : List Pt) (a b : Option Addr) (n c d base base' B B' : Nat) (hn : n = l.length) (hl : l.length ≤ 1048576) (w : World) (h : PtsO w base B (.slice a n c) l) (h' : PtsO w base' B' (.slice b n d) l) :
    Calls Try.prog 17 #[.slice a n c, .slice b n d] w fun r w' => r = .returned (.bool true) ∧ Below w.heap.size w w' :=
  eqPointS_arg (listP l) a b n c d (by omega) w (h.pts hn) (h'.pts hn)
/-- A marked list. -/
def PtsM (u : World) (base n : Nat) (v : Value) : Prop := ∃ ys, u.ownsRow base 25 2 v n ys ∧ Ramp ys 1 (n * 2)
theorem PtsM.next {u u' : World} {base n : Nat} {v : Value} (h : PtsM u base n v) (hb : Below u.heap.size u u') : PtsM u' base n v := let ⟨ys, h1, h2⟩ := h; ⟨ys, own_below h1 hb, h2⟩
theorem markPts_o (l : List Pt) (v : Value) (n base B : Nat) (hn : n = l.length) (hl : l.length ≤ 1048576) (w : World) (hs : base ≤ w.heap.size) (h : PtsO w base B v l) :
    Calls Try.prog 18 #[v, .int .i64 1] w fun r w' => r = .returned (.int .i64 ((1 + n * 2 : Nat) : Int)) ∧ PtsM w' base n v ∧ Below base w w' := by
  subst hn
  exact (markPointS_any v base l.length 1 (ptsV l) (by omega) hl w h.1).mono fun r w' ⟨h1, ⟨ys, h2, h3⟩, h4⟩ => ⟨h1, ⟨ys, h2, h3⟩, below_of_grown h4 hs (fun k hk => (h.1.lt k hk).1)⟩
theorem heldPts_o (v : Value) (n base : Nat) (hn : n ≤ 1048576) (w : World) (h : PtsM w base n v) :
    Calls Try.prog 19 #[v, .int .i64 1] w fun r w' => r = .returned (.int .i64 ((1 + n * 2 : Nat) : Int)) ∧ Below w.heap.size w w' := by
  obtain ⟨ys, h1, h2⟩ := h
  exact (heldPointS_yes v base n 1 ys (by omega) hn w h1 h2).mono fun r w' ⟨h3, h4⟩ => ⟨h3, by rw [h4]; exact Below.refl _ _⟩
end Go.Proofs.Ytmkgpbkkedankaa
