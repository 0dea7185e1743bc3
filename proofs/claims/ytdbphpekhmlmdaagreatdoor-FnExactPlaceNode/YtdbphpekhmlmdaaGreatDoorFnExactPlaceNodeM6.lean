/-
  SceneK · SceneU · MarkS: texts of one claim, in one.
-/
import Derived.Test.YtdbphpekhmlmdaaGreatDoorFnExactPlaceNodeM2
import Derived.Test.YtdbphpekhmlmdaaGreatDoorFnExactPlaceNodeM1
import Derived.BigQuiet
import Derived.Test.YtdbphpekhmlmdaaGreatDoorFnExactPlaceNodeM5

/-
  The specification's KidsOf.
-/
namespace Go.Proofs.YtdbphpekhmlmdaaGreatDoor
open Go.RowKit
set_option linter.unusedVariables false

theorem infoInt15 : (Tryz.prog.info? 3).map (fun i => (i.zero, i.size, i.bytes)) = some (some (.int .i64 0), 1, 8) := by kernel_rfl
def Zv (z : Int) : Value := .int .i64 z
/-- A call hands back numbers that are its own. -/
def IdsRes (w : World) (r : Ending) (w' : World) (L : List Int) : Prop :=
  ∃ p cap, r = .returned (.slice p L.length cap) ∧ w'.ownsRow w.heap.size 3 1 (.slice p L.length cap) L.length (L.map Zv) ∧ Below w.heap.size w w'
theorem own_ids {w : World} {base : Nat} {v : Value} {L : List Int} (h : w.ownsRow base 3 1 v L.length (L.map Zv)) : w.ownsRow base 3 1 v (L.map Zv).length (L.map Zv) := by
  rw [List.length_map]; exact h
theorem ids_snoc {w : World} {base : Nat} {v : Value} {L : List Int} {z : Int} (h : w.ownsRow base 3 1 v (L.map Zv ++ #[Value.int .i64 z].toList).length (L.map Zv ++ #[Value.int .i64 z].toList)) : w.ownsRow base 3 1 v (L ++ [z]).length ((L ++ [z]).map Zv) := by
  have e : (L ++ [z]).map Zv = L.map Zv ++ #[Value.int .i64 z].toList := by simp [Zv]
  rw [e]
  have e2 : (L ++ [z]).length = (L.map Zv ++ #[Value.int .i64 z].toList).length := by simp
  rw [e2]
  exact h
/-- The Ids of the first k nodes that are picked. -/
def pickIds (X : Nat → Nd) (q : Nat → Bool) : Nat → List Int
  | 0 => []
  | k + 1 => if q k = true then pickIds X q k ++ [(X k).id] else pickIds X q k
theorem pick_le (X : Nat → Nd) (q : Nat → Bool) : ∀ k, (pickIds X q k).length ≤ k
  | 0 => Nat.le_refl _
  | k + 1 => by
    have := pick_le X q k
    unfold pickIds
    split
    · rw [List.length_append]; simp; omega
    · omega
def kidsL (X : Nat → Nd) (n : Nat) (id : Int) : List Int := pickIds X (fun k => decide ((X k).par = id)) n

end Go.Proofs.YtdbphpekhmlmdaaGreatDoor

/-
  The specification's UnderOf.
-/
namespace Go.Proofs.YtdbphpekhmlmdaaGreatDoor
open Go.RowKit
set_option linter.unusedVariables false

def underL (X : Nat → Nd) (n : Nat) (id : Int) : List Int := if firstN X id n < 0 then [] else pickIds X (fun k => underB X n (X k).id id) n

end Go.Proofs.YtdbphpekhmlmdaaGreatDoor

/-
  The laws' markScene; lists of numbers of one's own. (By kidslaw.py.)
-/
namespace Go.Proofs.YtdbphpekhmlmdaaGreatDoor
open Go.RowKit
set_option linter.unusedVariables false

/-- A scene of one's own whose blocks lie in base .. T. -/
def ScT (w : World) (base T : Nat) (a : Option Addr) (n c : Nat) (X : Nat → Nd) (A : Nat → Na) : Prop :=
  ∃ b ys K lo, a = some ⟨b, 0, none⟩ ∧ base ≤ b ∧ w.ownsRow base 47 31 (.slice a n c) n ys ∧ NsAt ys X A n ∧ ScN w b n X A K lo ∧ lo n ≤ T
theorem ScV.tops {w : World} {base n c : Nat} {a : Option Addr} {X : Nat → Nd} {A : Nat → Na} (h : ScV w base a n c X A) : ScT w base w.heap.size a n c X A :=
  let ⟨b, ys, K, lo, h1, h2, h3, h4, h5⟩ := h; ⟨b, ys, K, lo, h1, h2, h3, h4, h5, h5.top⟩
theorem ScV.big {w : World} {base n c : Nat} {a : Option Addr} {X : Nat → Nd} {A : Nat → Na} (h : ScV w base a n c X A) : base < w.heap.size := by
  obtain ⟨b, ys, K, lo, h1, h2, h3, h4, h5⟩ := h
  have g1 := h5.first
  have g2 := lo_mono h5.five (i := 0) (j := n) (by omega) (Nat.le_refl _)
  have g3 := h5.top
  omega
theorem ScT.sc {w : World} {base T n c : Nat} {a : Option Addr} {X : Nat → Nd} {A : Nat → Na} (h : ScT w base T a n c X A) : ScV w base a n c X A :=
  let ⟨b, ys, K, lo, h1, h2, h3, h4, h5, _⟩ := h; ⟨b, ys, K, lo, h1, h2, h3, h4, h5⟩
theorem ScT.next {w u : World} {base T n c : Nat} {a : Option Addr} {X : Nat → Nd} {A : Nat → Na} (h : ScT w base T a n c X A) (hb : Below w.heap.size w u) : ScT u base T a n c X A :=
  let ⟨b, ys, K, lo, h1, h2, h3, h4, h5, h6⟩ := h; ⟨b, ys, K, lo, h1, h2, own_below h3 hb, h4, h5.next hb, h6⟩
theorem NsAt.rowD {w : World} {B b n c : Nat} {ys : List Value} {X : Nat → Nd} {A : Nat → Na} (h1 : w.ownsRow B 47 31 (.slice (some ⟨b, 0, none⟩) n c) n ys) (h2 : NsAt ys X A n) : RowD w B b n c (fun j m => (ndC (X j) (A j)).getD m undef) := by
  refine ⟨ys, h1, fun j hj m hm => h2 j hj m _ ?_⟩
  have : m < (ndC (X j) (A j)).size := hm
  rw [Array.getElem?_eq_getElem this]
  simp [Array.getD, this]
theorem FarB.pre {b T : Nat} {w u u' : World} (hb : Below w.heap.size w u) (h : FarB b T u u') : FarB b T w u' :=
  ⟨h.os.trans hb.os, h.tape.trans hb.tape, h.output.trans hb.output, Nat.le_trans hb.size h.size, fun q hq ho => (h.out q (Nat.lt_of_lt_of_le hq hb.size) ho).trans (hb.block q hq)⟩
theorem FarB.wide {b b' T : Nat} {w u : World} (h : FarB b T w u) (hb : b' ≤ b) : FarB b' T w u :=
  ⟨h.os, h.tape, h.output, h.size, fun q hq ho => h.out q hq (by omega)⟩

set_option maxHeartbeats 2000000 in
theorem markScene_far (X : Nat → Nd) (A : Nat → Na) (a : Option Addr) (n c base T : Nat) (hs : ∀ i, i < n → (X i).Small) (ht : scT X n ≤ 1048576) (w : World) (h : ScT w base T a n c X A) :
    Calls Tryz.prog 16 #[.agg #[.slice a n c], .int .i64 1] w fun r w' => r = .returned (.int .i64 ((kN X n : Nat) : Int)) ∧ FarB base T w w' := by
  go_enter Tryz.func16, Tryz.ntmps16
  go_upto_region 1 with fail
  have R := hide (new_row w (.cells #[.slice a n c] 26))
  have HB := hide (al1_below w (.cells #[.slice a n c] 26))
  replace h := hide (h.next (unhide HB))
  generalize w.alloc (.cells #[.slice a n c] 26) = W at R HB h ⊢
  obtain ⟨b1, hb1⟩ : ∃ b, Hid (b = w.heap.size) := ⟨_, rfl⟩
  rw [← unhide hb1] at R ⊢
  have c0 := row1 (unhide R)
  obtain ⟨b, ys, K, lo, rfl, h2, h3, h4, h5, h6⟩ := unhide h
  have hbT := hide (show b < T by
    have g1 := h5.first
    have g2 := lo_mono h5.five (i := 0) (j := n) (by omega) (Nat.le_refl _)
    omega)
  have E := hide (markNodeS_any X A K lo base b n c T hs ht h5.first h6 (unhide hbT) W ⟨⟨_, h4.rowD h3, fun j hj => ⟨rfl, rfl, rfl, rfl, rfl⟩⟩, ⟨_, h5.lists⟩, FarB.refl _ _ _⟩)
  replace h2 := hide h2
  clear h h3 h4 h5 h6
  go_wp2_with fail
  go_fit (unhide E)
  rintro r w1 ⟨rfl, hm⟩
  replace hm := hide hm
  clear c0 E
  go_wp2_with fail
  go_ret
  exact ⟨rfl, ((unhide hm).far.wide (unhide h2)).pre (unhide HB)⟩

/-- Numbers that are one's own. -/
def IdV (w : World) (base : Nat) (v : Value) (n : Nat) (f : Nat → Int) : Prop := ∃ xs, w.ownsRow base 3 1 v n xs ∧ IxAt xs f n
def IdM (w : World) (base : Nat) (v : Value) (n : Nat) : Prop := ∃ xs, w.ownsRow base 3 1 v n xs ∧ Ramp xs 1 n
theorem IdV.next {w w' : World} {base n : Nat} {v : Value} {f : Nat → Int} (h : IdV w base v n f) (hb : Below w.heap.size w w') : IdV w' base v n f := let ⟨xs, h1, h2⟩ := h; ⟨xs, own_below h1 hb, h2⟩
theorem IdM.next {w w' : World} {base n : Nat} {v : Value} (h : IdM w base v n) (hb : Below w.heap.size w w') : IdM w' base v n := let ⟨xs, h1, h2⟩ := h; ⟨xs, own_below h1 hb, h2⟩
theorem IdV.lt {w : World} {base n : Nat} {v : Value} {f : Nat → Int} (h : IdV w base v n f) : ∀ k, v.ownBlock = some k → base ≤ k ∧ k < w.heap.size := let ⟨_, h1, _⟩ := h; h1.lt
theorem IdV.at {w : World} {base n c : Nat} {a : Option Addr} {f : Nat → Int} (h : IdV w base (.slice a n c) n f) : ∀ i, i < n → IntAt w a i (f i) := let ⟨_, h1, h2⟩ := h; own_ix h1 h2
theorem IdV.kept {w w' : World} {base n : Nat} {v : Value} {f : Nat → Int} {row : Option Nat} (h : IdV w base v n f) (hg : w.grownBy w' row) (ap : v.ownBlock = none ∨ v.ownBlock ≠ row) : IdV w' base v n f := let ⟨xs, h1, h2⟩ := h; ⟨xs, h1.kept hg ap, h2⟩
theorem IdM.kept {w w' : World} {base n : Nat} {v : Value} {row : Option Nat} (h : IdM w base v n) (hg : w.grownBy w' row) (ap : v.ownBlock = none ∨ v.ownBlock ≠ row) : IdM w' base v n := let ⟨xs, h1, h2⟩ := h; ⟨xs, h1.kept hg ap, h2⟩
theorem IdV.far {b T : Nat} {w w' : World} {base n : Nat} {v : Value} {f : Nat → Int} (h : IdV w base v n f) (hF : FarB b T w w') (hv : ∀ k, v.ownBlock = some k → k < b ∨ T ≤ k) : IdV w' base v n f := let ⟨xs, h1, h2⟩ := h; ⟨xs, hF.own h1 hv, h2⟩
def listZ (L : List Int) (j : Nat) : Int := L.getD j 0
theorem IdsRes.open {w w' : World} {r : Ending} {L : List Int} (h : IdsRes w r w' L) : ∃ p cp, r = .returned (.slice p L.length cp) ∧ IdV w' w.heap.size (.slice p L.length cp) L.length (listZ L) ∧ Below w.heap.size w w' := by
  obtain ⟨p, cp, rfl, h1, h2⟩ := h
  refine ⟨p, cp, rfl, ⟨_, h1, fun j hj => ?_⟩, h2⟩
  simp [listZ, Zv, List.getElem?_eq_getElem hj, List.getD]
theorem markI_v (v : Value) (base n : Nat) (f : Nat → Int) (hn : n ≤ 1048576) (w : World) (h : IdV w base v n f) :
    Calls Tryz.prog 79 #[v, .int .i64 1] w fun r w' => r = .returned (.int .i64 ((1 + n : Nat) : Int)) ∧ IdM w' base v n ∧ w.grownBy w' v.ownBlock :=
  let ⟨xs, h1, _⟩ := h; markIntS_any v base n 1 xs (by omega) hn w h1
theorem heldI_v (v : Value) (base n : Nat) (hn : n ≤ 1048576) (w : World) (h : IdM w base v n) :
    Calls Tryz.prog 81 #[v, .int .i64 1] w fun r w' => r = .returned (.int .i64 ((1 + n : Nat) : Int)) ∧ Below w.heap.size w w' :=
  let ⟨xs, h1, h2⟩ := h; (heldIntS_yes v base n 1 xs (by omega) hn w h1 h2).mono fun _ _ ⟨e1, e2⟩ => ⟨e1, e2 ▸ Below.refl _ _⟩
end Go.Proofs.YtdbphpekhmlmdaaGreatDoor
