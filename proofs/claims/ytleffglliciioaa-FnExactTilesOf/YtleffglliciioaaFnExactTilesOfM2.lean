/-
  QuietIn · ToPts · PathL · PathS · RectS · PathV · MoveK · RunRow · TileO: texts of one claim, in one.
-/
import Derived.Test.YtleffglliciioaaFnExactTilesOfM1
import Derived.BigQuiet
import Derived.Deep.RegionLaw
import Derived.Deep.RegionHeld3
import Derived.Deep.DeepCutAuto
import Derived.Deep.DeepFit

/-
  A region that draws its order and only reads, whose callees make memory of their own: one walk, in the class of all worlds that keep what stood before.
-/
namespace Go.Proofs.Ytleffglliciioaa
open Go.RowKit

/-- The worlds that keep what stands in V, numbered. -/
theorem kept_worlds (V : World) : ∃ (I : Type) (F : I → World), Nonempty I ∧ (∀ u, Below V.heap.size V u → ∃ i, u = F i) ∧ (∀ i, Below V.heap.size V (F i)) :=
  ⟨{u : World // Below V.heap.size V u}, Subtype.val, ⟨⟨V, Below.refl _ _⟩⟩, fun u h => ⟨⟨u, h⟩, rfl⟩, fun i => i.2⟩

theorem wp_region_quiet_in {P : Program} {I : Type} {V : World} {F : I → World} (h1 : ∀ u, Below V.heap.size V u → ∃ i, u = F i) {id : Nat} {Q : Exit → Act → World → Prop} {a : Act} {l : List Oper} (hm : P.follows .mixedOrders = true) (hB : Region.lexB .any l.toArray = true)
    (h : wpQuiet P l.toArray (fun w' => ∃ i, w' = F i) (fun a' => ∀ w', (∃ i, w' = F i) → Q .normal a' w') l a) : (Code.region id l.toArray true).wp P Q a V :=
  wp_region_quiet (C := fun w' => ∃ i, w' = F i) hm hB (h1 _ (Below.refl _ _).drew) (by simpa using h)

theorem quiet_in {P : Program} {I : Type} {V : World} {F : I → World} (h1 : ∀ u, Below V.heap.size V u → ∃ i, u = F i) (h2 : ∀ i, Below V.heap.size V (F i)) {f : FuncId} {args : Array Value} {i : I} {v : Value}
    (h : Calls P f args (F i) fun e w' => e = .returned v ∧ Below (F i).heap.size (F i) w') : Calls P f args (F i) fun e w'' => e = .returned v ∧ ∃ j, w'' = F j :=
  h.mono fun _ _ ⟨he, hb⟩ => ⟨he, h1 _ (below_after hb (h2 i) (Nat.le_refl _))⟩
end Go.Proofs.Ytleffglliciioaa

/-
  Lists of points that are handed over, measured and held against each other by the laws.
-/
namespace Go.Proofs.Ytleffglliciioaa
open Go.RowKit

end Go.Proofs.Ytleffglliciioaa

/-
  The laws' own words on lists of numbers and on paths: handed over, measured, held against each other, marked and held.
-/
namespace Go.Proofs.Ytleffglliciioaa
open Go.RowKit

/-- Number i of a row of numbers, wherever it begins. -/
def IntAt (w : World) (a : Option Addr) (i : Nat) (z : Int) : Prop := ∃ s o, a = some ⟨s, o, none⟩ ∧ w.cell? ⟨s, o + i, none⟩ = some (.int .i64 z)
theorem IntAt.next {w w1 : World} {a : Option Addr} {i : Nat} {z : Int} (h : IntAt w a i z) (hb : Below w.heap.size w w1) : IntAt w1 a i z :=
  let ⟨s, o, h1, h2⟩ := h; ⟨s, o, h1, kc hb h2⟩
/-- The first k numbers of a row are those of G. -/
def IxAt (xs : List Value) (G : Nat → Int) (k : Nat) : Prop := ∀ j, j < k → xs[j]? = some (.int .i64 (G j))
theorem IxAt.step {xs : List Value} {G : Nat → Int} {k : Nat} (h : IxAt xs G k) (hk : k < xs.length) : IxAt (xs.set k (.int .i64 (G k))) G (k + 1) := by
  intro j hj
  by_cases hjk : j = k
  · subst hjk; simp [List.getElem?_set]; omega
  · rw [List.getElem?_set_ne (by omega)]; exact h j (by omega)
theorem own_at {w : World} {base t m n : Nat} {v : Value} {xs : List Value} (h : w.ownsRow base t m v n xs) (hn : 0 < n) : ∃ g cap, v = .slice (some ⟨g, 0, none⟩) n cap ∧ base ≤ g ∧ g < w.heap.size := by
  rcases h.2 with ⟨rfl, h0⟩ | ⟨g, cap, cur, rfl, h3, h4, h5, h6, _⟩
  · omega
  · exact ⟨g, cap, rfl, h3, (Array.getElem?_eq_some_iff.1 h4).1⟩
theorem own_form {w : World} {base t m n : Nat} {v : Value} {xs : List Value} (h : w.ownsRow base t m v n xs) : ∃ p cap, v = .slice p n cap := by
  rcases h.2 with ⟨rfl, rfl⟩ | ⟨g, cap, cur, rfl, _⟩
  · exact ⟨none, 0, rfl⟩
  · exact ⟨_, cap, rfl⟩
theorem own_ix {w : World} {base t n cap : Nat} {a : Option Addr} {xs : List Value} {G : Nat → Int} (h : w.ownsRow base t 1 (.slice a n cap) n xs) (hx : IxAt xs G n) : ∀ i, i < n → IntAt w a i (G i) := by
  intro i hi
  obtain ⟨g, c, e, _, _⟩ := own_at h (by omega)
  cases e
  refine ⟨g, 0, rfl, ?_⟩
  rw [Nat.zero_add, h.cellAt _ (by omega)]; exact hx i hi
/-- Cells that were marked from k on. -/
def Ramp (xs : List Value) (k m : Nat) : Prop := ∀ j, j < m → xs[j]? = some (.int .i64 ((k + j : Nat) : Int))
theorem Ramp.step {xs : List Value} {k j : Nat} (h : Ramp xs k j) (hj : j < xs.length) : Ramp (xs.set j (.int .i64 ((k + j : Nat) : Int))) k (j + 1) := by
  intro i hi
  by_cases hij : i = j
  · subst hij; simp [List.getElem?_set]; omega
  · rw [List.getElem?_set_ne (by omega)]; exact h i (by omega)

set_option maxHeartbeats 4000000 in
set_option maxRecDepth 100000 in
theorem eqIntS_arg (f : Nat → Int) (ao bo : Option Addr) (n cap cap' : Nat) (hn : n ≤ 1048576) (w : World) (HA : ∀ i, i < n → IntAt w ao i (f i)) (HB : ∀ i, i < n → IntAt w bo i (f i)) :
    Calls Try.prog 16 #[.slice ao n cap, .slice bo n cap'] w fun r w' => r = .returned (.bool true) ∧ Below w.heap.size w w' := by
  replace HA := hide HA
  replace HB := hide HB
  go_enter Try.func16, Try.ntmps16
  go_wp2_with fail
  go_loopw [5] (fun i u => ∃ k : Nat, k ≤ n ∧ i = .int .i64 k ∧ Below w.heap.size w u) (fun i _ => n - (intOf i).toNat)
  case atStart => exact ⟨0, Nat.zero_le _, rfl, Below.refl _ _⟩
  case round =>
    obtain ⟨k, hk, rfl, hb⟩ := hrel
    by_cases hlt : k < n
    · have HP := (unhide HA k hlt).next hb
      have HQ := (unhide HB k hlt).next hb
      generalize f k = z at HP HQ
      obtain ⟨s, o, rfl, g0⟩ := HP
      obtain ⟨s', o', rfl, h0⟩ := HQ
      replace hb := hide hb
      go_wp2_with fail
      obtain ⟨I, F, hI, F1, F2⟩ := kept_worlds wr
      have a0 : ∀ i, (F i).cell? ⟨s, o + k, none⟩ = some (.int .i64 z) := fun i => kc (F2 i) g0
      have b0 : ∀ i, (F i).cell? ⟨s', o' + k, none⟩ = some (.int .i64 z) := fun i => kc (F2 i) h0
      clear g0 h0
      replace F1 := hide F1
      replace F2 := hide F2
      refine wp_region_quiet_in (unhide F1) (by kernel_rfl) (by kernel_rfl) ?_
      repeat (go_big_quiet_step (fail))
      refine wpQuiet_nil ?_
      rintro _ ⟨i, rfl⟩
      have hF := unhide F2 i
      clear F1 a0 b0
      go_wp2_with fail
      go_roundw
      case rel => exact ⟨k + 1, by omega, by go_num, below_two (unhide hb) hF⟩
      case measure => simp [intOf]; omega
    · have hke : k = n := by omega
      subst hke
      go_wp2_with fail
      go_ret
      exact ⟨rfl, hb⟩

set_option maxHeartbeats 1000000 in
set_option maxRecDepth 100000 in
theorem markIntS_any (v : Value) (base n k : Nat) (xs : List Value) (hk : k ≤ 4000000000000000000) (hn : n ≤ 1048576) (w : World) (hv : w.ownsRow base 3 1 v n xs) :
    Calls Try.prog 19 #[v, .int .i64 k] w fun r w' => r = .returned (.int .i64 ((k + n : Nat) : Int)) ∧ (∃ ys, w'.ownsRow base 3 1 v n ys ∧ Ramp ys k n) ∧ w.grownBy w' v.ownBlock := by
  obtain ⟨p, cap, rfl⟩ := own_form hv
  have hp := fun h => own_at hv h
  have HV := hide hv
  clear hv
  go_enter Try.func19, Try.ntmps19
  go_wp2
  go_loopw [1, 5] (fun t i wr => ∃ (j : Nat) (ys : List Value), j ≤ n ∧ i = .int .i64 j ∧ t = .int .i64 ((k + j : Nat) : Int) ∧ wr.ownsRow base 3 1 (.slice p n cap) n ys ∧ Hid (Ramp ys k j) ∧ w.grownBy wr (Value.slice p n cap).ownBlock) (fun _ i _ => n - (intOf i).toNat)
  case atStart => exact ⟨0, _, Nat.zero_le _, rfl, rfl, unhide HV, fun j hj => absurd hj (by omega), World.grownBy.refl _ _⟩
  case round =>
    obtain ⟨j, ys, hj, rfl, rfl, hown, HR, hgr⟩ := hrel
    have HO := hide hown
    have HG := hide hgr
    by_cases hlt : j < n
    · obtain ⟨g, cap', e, _, _⟩ := hp (by omega)
      cases e
      have hlen : j < ys.length := by have := hown.1; omega
      have c0 : wr.cell? ⟨g, j, none⟩ = some ys[j] := by rw [hown.cellAt _ (by omega)]; exact List.getElem?_eq_getElem _
      have f0 := hown.frozenAt j
      have hst := hide ((unhide HR).step hlen)
      clear hown hgr
      go_wp2_with fail
      go_roundw
      case rel => exact ⟨j + 1, _, by omega, by go_num, by go_num, ((unhide HO).stored j _).1, hst, grown_trans (unhide HG) ((unhide HO).stored j _).2⟩
      case measure => simp [intOf]; omega
    · have hje : j = n := by omega
      subst hje
      clear hown hgr
      go_wp2
      go_ret
      exact ⟨rfl, ⟨ys, unhide HO, unhide HR⟩, unhide HG⟩

set_option maxHeartbeats 1000000 in
set_option maxRecDepth 100000 in
theorem heldIntS_yes (v : Value) (base n k : Nat) (ys : List Value) (hk : k ≤ 4000000000000000000) (hn : n ≤ 1048576) (w : World) (hv : w.ownsRow base 3 1 v n ys) (hr : Ramp ys k n) :
    Calls Try.prog 20 #[v, .int .i64 k] w fun r w' => r = .returned (.int .i64 ((k + n : Nat) : Int)) ∧ w' = w := by
  obtain ⟨p, cap, rfl⟩ := own_form hv
  have hp := fun h => own_at hv h
  replace hv := hide hv
  replace hr := hide hr
  go_enter Try.func20, Try.ntmps20
  go_wp2
  go_loopw [1, 5] (fun t i wr => ∃ j : Nat, j ≤ n ∧ i = .int .i64 j ∧ t = .int .i64 ((k + j : Nat) : Int) ∧ wr = w) (fun _ i _ => n - (intOf i).toNat)
  case atStart => exact ⟨0, Nat.zero_le _, rfl, rfl, rfl⟩
  case round =>
    obtain ⟨j, hj, rfl, rfl, rfl⟩ := hrel
    by_cases hlt : j < n
    · obtain ⟨g, cap', e, _, _⟩ := hp (by omega)
      cases e
      have c0 : wr.cell? ⟨g, j, none⟩ = some (.int .i64 ((k + j : Nat) : Int)) := by rw [(unhide hv).cellAt _ (by omega)]; exact unhide hr j hlt
      rw [Int.natCast_add] at c0
      go_wp2_with fail
      go_roundw
      case rel => exact ⟨j + 1, by omega, by go_num, by go_num, by trivial⟩
      case measure => simp [intOf]; omega
    · have hje : j = n := by omega
      subst hje
      go_wp2
      go_ret
      exact ⟨rfl, rfl⟩

end Go.Proofs.Ytleffglliciioaa

/-
  The specification's NeedOf and PathOk.
-/
namespace Go.Proofs.Ytleffglliciioaa
open Go.RowKit

end Go.Proofs.Ytleffglliciioaa

/-
  The specification's RectPath.
-/
namespace Go.Proofs.Ytleffglliciioaa
open Go.RowKit

end Go.Proofs.Ytleffglliciioaa

/-
  Paths that calls own: kept, held against each other, marked and held, as wholes.
-/
namespace Go.Proofs.Ytleffglliciioaa
open Go.RowKit

end Go.Proofs.Ytleffglliciioaa

/-
  Appending onto own rows, and lists as functions.
-/
namespace Go.Proofs.Ytleffglliciioaa
open Go.RowKit

end Go.Proofs.Ytleffglliciioaa

/-
  Rows of runs: how they lie in memory, and how one more is laid behind them.
-/
namespace Go.Proofs.Ytleffglliciioaa
open Go.RowKit

/-- Number i of a row of runs, wherever it begins. -/
def RnAt (w : World) (a : Option Addr) (i : Nat) (p : B4) : Prop :=
  ∃ s o, a = some ⟨s, o, none⟩ ∧ w.cell? ⟨s, o + i * 4, none⟩ = some (.int .i64 p.x0) ∧ w.cell? ⟨s, o + i * 4 + 1, none⟩ = some (.int .i64 p.y0) ∧ w.cell? ⟨s, o + i * 4 + 2, none⟩ = some (.int .i64 p.x1) ∧ w.cell? ⟨s, o + i * 4 + 3, none⟩ = some (.int .i64 p.y1)
theorem RnAt.next {w w1 : World} {a : Option Addr} {i : Nat} {p : B4} (h : RnAt w a i p) (hb : Below w.heap.size w w1) : RnAt w1 a i p :=
  let ⟨s, o, h1, h2, h3, h4, h5⟩ := h; ⟨s, o, h1, kc hb h2, kc hb h3, kc hb h4, kc hb h5⟩
end Go.Proofs.Ytleffglliciioaa

/-
  The specification's TilesOf. (By tilei.py.)
-/
namespace Go.Proofs.Ytleffglliciioaa
open Go.RowKit
set_option linter.unusedVariables false

set_option maxHeartbeats 8000000 in
set_option maxRecDepth 100000 in
theorem specTilesOf_any (x y : Int) (F : Nat → B4) (ao : Option Addr) (n cp : Nat) (hn : n ≤ 1048576) (w : World) (P : ∀ i, i < n → RnAt w ao i (F i)) :
    Calls Try.prog 13 #[.int .i64 x, .int .i64 y, .slice ao n cp] w fun r w' => IdsRes w r w' (tilesA x y F n) := by
  obtain ⟨i0, hi, hz0, hz1, hz2⟩ := info_parts infoInt15
  have ET := hide (specTileCount_any x y)
  have EB := hide (fun i => specTileBox_any x y i)
  have htb := hide (tc_bd x y)
  have hA : Hid (tilesA x y F n = tilesL x y F n (tcI x y).toNat) := rfl
  have hT0 := hide (show [] = tilesL x y F n 0 from rfl)
  have hTy := hide (fun (k : Nat) (h : anyM (tileB x y k) F n = true) => show tilesL x y F n (k + 1) = tilesL x y F n k ++ [(k : Int)] by simp only [tilesL]; rw [if_pos h])
  have hTn := hide (fun (k : Nat) (h : anyM (tileB x y k) F n = false) => show tilesL x y F n (k + 1) = tilesL x y F n k by simp only [tilesL]; rw [if_neg (by rw [h]; exact Bool.false_ne_true)])
  have hTl := hide (tiles_le x y F n)
  generalize tilesA x y F n = R at hA ⊢
  generalize tilesL x y F n = TL at hA hT0 hTy hTn hTl
  obtain ⟨N, hN⟩ : ∃ N : Nat, tcI x y = (N : Int) := ⟨(tcI x y).toNat, by have := unhide htb; omega⟩
  rw [hN] at ET htb hA
  replace hA := hide (show R = TL N by rw [unhide hA]; rfl)
  generalize tileB x y = tb at EB hTy hTn
  have PP := hide (fun u (hu : Below w.heap.size w u) i (hi : i < n) => (P i hi).next hu)
  clear P hN
  unfold IdsRes
  go_enter Try.func13, Try.ntmps13
  go_upto_region 3 with fail
  go_loopw [7, 8] (fun v i u => ∃ (k : Nat) (p : Option Addr) (cap : Nat) (L : List Int), k ≤ N ∧ i = .int .i64 (k : Int) ∧ v = .slice p L.length cap ∧ Hid (L = TL k) ∧ Hid (u.ownsRow w.heap.size 3 1 (.slice p L.length cap) L.length (L.map Zv)) ∧ Hid (Below w.heap.size w u)) (fun _ i _ => N - (intOf i).toNat)
  case atStart => exact ⟨0, some ⟨w.heap.size, 0, none⟩, 0, [], Nat.zero_le _, rfl, rfl, hT0, hide (World.ownsRow_lit w #[] 0 (Nat.le_refl _) (by decide) rfl), hide (al1_below _ _)⟩
  case round =>
    clear hT0
    obtain ⟨k, p, cap, L, hk, rfl, rfl, hL, O, D⟩ := hrel
    have htb' := unhide htb
    by_cases hkn : k < N
    · have hki : (k : Int) < (N : Int) := by omega
      have hlen : Hid (L.length ≤ k) := by unfold Hid; rw [unhide hL]; exact unhide hTl k
      have hTy1 := hide (unhide hTy k)
      have hTn1 := hide (unhide hTn k)
      have EBk := hide (unhide EB (k : Int))
      obtain ⟨B, hB⟩ : ∃ B, Hid (tb (k : Int) = B) := ⟨_, rfl⟩
      rw [unhide hB] at hTy1 hTn1 EBk
      clear hTy hTn hB
      go_wp2_with fail
      go_fit (unhide ET _)
      rintro r w1 ⟨rfl, hw1⟩
      subst hw1
      go_wp2_with fail
      go_fit (unhide EBk _)
      rintro r w2 ⟨rfl, hb⟩
      replace O := hide (own_below (unhide O) hb)
      replace D := hide (below_two (unhide D) hb)
      clear hb EBk
      go_upto_region 6 with fail
      have R9 := hide (new_row w2 (.cells #[.int .i64 B.x0, .int .i64 B.y0, .int .i64 B.x1, .int .i64 B.y1] 25))
      have hal := al1_below w2 (.cells #[.int .i64 B.x0, .int .i64 B.y0, .int .i64 B.x1, .int .i64 B.y1] 25)
      replace O := hide (own_below (unhide O) hal)
      replace D := hide (below_two (unhide D) hal)
      clear hal
      generalize w2.alloc (.cells #[.int .i64 B.x0, .int .i64 B.y0, .int .i64 B.x1, .int .i64 B.y1] 25) = V at R9 O D ⊢
      generalize w2.heap.size = b9 at R9 ⊢
      have ha0 := hide (show false = anyM B F 0 from rfl)
      have ha1 := hide (fun j => show anyM B F (j + 1) = (anyM B F j || !(meetBB B (F j)).bare) from rfl)
      generalize anyM B F = am at ha0 ha1 hTy1 hTn1
      go_upto_region 8 with fail
      go_loopw [10, 11] (fun m jv u => ∃ (j : Nat), j ≤ n ∧ jv = .int .i64 (j : Int) ∧ m = .bool (am j) ∧ Hid (u.heap[b9]? = some (.cells #[.int .i64 B.x0, .int .i64 B.y0, .int .i64 B.x1, .int .i64 B.y1] 25 (0, 0))) ∧ Hid (Below V.heap.size V u)) (fun _ jv _ => n - (intOf jv).toNat)
      case atStart => exact ⟨0, Nat.zero_le _, rfl, by rw [unhide ha0], R9, hide (Below.refl _ _)⟩
      case round =>
        clear R9 ha0
        obtain ⟨j, hj, rfl, rfl, R9, D2⟩ := hrel
        by_cases hjn : j < n
        · have hji : (j : Int) < (n : Int) := by omega
          obtain ⟨s, o, hao, _⟩ := unhide PP _ (Below.refl _ _) j hjn
          subst hao
          obtain ⟨q, hq⟩ : ∃ q, Hid (F j = q) := ⟨_, rfl⟩
          have hst := hide (unhide ha1 j)
          rw [unhide hq] at hst
          have hS := hide (fun u (hu : Below wr.heap.size wr u) => show Hid (Below wr.heap.size wr u) ∧ u.cell? ⟨b9, 0, none⟩ = some (.int .i64 B.x0) ∧ u.cell? ⟨b9, 1, none⟩ = some (.int .i64 B.y0) ∧ u.cell? ⟨b9, 2, none⟩ = some (.int .i64 B.x1) ∧ u.cell? ⟨b9, 3, none⟩ = some (.int .i64 B.y1) ∧ u.cell? ⟨s, o + j * 4, none⟩ = some (.int .i64 q.x0) ∧ u.cell? ⟨s, o + j * 4 + 1, none⟩ = some (.int .i64 q.y0) ∧ u.cell? ⟨s, o + j * 4 + 2, none⟩ = some (.int .i64 q.x1) ∧ u.cell? ⟨s, o + j * 4 + 3, none⟩ = some (.int .i64 q.y1) by
            obtain ⟨c0, c1, c2, c3⟩ := row4 (row_next hu (unhide R9))
            obtain ⟨s', o', e, g0, g1, g2, g3⟩ := unhide PP u (below_two (unhide D) (below_two (unhide D2) hu)) j hjn
            cases e
            rw [unhide hq] at g0 g1 g2 g3
            exact ⟨hu, c0, c1, c2, c3, g0, g1, g2, g3⟩)
          have EM := hide (fun u => show Calls Try.prog 27 #[.agg #[.int .i64 B.x0, .int .i64 B.y0, .int .i64 B.x1, .int .i64 B.y1], .agg #[.int .i64 q.x0, .int .i64 q.y0, .int .i64 q.x1, .int .i64 q.y1]] u (fun r w' => r = .returned (.agg #[.int .i64 ((meetBB B q).x0), .int .i64 ((meetBB B q).y0), .int .i64 ((meetBB B q).x1), .int .i64 ((meetBB B q).y1)]) ∧ Below u.heap.size u w') from specMeetBox_any _ _ _ _ _ _ _ _ u)
          generalize meetBB B q = M at EM hst
          have EE := hide (fun u => show Calls Try.prog 26 #[.agg #[.int .i64 M.x0, .int .i64 M.y0, .int .i64 M.x1, .int .i64 M.y1]] u (fun r w' => r = .returned (.bool M.bare) ∧ Below u.heap.size u w') from specEmpty_any _ _ _ _ u)
          generalize M.bare = bare at EE hst
          clear hq
          cases hm : am j with
          | true =>
            rw [hm] at hst
            clear EM EE
            go_upto_region 10 with fail
            refine wp_region_held_drew (S := (fun u => Hid (Below wr.heap.size wr u) ∧ u.cell? ⟨b9, 0, none⟩ = some (.int .i64 B.x0) ∧ u.cell? ⟨b9, 1, none⟩ = some (.int .i64 B.y0) ∧ u.cell? ⟨b9, 2, none⟩ = some (.int .i64 B.x1) ∧ u.cell? ⟨b9, 3, none⟩ = some (.int .i64 B.y1) ∧ u.cell? ⟨s, o + j * 4, none⟩ = some (.int .i64 q.x0) ∧ u.cell? ⟨s, o + j * 4 + 1, none⟩ = some (.int .i64 q.y0) ∧ u.cell? ⟨s, o + j * 4 + 2, none⟩ = some (.int .i64 q.x1) ∧ u.cell? ⟨s, o + j * 4 + 3, none⟩ = some (.int .i64 q.y1))) (by kernel_rfl) ?_ (fun hHeld => ?_)
            · exact unhide hS _ (Below.refl _ _).drew
            refine wpAnyH_take (i := 0) (oi := { dst := some 30, op := Op.move (Operand.tmp 10), type := 4, pos := "l20_tile.go:28", after := #[], guard := none }) (v := ?_) rfl (by kernel_rfl) (by kernel_rfl) (by kernel_rfl) (fun _ _ _ h => h) (Or.inl ⟨by rfl, ?_⟩) (by assumption) ?_
            rotate_left
            · intro w hSw; (try dsimp only at hSw); go_simp <;> with_reducible rfl
            try simp only [Act.put, List.setIfInBounds_toArray, List.set_cons_zero, List.set_cons_succ]
            refine wpAnyH_take (i := 1) (oi := { dst := some 31, op := Op.move (Operand.tmp 30), type := 4, pos := "l20_tile.go:28", after := #[{ on := 0, ground := Ground.data }], guard := none }) (v := ?_) rfl (by kernel_rfl) (by kernel_rfl) (by kernel_rfl) (fun _ _ _ h => h) (Or.inl ⟨by rfl, ?_⟩) (by assumption) ?_
            rotate_left
            · intro w hSw; (try dsimp only at hSw); go_simp <;> with_reducible rfl
            try simp only [Act.put, List.setIfInBounds_toArray, List.set_cons_zero, List.set_cons_succ]
            refine wpAnyH_take (i := 2) (oi := { dst := some 32, op := Op.load 25 (Operand.tmp 9), type := 25, pos := "l20_tile.go:28", after := #[{ on := 1, ground := Ground.guard }], guard := some (1, false) }) (v := undef) rfl (by kernel_rfl) (by kernel_rfl) (by kernel_rfl) (fun _ _ _ h => h) (Or.inr ⟨by rfl, rfl⟩) (by assumption) ?_
            try simp only [Act.put, List.setIfInBounds_toArray, List.set_cons_zero, List.set_cons_succ]
            refine wpAnyH_take (i := 3) (oi := { dst := some 33, op := Op.move (Operand.tmp 2), type := 33, pos := "l20_tile.go:28", after := #[{ on := 1, ground := Ground.guard }], guard := some (1, false) }) (v := undef) rfl (by kernel_rfl) (by kernel_rfl) (by kernel_rfl) (fun _ _ _ h => h) (Or.inr ⟨by rfl, rfl⟩) (by assumption) ?_
            try simp only [Act.put, List.setIfInBounds_toArray, List.set_cons_zero, List.set_cons_succ]
            refine wpAnyH_take (i := 4) (oi := { dst := some 34, op := Op.move (Operand.tmp 11), type := 3, pos := "l20_tile.go:28", after := #[{ on := 1, ground := Ground.guard }], guard := some (1, false) }) (v := undef) rfl (by kernel_rfl) (by kernel_rfl) (by kernel_rfl) (fun _ _ _ h => h) (Or.inr ⟨by rfl, rfl⟩) (by assumption) ?_
            try simp only [Act.put, List.setIfInBounds_toArray, List.set_cons_zero, List.set_cons_succ]
            refine wpAnyH_take (i := 5) (oi := { dst := some 35, op := Op.indexAddr 33 (Operand.tmp 33) (Operand.tmp 34), type := 0, pos := "l20_tile.go:28", after := #[{ on := 3, ground := Ground.data }, { on := 4, ground := Ground.data }, { on := 1, ground := Ground.guard }], guard := some (1, false) }) (v := undef) rfl (by kernel_rfl) (by kernel_rfl) (by kernel_rfl) (fun _ _ _ h => h) (Or.inr ⟨by rfl, rfl⟩) (by assumption) ?_
            try simp only [Act.put, List.setIfInBounds_toArray, List.set_cons_zero, List.set_cons_succ]
            refine wpAnyH_take (i := 6) (oi := { dst := some 36, op := Op.load 25 (Operand.tmp 35), type := 25, pos := "l20_tile.go:28", after := #[{ on := 5, ground := Ground.data }, { on := 1, ground := Ground.guard }], guard := some (1, false) }) (v := undef) rfl (by kernel_rfl) (by kernel_rfl) (by kernel_rfl) (fun _ _ _ h => h) (Or.inr ⟨by rfl, rfl⟩) (by assumption) ?_
            try simp only [Act.put, List.setIfInBounds_toArray, List.set_cons_zero, List.set_cons_succ]
            refine wpAnyH_take (i := 7) (oi := { dst := some 37, op := Op.call { callee := Callee.value (Operand.func 27), args := #[Operand.tmp 32, Operand.tmp 36], argTypes := #[25, 25] }, type := 25, pos := "l20_tile.go:28", after := #[{ on := 2, ground := Ground.data }, { on := 6, ground := Ground.data }, { on := 1, ground := Ground.chain }, { on := 1, ground := Ground.guard }], guard := some (1, false) }) (v := undef) rfl (by kernel_rfl) (by kernel_rfl) (by kernel_rfl) (fun _ _ _ h => h) (Or.inr ⟨by rfl, rfl⟩) (by assumption) ?_
            try simp only [Act.put, List.setIfInBounds_toArray, List.set_cons_zero, List.set_cons_succ]
            refine wpAnyH_take (i := 8) (oi := { dst := some 38, op := Op.call { callee := Callee.value (Operand.func 26), args := #[Operand.tmp 37], argTypes := #[25] }, type := 4, pos := "l20_tile.go:28", after := #[{ on := 7, ground := Ground.data }, { on := 7, ground := Ground.chain }, { on := 1, ground := Ground.guard }], guard := some (1, false) }) (v := undef) rfl (by kernel_rfl) (by kernel_rfl) (by kernel_rfl) (fun _ _ _ h => h) (Or.inr ⟨by rfl, rfl⟩) (by assumption) ?_
            try simp only [Act.put, List.setIfInBounds_toArray, List.set_cons_zero, List.set_cons_succ]
            refine wpAnyH_take (i := 9) (oi := { dst := some 39, op := Op.unOp UnOp.not 4 (Operand.tmp 38), type := 4, pos := "l20_tile.go:28", after := #[{ on := 8, ground := Ground.data }, { on := 1, ground := Ground.guard }], guard := some (1, false) }) (v := undef) rfl (by kernel_rfl) (by kernel_rfl) (by kernel_rfl) (fun _ _ _ h => h) (Or.inr ⟨by rfl, rfl⟩) (by assumption) ?_
            try simp only [Act.put, List.setIfInBounds_toArray, List.set_cons_zero, List.set_cons_succ]
            refine wpAnyH_take (i := 10) (oi := { dst := some 40, op := Op.pick (Operand.tmp 31) (Operand.const (Value.bool true)) (Operand.tmp 39), type := 4, pos := "l20_tile.go:28", after := #[{ on := 1, ground := Ground.data }, { on := 9, ground := Ground.data }], guard := none }) (v := ?_) rfl (by kernel_rfl) (by kernel_rfl) (by kernel_rfl) (fun _ _ _ h => h) (Or.inl ⟨by rfl, ?_⟩) (by assumption) ?_
            rotate_left
            · intro w hSw; (try dsimp only at hSw); go_simp <;> with_reducible rfl
            try simp only [Act.put, List.setIfInBounds_toArray, List.set_cons_zero, List.set_cons_succ]
            refine wpAnyH_take (i := 11) (oi := { dst := some 10, op := Op.assign (Operand.tmp 40), type := 4, pos := "l20_tile.go:28", after := #[{ on := 10, ground := Ground.data }, { on := 8, ground := Ground.chain }, { on := 0, ground := Ground.phase }, { on := 1, ground := Ground.phase }, { on := 2, ground := Ground.phase }, { on := 3, ground := Ground.phase }, { on := 4, ground := Ground.phase }, { on := 5, ground := Ground.phase }, { on := 6, ground := Ground.phase }, { on := 7, ground := Ground.phase }, { on := 8, ground := Ground.phase }, { on := 9, ground := Ground.phase }, { on := 10, ground := Ground.phase }], guard := none }) (v := ?_) rfl (by kernel_rfl) (by kernel_rfl) (by kernel_rfl) (fun _ _ _ h => h) (Or.inl ⟨by rfl, ?_⟩) (by assumption) ?_
            rotate_left
            · intro w hSw; (try dsimp only at hSw); go_simp <;> with_reducible rfl
            try simp only [Act.put, List.setIfInBounds_toArray, List.set_cons_zero, List.set_cons_succ]
            refine wpAnyH_done (by kernel_rfl) ?_ _
            have H9 := hide (unhide hHeld.1)
            clear hHeld
            go_wp2_with fail
            go_roundw
            case rel => exact ⟨j + 1, by omega, by go_num, by rw [unhide hst]; rfl, hide (row_next (unhide H9) (unhide R9)), hide (below_two (unhide D2) (unhide H9))⟩
            case measure => simp [intOf]; omega
          | false =>
            rw [hm] at hst
            go_upto_region 10 with fail
            refine wp_region_held_drew (S := (fun u => Hid (Below wr.heap.size wr u) ∧ u.cell? ⟨b9, 0, none⟩ = some (.int .i64 B.x0) ∧ u.cell? ⟨b9, 1, none⟩ = some (.int .i64 B.y0) ∧ u.cell? ⟨b9, 2, none⟩ = some (.int .i64 B.x1) ∧ u.cell? ⟨b9, 3, none⟩ = some (.int .i64 B.y1) ∧ u.cell? ⟨s, o + j * 4, none⟩ = some (.int .i64 q.x0) ∧ u.cell? ⟨s, o + j * 4 + 1, none⟩ = some (.int .i64 q.y0) ∧ u.cell? ⟨s, o + j * 4 + 2, none⟩ = some (.int .i64 q.x1) ∧ u.cell? ⟨s, o + j * 4 + 3, none⟩ = some (.int .i64 q.y1))) (by kernel_rfl) ?_ (fun hHeld => ?_)
            · exact unhide hS _ (Below.refl _ _).drew
            refine wpAnyH_take (i := 0) (oi := { dst := some 30, op := Op.move (Operand.tmp 10), type := 4, pos := "l20_tile.go:28", after := #[], guard := none }) (v := ?_) rfl (by kernel_rfl) (by kernel_rfl) (by kernel_rfl) (fun _ _ _ h => h) (Or.inl ⟨by rfl, ?_⟩) (by assumption) ?_
            rotate_left
            · intro w hSw; (try dsimp only at hSw); go_simp <;> with_reducible rfl
            try simp only [Act.put, List.setIfInBounds_toArray, List.set_cons_zero, List.set_cons_succ]
            refine wpAnyH_take (i := 1) (oi := { dst := some 31, op := Op.move (Operand.tmp 30), type := 4, pos := "l20_tile.go:28", after := #[{ on := 0, ground := Ground.data }], guard := none }) (v := ?_) rfl (by kernel_rfl) (by kernel_rfl) (by kernel_rfl) (fun _ _ _ h => h) (Or.inl ⟨by rfl, ?_⟩) (by assumption) ?_
            rotate_left
            · intro w hSw; (try dsimp only at hSw); go_simp <;> with_reducible rfl
            try simp only [Act.put, List.setIfInBounds_toArray, List.set_cons_zero, List.set_cons_succ]
            refine wpAnyH_take (i := 2) (oi := { dst := some 32, op := Op.load 25 (Operand.tmp 9), type := 25, pos := "l20_tile.go:28", after := #[{ on := 1, ground := Ground.guard }], guard := some (1, false) }) (v := ?_) rfl (by kernel_rfl) (by kernel_rfl) (by kernel_rfl) (fun _ _ _ h => h) (Or.inl ⟨by rfl, ?_⟩) (by assumption) ?_
            rotate_left
            · intro w hSw; (try dsimp only at hSw); go_simp <;> with_reducible rfl
            try simp only [Act.put, List.setIfInBounds_toArray, List.set_cons_zero, List.set_cons_succ]
            refine wpAnyH_take (i := 3) (oi := { dst := some 33, op := Op.move (Operand.tmp 2), type := 33, pos := "l20_tile.go:28", after := #[{ on := 1, ground := Ground.guard }], guard := some (1, false) }) (v := ?_) rfl (by kernel_rfl) (by kernel_rfl) (by kernel_rfl) (fun _ _ _ h => h) (Or.inl ⟨by rfl, ?_⟩) (by assumption) ?_
            rotate_left
            · intro w hSw; (try dsimp only at hSw); go_simp <;> with_reducible rfl
            try simp only [Act.put, List.setIfInBounds_toArray, List.set_cons_zero, List.set_cons_succ]
            refine wpAnyH_take (i := 4) (oi := { dst := some 34, op := Op.move (Operand.tmp 11), type := 3, pos := "l20_tile.go:28", after := #[{ on := 1, ground := Ground.guard }], guard := some (1, false) }) (v := ?_) rfl (by kernel_rfl) (by kernel_rfl) (by kernel_rfl) (fun _ _ _ h => h) (Or.inl ⟨by rfl, ?_⟩) (by assumption) ?_
            rotate_left
            · intro w hSw; (try dsimp only at hSw); go_simp <;> with_reducible rfl
            try simp only [Act.put, List.setIfInBounds_toArray, List.set_cons_zero, List.set_cons_succ]
            refine wpAnyH_take (i := 5) (oi := { dst := some 35, op := Op.indexAddr 33 (Operand.tmp 33) (Operand.tmp 34), type := 0, pos := "l20_tile.go:28", after := #[{ on := 3, ground := Ground.data }, { on := 4, ground := Ground.data }, { on := 1, ground := Ground.guard }], guard := some (1, false) }) (v := ?_) rfl (by kernel_rfl) (by kernel_rfl) (by kernel_rfl) (fun _ _ _ h => h) (Or.inl ⟨by rfl, ?_⟩) (by assumption) ?_
            rotate_left
            · intro w hSw; (try dsimp only at hSw); go_simp <;> with_reducible rfl
            try simp only [Act.put, List.setIfInBounds_toArray, List.set_cons_zero, List.set_cons_succ]
            refine wpAnyH_take (i := 6) (oi := { dst := some 36, op := Op.load 25 (Operand.tmp 35), type := 25, pos := "l20_tile.go:28", after := #[{ on := 5, ground := Ground.data }, { on := 1, ground := Ground.guard }], guard := some (1, false) }) (v := ?_) rfl (by kernel_rfl) (by kernel_rfl) (by kernel_rfl) (fun _ _ _ h => h) (Or.inl ⟨by rfl, ?_⟩) (by assumption) ?_
            rotate_left
            · intro w hSw; (try dsimp only at hSw); go_simp <;> with_reducible rfl
            try simp only [Act.put, List.setIfInBounds_toArray, List.set_cons_zero, List.set_cons_succ]
            refine wpAnyH_ready (rs := [7]) (by kernel_rfl) (by simp) ?_
            refine AllReadyH.cons (o := { dst := some 37, op := Op.call { callee := Callee.value (Operand.func 27), args := #[Operand.tmp 32, Operand.tmp 36], argTypes := #[25, 25] }, type := 25, pos := "l20_tile.go:28", after := #[{ on := 2, ground := Ground.data }, { on := 6, ground := Ground.data }, { on := 1, ground := Ground.chain }, { on := 1, ground := Ground.guard }], guard := some (1, false) }) rfl (fun K hK => ?_) AllReadyH.nil
            go_simp
            (go_at_call 27; go_fit (unhide EM _); rintro r w5 ⟨rfl, hb⟩)
            have h5 := hide (below_two (unhide hHeld.1) hb)
            have sn := unhide hS _ (unhide h5)
            clear hb
            refine hK.out _ _ ?_ (fun hHeld => ?_)
            · with_reducible exact sn
            clear hK K
            try simp only [Act.put, List.setIfInBounds_toArray, List.set_cons_zero, List.set_cons_succ]
            refine wpAnyH_ready (rs := [8]) (by kernel_rfl) (by simp) ?_
            refine AllReadyH.cons (o := { dst := some 38, op := Op.call { callee := Callee.value (Operand.func 26), args := #[Operand.tmp 37], argTypes := #[25] }, type := 4, pos := "l20_tile.go:28", after := #[{ on := 7, ground := Ground.data }, { on := 7, ground := Ground.chain }, { on := 1, ground := Ground.guard }], guard := some (1, false) }) rfl (fun K hK => ?_) AllReadyH.nil
            go_simp
            (go_at_call 26; go_fit (unhide EE _); rintro r w6 ⟨rfl, hb⟩)
            have h6 := hide (below_two (unhide h5) hb)
            have sn := unhide hS _ (unhide h6)
            clear hb
            refine hK.out _ _ ?_ (fun hHeld => ?_)
            · with_reducible exact sn
            clear hK K
            try simp only [Act.put, List.setIfInBounds_toArray, List.set_cons_zero, List.set_cons_succ]
            refine wpAnyH_take (i := 9) (oi := { dst := some 39, op := Op.unOp UnOp.not 4 (Operand.tmp 38), type := 4, pos := "l20_tile.go:28", after := #[{ on := 8, ground := Ground.data }, { on := 1, ground := Ground.guard }], guard := some (1, false) }) (v := ?_) rfl (by kernel_rfl) (by kernel_rfl) (by kernel_rfl) (fun _ _ _ h => h) (Or.inl ⟨by rfl, ?_⟩) (by assumption) ?_
            rotate_left
            · intro w hSw; (try dsimp only at hSw); go_simp <;> with_reducible rfl
            try simp only [Act.put, List.setIfInBounds_toArray, List.set_cons_zero, List.set_cons_succ]
            refine wpAnyH_take (i := 10) (oi := { dst := some 40, op := Op.pick (Operand.tmp 31) (Operand.const (Value.bool true)) (Operand.tmp 39), type := 4, pos := "l20_tile.go:28", after := #[{ on := 1, ground := Ground.data }, { on := 9, ground := Ground.data }], guard := none }) (v := ?_) rfl (by kernel_rfl) (by kernel_rfl) (by kernel_rfl) (fun _ _ _ h => h) (Or.inl ⟨by rfl, ?_⟩) (by assumption) ?_
            rotate_left
            · intro w hSw; (try dsimp only at hSw); go_simp <;> with_reducible rfl
            try simp only [Act.put, List.setIfInBounds_toArray, List.set_cons_zero, List.set_cons_succ]
            refine wpAnyH_take (i := 11) (oi := { dst := some 10, op := Op.assign (Operand.tmp 40), type := 4, pos := "l20_tile.go:28", after := #[{ on := 10, ground := Ground.data }, { on := 8, ground := Ground.chain }, { on := 0, ground := Ground.phase }, { on := 1, ground := Ground.phase }, { on := 2, ground := Ground.phase }, { on := 3, ground := Ground.phase }, { on := 4, ground := Ground.phase }, { on := 5, ground := Ground.phase }, { on := 6, ground := Ground.phase }, { on := 7, ground := Ground.phase }, { on := 8, ground := Ground.phase }, { on := 9, ground := Ground.phase }, { on := 10, ground := Ground.phase }], guard := none }) (v := ?_) rfl (by kernel_rfl) (by kernel_rfl) (by kernel_rfl) (fun _ _ _ h => h) (Or.inl ⟨by rfl, ?_⟩) (by assumption) ?_
            rotate_left
            · intro w hSw; (try dsimp only at hSw); go_simp <;> with_reducible rfl
            try simp only [Act.put, List.setIfInBounds_toArray, List.set_cons_zero, List.set_cons_succ]
            refine wpAnyH_done (by kernel_rfl) ?_ _
            have H9 := h6
            clear hHeld sn
            go_wp2_with fail
            go_roundw
            case rel => exact ⟨j + 1, by omega, by go_num, by rw [unhide hst]; rfl, hide (row_next (unhide H9) (unhide R9)), hide (below_two (unhide D2) (unhide H9))⟩
            case measure => simp [intOf]; omega
        · have hje : j = n := by omega
          subst hje
          have hji : ¬ (j : Int) < (j : Int) := by omega
          replace O := hide (own_below (unhide O) (unhide D2))
          replace D := hide (below_two (unhide D) (unhide D2))
          clear R9 D2 ha1
          cases hm : am j with
          | true =>
            have hqt := hide (show TL (k + 1) = L ++ [(k : Int)] by rw [unhide hTy1 hm, ← unhide hL])
            go_wp2_with (at_builtin; go_must (refine wpList_append_vals wr rfl _ _ 31 3 rfl w.heap.size i0 (.int .i64 0) 8 Try.underlying31 hi hz0 hz1 hz2 rfl _ (L.map Zv) (by rfl) (own_ids (unhide O)) _ (by intro u hu; simp at hu; subst hu; rfl) 1 1 rfl (by rfl) (by have := unhide hlen; unfold maxLen; simp; omega) (by have := unhide hlen; simp; omega) w w.heap.size (Nat.le_refl _) (unhide D).size (unhide D) ?_); intro v' w9 hown' hnx'; replace hown' := ids_snoc hown'; obtain ⟨p', cap', rfl⟩ := own_form hown'; replace hown' := hide hown'; replace hnx' := hide hnx'; rw [List.length_append, List.length_singleton])
            go_roundw
            case rel => exact ⟨k + 1, p', cap', L ++ [(k : Int)], by omega, by go_num, by rw [List.length_append]; rfl, hide (unhide hqt).symm, hown', hnx'⟩
            case measure => simp [intOf]; omega
          | false =>
            have hqt := hide (show TL (k + 1) = L by rw [unhide hTn1 hm, ← unhide hL])
            go_wp2_with fail
            go_roundw
            case rel => exact ⟨k + 1, p, cap, L, by omega, by go_num, rfl, hide (unhide hqt).symm, O, D⟩
            case measure => simp [intOf]; omega
    · have hke : k = N := by omega
      subst hke
      have hki : ¬ (k : Int) < (k : Int) := by omega
      go_wp2_with fail
      go_fit (unhide ET _)
      rintro r w1 ⟨rfl, hw1⟩
      subst hw1
      have hR := hide (show R = L by rw [unhide hA, unhide hL])
      go_wp2_with fail
      go_ret
      exact ⟨p, cap, by rw [unhide hR]; rfl, by rw [unhide hR]; exact unhide O, unhide D⟩
end Go.Proofs.Ytleffglliciioaa
