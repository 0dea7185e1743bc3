/-
  Drawn points and paths of any kind.
-/
import Derived.Test.YtkhacppaemilgaaDoorDrawPb
import Derived.Test.YtkhacppaemilgaaDoorLooseS
import Derived.Test.YtkhacppaemilgaaDoorMoveK
import Derived.Deep.RegionLaw
import Derived.HandedShaped
import Derived.Deep.DeepCutAuto
import Derived.Deep.DeepFit
namespace Go.Proofs.YtkhacppaemilgaaDoor
open Go.RowKit
set_option linter.unusedVariables false

theorem any_lit (w : World) (L : List Int) (t : TypeId) : ∀ j, j < L.length → ∃ z, True ∧ (w.alloc (.cells (L.map (fun z => Value.int .i64 z)).toArray t)).cell? ⟨w.heap.size, j, none⟩ = some (.int .i64 z) := fun j hj => by
  refine ⟨L[j], trivial, ?_⟩
  rw [World.cell?_alloc_mark w _ t (0, 0) j]
  simp [hj]

set_option maxHeartbeats 4000000 in
set_option maxRecDepth 100000 in
theorem l04AnyPoint_any (g B : Nat) (a : Option Addr) (len cap : Nat) (w : World) (hl : len ≤ 1048576) (h : DS w w g B a len cap) :
    Calls Tryd.prog 42 #[.pointer (some ⟨g, 0, none⟩)] w fun e w' => ∃ x y : Int, e = .returned (.agg #[.int .i64 x, .int .i64 y]) ∧ DS w w' g B a len cap := by
  have D := hide h
  clear h
  go_enter Tryd.func42, Tryd.ntmps42
  go_wp2_with fail
  obtain ⟨W, hW⟩ : ∃ W, W = w.alloc (.cells #[.int .i64 0, .int .i64 0] 44) := ⟨_, rfl⟩
  have R := hide (show W.heap[w.heap.size]? = some (.cells #[.int .i64 0, .int .i64 0] 44 (0, 0)) by rw [hW]; exact new_row _ _)
  replace D := hide (show DS w W g B a len cap by rw [hW]; exact (unhide D).alloc _)
  rw [← hW]
  clear hW
  refine (l04Point_any g B a len cap _ hl (unhide D).again).mono ?_
  rintro e w1 ⟨x, y, _, _, rfl, d1⟩
  replace R := hide ((unhide D).heap d1.gb (Nat.le_refl _) (unhide R))
  replace D := hide ((unhide D).next d1.cur d1.gb)
  clear d1
  have lp := hide (show w.heap.size < w1.heap.size from heap_lt (unhide R))
  go_wp2_with fail
  obtain ⟨W1, hW⟩ : ∃ W, W = w1.alloc (.cells #[.int .i64 x, .int .i64 y] 44) := ⟨_, rfl⟩
  have P := hide (show W1.heap[w1.heap.size]? = some (.cells #[.int .i64 x, .int .i64 y] 44 (0, 0)) by rw [hW]; exact new_row _ _)
  replace R := hide (show W1.heap[w.heap.size]? = some (.cells #[.int .i64 0, .int .i64 0] 44 (0, 0)) by rw [hW]; exact old_row _ (unhide R))
  replace D := hide (show DS w W1 g B a len cap by rw [hW]; exact (unhide D).alloc _)
  rw [← hW]
  clear hW
  refine (once_ds (unhide D) hl 12 (by omega) (by omega)).mono ?_
  rintro e u1 ⟨b1, rfl, d1, g1⟩
  replace R := hide ((unhide D).heap g1 (Nat.le_refl _) (unhide R))
  replace P := hide ((unhide D).heap g1 (Nat.le_of_lt (unhide lp)) (unhide P))
  replace D := hide d1
  clear d1 g1
  cases b1 with
  | false =>
    go_wp2_with fail
    refine (once_ds (unhide D) hl 16 (by omega) (by omega)).mono ?_
    rintro e u2 ⟨b2, rfl, d1, g1⟩
    replace R := hide ((unhide D).heap g1 (Nat.le_refl _) (unhide R))
    replace P := hide ((unhide D).heap g1 (Nat.le_of_lt (unhide lp)) (unhide P))
    replace D := hide d1
    clear d1 g1
    cases b2 with
    | false =>
      obtain ⟨q0, q1⟩ := row2 (unhide P)
      obtain ⟨r0, r1⟩ := row2 (unhide R)
      obtain ⟨f0, f1⟩ := free2 (unhide R)
      go_wp2_with fail
      refine bodyPost_ret (v := .agg #[.int .i64 x, .int .i64 y]) (by simp [results, Tryd.results42, go_sem, r0, r1]) rfl ?_
      exact ⟨_, _, rfl, ((unhide D).put _ _ (Nat.le_refl _)).put _ _ (Nat.le_refl _)⟩
    | true =>
      go_wp2_with fail
      obtain ⟨V2, hV⟩ : ∃ V, V = u2.alloc (.cells #[.int .i64 (-8388608), .int .i64 8388608, .int .i64 8388609] 3) := ⟨_, rfl⟩
      have hrow := hide (show ∀ j, j < 3 → ∃ z, True ∧ V2.cell? ⟨u2.heap.size, j, none⟩ = some (.int .i64 z) by rw [hV]; exact any_lit u2 [(-8388608), 8388608, 8388609] 3)
      have hlt := hide (show u2.heap.size < V2.heap.size by rw [hV]; exact new_lt _ _)
      have hle := hide (show w.heap.size ≤ u2.heap.size from (unhide D).size)
      replace R := hide (show V2.heap[w.heap.size]? = some (.cells #[.int .i64 0, .int .i64 0] 44 (0, 0)) by rw [hV]; exact old_row _ (unhide R))
      replace P := hide (show V2.heap[w1.heap.size]? = some (.cells #[.int .i64 x, .int .i64 y] 44 (0, 0)) by rw [hV]; exact old_row _ (unhide P))
      replace D := hide (show DS w V2 g B a len cap by rw [hV]; exact (unhide D).alloc _)
      rw [← hV]
      clear hV
      refine (pick_ds (fun _ => True) (unhide D) hl u2.heap.size 3 (by omega) (by omega) (unhide hle) (unhide hlt) (unhide hrow)).mono ?_
      rintro e t2 ⟨z2, _, rfl, d1, g1⟩
      clear hrow hlt hle
      replace R := hide ((unhide D).heap g1 (Nat.le_refl _) (unhide R))
      replace P := hide ((unhide D).heap g1 (Nat.le_of_lt (unhide lp)) (unhide P))
      replace D := hide d1
      clear d1 g1
      obtain ⟨q0, q1⟩ := row2 (unhide P)
      obtain ⟨f0, f1⟩ := free2 (unhide P)
      go_upto_region 6 with fail
      obtain ⟨X2, hX⟩ : ∃ X, X = t2.setCell ⟨w1.heap.size, 1, none⟩ (.int .i64 z2) := ⟨_, rfl⟩
      replace P := hide (show X2.heap[w1.heap.size]? = some (.cells #[.int .i64 x, .int .i64 z2] 44 (0, 0)) by rw [hX]; exact set2_1 (unhide P))
      replace R := hide (show X2.heap[w.heap.size]? = some (.cells #[.int .i64 0, .int .i64 0] 44 (0, 0)) by rw [hX]; exact setc_other (Nat.ne_of_lt (unhide lp)) (unhide R))
      replace D := hide (show DS w X2 g B a len cap by rw [hX]; exact (unhide D).put _ _ (Nat.le_of_lt (unhide lp)))
      rw [← hX]
      clear hX q0 q1 f0 f1
      obtain ⟨q0, q1⟩ := row2 (unhide P)
      obtain ⟨r0, r1⟩ := row2 (unhide R)
      obtain ⟨f0, f1⟩ := free2 (unhide R)
      go_wp2_with fail
      refine bodyPost_ret (v := .agg #[.int .i64 x, .int .i64 z2]) (by simp [results, Tryd.results42, go_sem, r0, r1]) rfl ?_
      exact ⟨_, _, rfl, ((unhide D).put _ _ (Nat.le_refl _)).put _ _ (Nat.le_refl _)⟩
  | true =>
    go_wp2_with fail
    obtain ⟨V1, hV⟩ : ∃ V, V = u1.alloc (.cells #[.int .i64 (-8388608), .int .i64 8388608, .int .i64 8388609, .int .i64 (-8388609), .int .i64 9223372036854775807, .int .i64 (-9223372036854775808)] 3) := ⟨_, rfl⟩
    have hrow := hide (show ∀ j, j < 6 → ∃ z, True ∧ V1.cell? ⟨u1.heap.size, j, none⟩ = some (.int .i64 z) by rw [hV]; exact any_lit u1 [(-8388608), 8388608, 8388609, (-8388609), 9223372036854775807, (-9223372036854775808)] 3)
    have hlt := hide (show u1.heap.size < V1.heap.size by rw [hV]; exact new_lt _ _)
    have hle := hide (show w.heap.size ≤ u1.heap.size from (unhide D).size)
    replace R := hide (show V1.heap[w.heap.size]? = some (.cells #[.int .i64 0, .int .i64 0] 44 (0, 0)) by rw [hV]; exact old_row _ (unhide R))
    replace P := hide (show V1.heap[w1.heap.size]? = some (.cells #[.int .i64 x, .int .i64 y] 44 (0, 0)) by rw [hV]; exact old_row _ (unhide P))
    replace D := hide (show DS w V1 g B a len cap by rw [hV]; exact (unhide D).alloc _)
    rw [← hV]
    clear hV
    refine (pick_ds (fun _ => True) (unhide D) hl u1.heap.size 6 (by omega) (by omega) (unhide hle) (unhide hlt) (unhide hrow)).mono ?_
    rintro e t1 ⟨z, _, rfl, d1, g1⟩
    clear hrow hlt hle
    replace R := hide ((unhide D).heap g1 (Nat.le_refl _) (unhide R))
    replace P := hide ((unhide D).heap g1 (Nat.le_of_lt (unhide lp)) (unhide P))
    replace D := hide d1
    clear d1 g1
    obtain ⟨q0, q1⟩ := row2 (unhide P)
    obtain ⟨f0, f1⟩ := free2 (unhide P)
    go_wp2_with fail
    obtain ⟨X1, hX⟩ : ∃ X, X = t1.setCell ⟨w1.heap.size, 0, none⟩ (.int .i64 z) := ⟨_, rfl⟩
    replace P := hide (show X1.heap[w1.heap.size]? = some (.cells #[.int .i64 z, .int .i64 y] 44 (0, 0)) by rw [hX]; exact set2_0 (unhide P))
    replace R := hide (show X1.heap[w.heap.size]? = some (.cells #[.int .i64 0, .int .i64 0] 44 (0, 0)) by rw [hX]; exact setc_other (Nat.ne_of_lt (unhide lp)) (unhide R))
    replace D := hide (show DS w X1 g B a len cap by rw [hX]; exact (unhide D).put _ _ (Nat.le_of_lt (unhide lp)))
    rw [← hX]
    clear hX q0 q1 f0 f1
    refine (once_ds (unhide D) hl 16 (by omega) (by omega)).mono ?_
    rintro e u2 ⟨b2, rfl, d1, g1⟩
    replace R := hide ((unhide D).heap g1 (Nat.le_refl _) (unhide R))
    replace P := hide ((unhide D).heap g1 (Nat.le_of_lt (unhide lp)) (unhide P))
    replace D := hide d1
    clear d1 g1
    cases b2 with
    | false =>
      obtain ⟨q0, q1⟩ := row2 (unhide P)
      obtain ⟨r0, r1⟩ := row2 (unhide R)
      obtain ⟨f0, f1⟩ := free2 (unhide R)
      go_wp2_with fail
      refine bodyPost_ret (v := .agg #[.int .i64 z, .int .i64 y]) (by simp [results, Tryd.results42, go_sem, r0, r1]) rfl ?_
      exact ⟨_, _, rfl, ((unhide D).put _ _ (Nat.le_refl _)).put _ _ (Nat.le_refl _)⟩
    | true =>
      go_wp2_with fail
      obtain ⟨V2, hV⟩ : ∃ V, V = u2.alloc (.cells #[.int .i64 (-8388608), .int .i64 8388608, .int .i64 8388609] 3) := ⟨_, rfl⟩
      have hrow := hide (show ∀ j, j < 3 → ∃ z, True ∧ V2.cell? ⟨u2.heap.size, j, none⟩ = some (.int .i64 z) by rw [hV]; exact any_lit u2 [(-8388608), 8388608, 8388609] 3)
      have hlt := hide (show u2.heap.size < V2.heap.size by rw [hV]; exact new_lt _ _)
      have hle := hide (show w.heap.size ≤ u2.heap.size from (unhide D).size)
      replace R := hide (show V2.heap[w.heap.size]? = some (.cells #[.int .i64 0, .int .i64 0] 44 (0, 0)) by rw [hV]; exact old_row _ (unhide R))
      replace P := hide (show V2.heap[w1.heap.size]? = some (.cells #[.int .i64 z, .int .i64 y] 44 (0, 0)) by rw [hV]; exact old_row _ (unhide P))
      replace D := hide (show DS w V2 g B a len cap by rw [hV]; exact (unhide D).alloc _)
      rw [← hV]
      clear hV
      refine (pick_ds (fun _ => True) (unhide D) hl u2.heap.size 3 (by omega) (by omega) (unhide hle) (unhide hlt) (unhide hrow)).mono ?_
      rintro e t2 ⟨z2, _, rfl, d1, g1⟩
      clear hrow hlt hle
      replace R := hide ((unhide D).heap g1 (Nat.le_refl _) (unhide R))
      replace P := hide ((unhide D).heap g1 (Nat.le_of_lt (unhide lp)) (unhide P))
      replace D := hide d1
      clear d1 g1
      obtain ⟨q0, q1⟩ := row2 (unhide P)
      obtain ⟨f0, f1⟩ := free2 (unhide P)
      go_upto_region 6 with fail
      obtain ⟨X2, hX⟩ : ∃ X, X = t2.setCell ⟨w1.heap.size, 1, none⟩ (.int .i64 z2) := ⟨_, rfl⟩
      replace P := hide (show X2.heap[w1.heap.size]? = some (.cells #[.int .i64 z, .int .i64 z2] 44 (0, 0)) by rw [hX]; exact set2_1 (unhide P))
      replace R := hide (show X2.heap[w.heap.size]? = some (.cells #[.int .i64 0, .int .i64 0] 44 (0, 0)) by rw [hX]; exact setc_other (Nat.ne_of_lt (unhide lp)) (unhide R))
      replace D := hide (show DS w X2 g B a len cap by rw [hX]; exact (unhide D).put _ _ (Nat.le_of_lt (unhide lp)))
      rw [← hX]
      clear hX q0 q1 f0 f1
      obtain ⟨q0, q1⟩ := row2 (unhide P)
      obtain ⟨r0, r1⟩ := row2 (unhide R)
      obtain ⟨f0, f1⟩ := free2 (unhide R)
      go_wp2_with fail
      refine bodyPost_ret (v := .agg #[.int .i64 z, .int .i64 z2]) (by simp [results, Tryd.results42, go_sem, r0, r1]) rfl ?_
      exact ⟨_, _, rfl, ((unhide D).put _ _ (Nat.le_refl _)).put _ _ (Nat.le_refl _)⟩

def AnyI (u : World) (a : Option Addr) (n : Nat) : Prop := ∀ i, i < n → ∃ z, IntAt u a i z
def AnyPt (u : World) (b : Option Addr) (m : Nat) : Prop := ∀ i, i < m → ∃ p, PtArg u b i p
def AnyP (v1 v2 : Value) (u : World) : Prop := ∃ a n c b m d, v1 = .slice a n c ∧ v2 = .slice b m d ∧ n ≤ 24 ∧ m ≤ 24 ∧ m ≤ d ∧ AnyI u a n ∧ AnyPt u b m
theorem own_news {u : World} {base e size g n cap : Nat} {xs : List Value} (h : u.ownsRow base e size (.slice (some ⟨g, 0, none⟩) n cap) n xs) : ∀ j v, xs[j]? = some v → u.cell? ((⟨g, 0, none⟩ : Addr).add j) = some v := by
  intro j v hj
  have hadd : (⟨g, 0, none⟩ : Addr).add j = ⟨g, j, none⟩ := by unfold Addr.add; split <;> simp_all
  have hl : j < n * size := by rw [← h.1]; exact (List.getElem?_eq_some_iff.1 hj).1
  rw [hadd, h.cellAt j hl, hj]
theorem ix_one {xs : List Value} {vf : Nat → Int} {n : Nat} (hl : xs.length = n * 1) (h : IxAt xs vf n) : ∀ u ∈ xs, u.oneCell' = true := by
  intro u hu
  obtain ⟨j, hj, rfl⟩ := List.mem_iff_getElem.1 hu
  have h0 := h j (by omega)
  rw [List.getElem?_eq_getElem hj] at h0
  injection h0 with h0; rw [h0]; rfl
theorem px_one {ys : List Value} {pf : Nat → Int × Int} {m : Nat} (hl : ys.length = m * 2) (h : PxAt ys pf m) : ∀ u ∈ ys, u.oneCell' = true := by
  intro u hu
  obtain ⟨j, hj, rfl⟩ := List.mem_iff_getElem.1 hu
  obtain ⟨h0, h1⟩ := h (j / 2) (by omega)
  rcases Nat.mod_two_eq_zero_or_one j with e | e
  · rw [show j / 2 * 2 = j by omega, List.getElem?_eq_getElem hj] at h0
    injection h0 with h0; rw [h0]; rfl
  · rw [show j / 2 * 2 + 1 = j by omega, List.getElem?_eq_getElem hj] at h1
    injection h1 with h1; rw [h1]; rfl
theorem step_append_bl {P : Program} {ops : Array Oper} {o : Oper} {a : Act} {w W0 : World} {K : Act → World → Prop} {Q : Exit → Act → World → Prop} {E : Prop} (hg : o.guard = none) (s x : Operand) (t e : TypeId)
    (hop : o.op = .call { callee := .builtin .append, args := #[s, x], argTypes := #[t, t] })
    (i : TypeInfo) (z : Value) (size bytes : Nat) (ht : P.underlying t = some (.slice e)) (hi : P.info? e = some i) (hz : i.zero = some z) (hsize : i.size = size) (hby : i.bytes = bytes) (hzs : z.cells.size = size) (hsz : 0 < size)
    (v : Value) (hs : a.eval s = v) (hown : w.ownsRow W0.heap.size e size v 0 [])
    (ad : Addr) (m c : Nat) (news : List Value) (hx : a.eval x = .slice (some ad) m c) (hl : news.length = m * size) (hnews : ∀ j u, news[j]? = some u → w.cell? (ad.add j) = some u) (h1 : ∀ u ∈ news, u.oneCell' = true)
    (h63 : m ≤ maxLen) (hbytes : m * bytes ≤ 140737488355328) (hb : Below W0.heap.size W0 w)
    (hK : ∀ v' w', w'.ownsRow W0.heap.size e size v' m news → w.grownBy w' v.ownBlock → Below W0.heap.size W0 w' → (∀ (b' e' s' n' : Nat) (x' : Value) (xs' : List Value), w.ownsRow b' e' s' x' n' xs' → e' ≠ e → w'.ownsRow b' e' s' x' n' xs') → K (a.put o.dst v') w') :
    if Region.wanted o (yielded ops a.tmps) = true then Oper.wp P o a w K Q else E := by
  refine step_append_gr hg s x t e hop W0.heap.size i z size bytes ht hi hz hsize hby hzs hsz v 0 [] hs hown ad m c news hx hl hnews h1 (by omega) (by rw [Nat.zero_add]; exact hbytes) hb.size ?_
  intro v' w' ho hg'
  rw [Nat.zero_add, List.nil_append] at ho
  exact hK v' w' ho hg' (hb.grown hg' hb.size (fun k hk => (hown.lt k hk).1)) (fun b' e' s' n' x' xs' h1 h2 => h1.kept hg' (rows_apart h1 hown h2))
theorem own_lit' {w : World} {base e size b : Nat} (hb : base ≤ w.heap.size) (h : w.heap.size = b) : (w.alloc (.cells #[] e)).ownsRow base e size (.slice (some ⟨b, 0, none⟩) 0 0) 0 [] := by
  subst h; exact World.ownsRow_lit w #[] 0 hb (by decide) (by simp)
theorem own_any {u : World} {base e size b : Nat} (h : u.heap[b]? = some (.cells #[] e (0, 0))) (hb : base ≤ b) : u.ownsRow base e size (.slice (some ⟨b, 0, none⟩) 0 0) 0 [] :=
  ⟨by simp, .inr ⟨b, 0, #[], rfl, hb, h, Nat.le_refl _, by decide, by simp, by simp⟩⟩
theorem anyI_own {u : World} {base n c : Nat} {a : Option Addr} {xs : List Value} {vf : Nat → Int} (h : u.ownsRow base 3 1 (.slice a n c) n xs) (hx : IxAt xs vf n) : AnyI u a n := fun i hi => ⟨_, own_ix h hx i hi⟩
theorem anyP_own {u : World} {base t n c : Nat} {a : Option Addr} {xs : List Value} {pf : Nat → Int × Int} (h : u.ownsRow base t 2 (.slice a n c) n xs) (hx : PxAt xs pf n) : AnyPt u a n := fun i hi => ⟨_, own_pxa h hx i hi⟩
/-- Where an int is written, ints stay. -/
theorem int_set {u : World} {p q : Addr} {z x : Int} (h : u.cell? q = some (.int .i64 x)) : ∃ y, (u.setCell p (.int .i64 z)).cell? q = some (.int .i64 y) := by
  exact someInt_setCell ⟨x, h⟩ p z
end Go.Proofs.YtkhacppaemilgaaDoor
