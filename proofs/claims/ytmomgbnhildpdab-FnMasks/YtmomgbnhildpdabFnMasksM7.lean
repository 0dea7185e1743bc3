/-
  DrawBy · BoxI · MaskI · MaskJ · WindA · WindI · WindJ · MaskK · RunsI: texts of one claim, in one.
-/
import Derived.Test.YtmomgbnhildpdabFnMasksM5
import Derived.Test.YtmomgbnhildpdabFnMasksM6
import Derived.Test.YtmomgbnhildpdabFnMasksM4
import Derived.Test.YtmomgbnhildpdabFnMasksM1
import Derived.Deep.RegionHeld3
import Derived.Deep.DeepFit
import Derived.Test.YtmomgbnhildpdabFnMasksM3
import Derived.Test.YtmomgbnhildpdabFnMasksM2
import Derived.Laws.AppendOwnNone

/-
  A drawn box and drawn runs: DrawMaskBy.
-/
namespace Go.Proofs.Ytmomgbnhildpdab
open Go.RowKit
set_option linter.unusedVariables false

/-- Runs under way, whose numbers are whatever they are. -/
def RunsW (u : World) (lo : Nat) (v : Value) (n : Nat) : Prop := ∃ (f : Nat → Int) (xs : List Value), u.ownsRow lo 57 4 v n xs ∧ IxAt xs f (n * 4)
theorem RunsW.at {u : World} {lo n c : Nat} {a : Option Addr} (h : RunsW u lo (.slice a n c) n) : ∃ G, RunsAt u a n G := by
  obtain ⟨f, xs, o, x⟩ := h
  refine ⟨fun i => ⟨f (i * 4), f (i * 4 + 1), f (i * 4 + 2), f (i * 4 + 3)⟩, fun i hi => ?_⟩
  obtain ⟨s, cs, hv, _, _⟩ := own_at o (by omega)
  cases hv
  refine ⟨s, 0, rfl, ?_, ?_, ?_, ?_⟩
  · rw [Nat.zero_add, o.cellAt _ (by omega)]; exact x _ (by omega)
  · rw [Nat.zero_add, o.cellAt _ (by omega)]; exact x _ (by omega)
  · rw [Nat.zero_add, o.cellAt _ (by omega)]; exact x _ (by omega)
  · rw [Nat.zero_add, o.cellAt _ (by omega)]; exact x _ (by omega)
def intV : Option Value → Int
  | some (.int _ z) => z
  | _ => 0
theorem rsV_ix (l : List B4) : ∃ f, IxAt (rsV l) f (l.length * 4) := by
  refine ⟨fun j => intV (rsV l)[j]?, fun j hj => ?_⟩
  show (rsV l)[j]? = some (.int .i64 (intV (rsV l)[j]?))
  have hi : j / 4 < l.length := by omega
  have h := rsV_get l (j / 4) hi
  have h4 : j % 4 = 0 ∨ j % 4 = 1 ∨ j % 4 = 2 ∨ j % 4 = 3 := by omega
  rcases h4 with e | e | e | e
  · have h1 := h.1
    rw [show j / 4 * 4 = j by omega] at h1; rw [h1]; rfl
  · have h1 := h.2.1
    rw [show j / 4 * 4 + 1 = j by omega] at h1; rw [h1]; rfl
  · have h1 := h.2.2.1
    rw [show j / 4 * 4 + 2 = j by omega] at h1; rw [h1]; rfl
  · have h1 := h.2.2.2
    rw [show j / 4 * 4 + 3 = j by omega] at h1; rw [h1]; rfl
theorem DS.grow {w u u' : World} {g B : Nat} {a : Option Addr} {len cap : Nat} {row : Option Nat} (h : DS w u g B a len cap) (hg : u.grownBy u' row) (hr : ∀ k, row = some k → w.heap.size ≤ k) : DS w u' g B a len cap := by
  have hlt := h.lt
  refine ⟨h.cur.grown hg (fun e => by have := hr g e; omega), ⟨hg.os.trans h.gb.os, hg.tape.trans h.gb.tape, hg.output.trans h.gb.output, Nat.le_trans h.size hg.size, fun k hk hn => ?_⟩, h.inb.below (below_of_grown hg h.le (fun k hk => by have := hr k hk; have := h.lg; omega)), Nat.le_trans h.le hg.size, h.lg, h.lt⟩
  exact (hg.block k (Nat.lt_of_lt_of_le hk h.size) (fun e => by have := hr k e.symm; omega)).trans (h.gb.block k hk hn)
/-- 'append' of one run onto such runs. -/
theorem wpList_append_rw {P : Program} {ops : Array Oper} {rest : List Oper} {o : Oper} {a : Act} {Q : Exit → Act → World → Prop} (wr : World) (hgd : o.guard = none) (s x : Operand) (t : TypeId)
    (ho : o.op = .call { callee := .builtin .append, args := #[s, x], argTypes := #[t, t] })
    (base : Nat) (i : TypeInfo) (z : Value) (ht : P.underlying t = some (.slice 57)) (hi : P.info? 57 = some i) (hz : i.zero = some z) (hsize : i.size = 4) (hby : i.bytes = 32) (hz1 : z.cells.size = 4)
    (v : Value) (n : Nat) (hs : a.eval s = v) (hown : RunsW wr base v n)
    (p q u k : Int) (c : Nat) (hx : a.eval x = .slice (some ⟨wr.heap.size, 0, none⟩) 1 c)
    (hn : n ≤ 1048576) (hbase : base ≤ wr.heap.size)
    (h : ∀ v' w', RunsW w' base v' (n + 1) → (wr.alloc (.cells #[.int .i64 p, .int .i64 q, .int .i64 u, .int .i64 k] 57)).grownBy w' v.ownBlock → wpList P ops Q rest (a.put o.dst v') w') :
    wpList P ops Q (o :: rest) a (wr.alloc (.cells #[.int .i64 p, .int .i64 q, .int .i64 u, .int .i64 k] 57)) := by
  obtain ⟨f, xs, own, ix⟩ := hown
  have hxl := own.1
  refine wpList_append_own (wr.alloc (.cells #[.int .i64 p, .int .i64 q, .int .i64 u, .int .i64 k] 57)) hgd s x t ho base 57 i z 4 32 ht hi hz hsize hby hz1 (by decide) v n xs hs (own.alloc _) ⟨wr.heap.size, 0, none⟩ 1 c (rnV ⟨p, q, u, k⟩) hx (by simp [rnV]) ?_ (by intro x hx; simp [rnV] at hx; rcases hx with rfl | rfl | rfl | rfl <;> rfl) (by unfold maxLen; omega) (by omega) (by simp; omega) ?_
  · intro j x hj
    have hadd : (⟨wr.heap.size, 0, none⟩ : Addr).add j = ⟨wr.heap.size, j, none⟩ := by unfold Addr.add; split <;> simp_all
    rw [hadd, World.cell?_alloc_mark wr #[.int .i64 p, .int .i64 q, .int .i64 u, .int .i64 k] 57 (0, 0) j, ← hj]
    simp [rnV]
  · intro v' w' ho' hg _
    refine h v' w' ⟨fun j => intV ((xs ++ rnV ⟨p, q, u, k⟩)[j]?), _, ho', fun j hj => ?_⟩ hg
    show (xs ++ rnV ⟨p, q, u, k⟩)[j]? = some (.int .i64 (intV ((xs ++ rnV ⟨p, q, u, k⟩)[j]?)))
    by_cases hjn : j < n * 4
    · rw [List.getElem?_append_left (by omega), ix j hjn]; rfl
    · rw [List.getElem?_append_right (by omega), hxl]
      have h4 : j - n * 4 = 0 ∨ j - n * 4 = 1 ∨ j - n * 4 = 2 ∨ j - n * 4 = 3 := by omega
      rcases h4 with e | e | e | e <;> rw [e] <;> rfl

structure LR (w u : World) (g B : Nat) (a : Option Addr) (len cap b5 lo : Nat) (v : Value) (n : Nat) : Prop where
  ds : DS w u g B a len cap
  row : ∃ (x0 x1 x2 x3 : Int) (s : Value), u.heap[b5]? = some (.cells #[.int .i64 x0, .int .i64 x1, .int .i64 x2, .int .i64 x3, s] 44 (0, 0))
  own : RunsW u lo v n
  lt : w.heap.size ≤ b5 ∧ b5 < lo ∧ lo ≤ u.heap.size
theorem LR.draw {w u u' : World} {g B : Nat} {a : Option Addr} {len cap b5 lo : Nat} {v : Value} {n : Nat} (h : LR w u g B a len cap b5 lo v n) (hd : DS w u' g B a len cap) (hg : u.grownBy u' (some g)) : LR w u' g B a len cap b5 lo v n := by
  have hl := h.lt
  have hgl := h.ds.lt
  obtain ⟨x0, x1, x2, x3, s, hr⟩ := h.row
  obtain ⟨f, xs, o, x⟩ := h.own
  exact ⟨hd, ⟨x0, x1, x2, x3, s, h.ds.heap hg hl.1 hr⟩, ⟨f, xs, o.kept hg (by
    cases hv : v.ownBlock with
    | none => exact .inl rfl
    | some k => exact .inr (by have := (o.lt k hv).1; intro e; cases e; omega)), x⟩, hl.1, hl.2.1, Nat.le_trans hl.2.2 hg.size⟩
theorem LR.calls {w u u' : World} {g B : Nat} {a : Option Addr} {len cap b5 lo : Nat} {v : Value} {n : Nat} (h : LR w u g B a len cap b5 lo v n) (hb : Below u.heap.size u u') : LR w u' g B a len cap b5 lo v n := by
  obtain ⟨x0, x1, x2, x3, s, hr⟩ := h.row
  obtain ⟨f, xs, o, x⟩ := h.own
  exact ⟨h.ds.calls hb, ⟨x0, x1, x2, x3, s, row_next hb hr⟩, ⟨f, xs, own_below o hb, x⟩, h.lt.1, h.lt.2.1, Nat.le_trans h.lt.2.2 hb.size⟩
theorem LR.cell {w u : World} {g B : Nat} {a : Option Addr} {len cap b5 lo gg n cq : Nat} (h : LR w u g B a len cap b5 lo (.slice (some ⟨gg, 0, none⟩) n cq) n) {j : Nat} (hj : j < n * 4) : ∃ z, u.cell? ⟨gg, j, none⟩ = some (.int .i64 z) ∧ u.frozen? ⟨gg, j, none⟩ = false := by
  obtain ⟨f, xs, o, x⟩ := h.own
  exact ⟨f j, by rw [o.cellAt _ hj]; exact x j hj, o.frozenAt j⟩
theorem LR.store {w u : World} {g B : Nat} {a : Option Addr} {len cap b5 lo gg n cq : Nat} (h : LR w u g B a len cap b5 lo (.slice (some ⟨gg, 0, none⟩) n cq) n) {j : Nat} (hj : j < n * 4) (z : Int) : LR w (u.setCell ⟨gg, j, none⟩ (.int .i64 z)) g B a len cap b5 lo (.slice (some ⟨gg, 0, none⟩) n cq) n := by
  have hl := h.lt
  obtain ⟨x0, x1, x2, x3, s, hr⟩ := h.row
  obtain ⟨f, xs, o, x⟩ := h.own
  have hgg := (o.lt gg rfl).1
  exact ⟨h.ds.put j _ (by omega), ⟨x0, x1, x2, x3, s, setc_other (by omega) hr⟩, ⟨_, _, (o.stored j _).1, ix_set x (by have := o.1; omega)⟩, hl.1, hl.2.1, by rw [setc_size]; exact hl.2.2⟩

theorem LR.grown {w u u' : World} {g B : Nat} {a : Option Addr} {len cap b5 lo gg n cq m : Nat} {v' : Value} (h : LR w u g B a len cap b5 lo (.slice (some ⟨gg, 0, none⟩) n cq) n) (hg : u.grownBy u' (Value.slice (some ⟨gg, 0, none⟩) n cq).ownBlock) (ho : RunsW u' lo v' m) : LR w u' g B a len cap b5 lo v' m := by
  have hl := h.lt
  obtain ⟨x0, x1, x2, x3, s, hr⟩ := h.row
  obtain ⟨f, xs, o, x⟩ := h.own
  have hgg := (o.lt gg rfl).1
  exact ⟨h.ds.grow hg (fun k hk => by simp [Value.ownBlock] at hk; omega), ⟨x0, x1, x2, x3, s, (hg.block b5 (heap_lt hr) (by intro e; simp [Value.ownBlock] at e; omega)).trans hr⟩, ho, hl.1, hl.2.1, Nat.le_trans hl.2.2 hg.size⟩
theorem LR.box {w u : World} {g B : Nat} {a : Option Addr} {len cap b5 lo : Nat} {v : Value} {n : Nat} (h : LR w u g B a len cap b5 lo v n) {t0 t1 t2 t3 z0 z1 z2 z3 : Int} {s : Value} (hr : u.heap[b5]? = some (.cells #[.int .i64 t0, .int .i64 t1, .int .i64 t2, .int .i64 t3, s] 44 (0, 0))) :
    LR w ((((u.setCell ⟨b5, 0, none⟩ (.int .i64 z0)).setCell ⟨b5, 1, none⟩ (.int .i64 z1)).setCell ⟨b5, 2, none⟩ (.int .i64 z2)).setCell ⟨b5, 3, none⟩ (.int .i64 z3)) g B a len cap b5 lo v n := by
  have hl := h.lt
  obtain ⟨f, xs, o, x⟩ := h.own
  have hne : ∀ k, v.ownBlock = some k → k ≠ b5 := fun k hk => by have := (o.lt k hk).1; omega
  exact ⟨(((h.ds.put 0 _ hl.1).put 1 _ hl.1).put 2 _ hl.1).put 3 _ hl.1, ⟨z0, z1, z2, z3, s, put5_4row hr⟩, ⟨f, xs, own_setc_ne (own_setc_ne (own_setc_ne (own_setc_ne o hne) hne) hne) hne, x⟩, hl.1, hl.2.1, by rw [setc_size, setc_size, setc_size, setc_size]; exact hl.2.2⟩
theorem RunsW.form {u : World} {lo n : Nat} {v : Value} (h : RunsW u lo v n) : ∃ p c, v = .slice p n c := let ⟨_, _, o, _⟩ := h; own_form o

set_option maxHeartbeats 16000000 in
set_option maxRecDepth 100000 in
theorem drawMaskBy_any (a0 : Option Addr) (len cap : Nat) (w : World) (hl : len ≤ 1048576) (hin : InB w.heap.size w a0 len) :
    Calls Try.prog 27 #[.slice a0 len cap] w fun r w' => BoxRuns w r w' := by
  obtain ⟨i1, hi1, hz1, hs1, hb1⟩ := info_parts infoRun
  have HI := hide hin
  clear hin
  go_enter Try.func27, Try.ntmps27
  go_wp2_with fail
  obtain ⟨W, hW⟩ : ∃ W, W = w.alloc (.cells #[.int .i64 0, .int .i64 0, .int .i64 0, .int .i64 0] 42) := ⟨_, rfl⟩
  have R2 := hide (show W.heap[w.heap.size]? = some (.cells #[.int .i64 0, .int .i64 0, .int .i64 0, .int .i64 0] 42 (0, 0)) by rw [hW]; exact new_row _ _)
  have HB := hide (show Below w.heap.size w W by rw [hW]; exact al1_below _ _)
  rw [← hW]
  clear hW
  refine (l01New_any a0 len cap _ hl ((unhide HI).next (unhide HB))).mono ?_
  rintro e w1 ⟨g, hg, rfl, hc, hb1'⟩
  have D1 := hide (DS.start hc (((unhide HI).next (unhide HB)).below hb1') hb1'.size hg)
  have B1 := hide hb1'
  clear hc hb1' HI
  go_wp2_with fail
  refine (l11Mask_any g _ a0 len cap _ hl (unhide D1)).mono ?_
  rintro r w2 ⟨⟨a, b, c, d, ao, n0, ca, F, rfl, hp, ok⟩, d2⟩
  have P := hide hp
  have ok' := hide ok
  have hn0 := ok.le
  have D2 := hide d2
  clear hp d2 ok
  go_upto_region 3 with fail
  have R5 := hide (new_row w2 (.cells #[.int .i64 a, .int .i64 b, .int .i64 c, .int .i64 d, .slice ao n0 ca] 44))
  replace P := hide ((unhide P).next (al1_below _ (.cells #[.int .i64 a, .int .i64 b, .int .i64 c, .int .i64 d, .slice ao n0 ca] 44)))
  have D3 := hide ((unhide D2).calls (al1_below _ (.cells #[.int .i64 a, .int .i64 b, .int .i64 c, .int .i64 d, .slice ao n0 ca] 44)))
  have l5 := hide (unhide D2).size
  clear D2
  generalize w2.alloc (.cells #[.int .i64 a, .int .i64 b, .int .i64 c, .int .i64 d, .slice ao n0 ca] 44) = W3 at R5 P D3 ⊢
  generalize w2.heap.size = b5 at R5 l5 ⊢
  have ER := hide (specRunsOf_any a b c d F ao n0 ca (by omega) W3 (unhide P).ints)
  have hll : (runsM a b c d n0 F).length ≤ 3600 := by
    unfold runsM; split
    · have h1 := runsL_len (a := a) (b := b) (c := c) (d := d) F
      rcases unhide ok' with ⟨_, rfl, rfl, rfl, rfl⟩ | ⟨_, h, _⟩
      · have : sqN 0 0 0 0 = 0 := rfl
        omega
      · have := (sqN_le h).1; omega
    · simp
  generalize runsM a b c d n0 F = L at ER hll
  obtain ⟨q0, q1, q2, q3, q4⟩ := row5m (unhide R5)
  go_wp2_with fail
  go_fit (unhide ER)
  rintro r w4 ⟨v, rfl, o4, hb4⟩
  obtain ⟨pp, cq, rfl⟩ := own_form o4
  have X := hide (show LR w1 w4 g W.heap.size a0 len cap b5 W3.heap.size (.slice pp L.length cq) L.length from ⟨(unhide D3).calls hb4, ⟨a, b, c, d, _, row_next hb4 (unhide R5)⟩, let ⟨f, hf⟩ := rsV_ix L; ⟨f, _, o4, hf⟩, unhide l5, heap_lt (unhide R5), hb4.size⟩)
  generalize W3.heap.size = lo at X
  generalize L.length = n at X hll ⊢
  clear q0 q1 q2 q3 q4 o4 hb4 ER R5 D3 P l5 ok'
  go_upto_if 16 with fail
  go_cut [6] (fun s u => ∃ (m : Nat) (p : Option Addr) (c : Nat), m ≤ 3601 ∧ s = .slice p m c ∧ Hid (LR w1 u g W.heap.size a0 len cap b5 lo (.slice p m c) m))
  case first =>
    by_cases h0 : n = 0
    · subst h0
      go_wp2_with fail
      go_meet
      exact ⟨0, pp, cq, by omega, rfl, X⟩
    · have h0i : (0 : Int) < (n : Int) := by omega
      obtain ⟨gg, cg, hv, hg1, hg2⟩ := (let ⟨f, xs, o, _⟩ := (unhide X).own; own_at o (by omega))
      cases hv
      clear hg1 hg2
      go_wp2_with fail
      go_fit (draw_any (unhide X).ds hl n (by omega) (by omega))
      rintro r w5 ⟨k, hk, rfl, d5, g5⟩
      replace X := hide ((unhide X).draw d5 g5)
      clear d5 g5
      have hki : (k : Int) < (n : Int) := by omega
      go_wp2_with fail
      go_fit (draw_any (unhide X).ds hl 10 (by omega) (by omega))
      rintro r w6 ⟨x, hx, rfl, d5, g5⟩
      replace X := hide ((unhide X).draw d5 g5)
      clear d5 g5
      have h5 : x = 0 ∨ x = 1 ∨ x = 2 ∨ x = 3 ∨ (¬ (x : Int) = 0 ∧ ¬ (x : Int) = 1 ∧ ¬ (x : Int) = 2 ∧ ¬ (x : Int) = 3) := by omega
      rcases h5 with rfl | rfl | rfl | rfl | ⟨x0, x1, x2, x3⟩
      · go_wp2_with fail
        go_fit (pick3_any (unhide X).ds hl _ _ _ (by omega) (by omega) (by omega))
        rintro r w7 ⟨z, rfl, d6, g6⟩
        replace X := hide (((unhide X).calls (al1_below _ _)).draw d6 g6)
        clear d6 g6
        obtain ⟨y, c0, c1⟩ := (unhide X).cell (j := k * 4 + 3) (by omega)
        go_wp2_with fail
        go_meet
        exact ⟨n, _, cq, by omega, rfl, (unhide X).store (by omega) _⟩
      · obtain ⟨y, c0, c1⟩ := (unhide X).cell (j := k * 4 + 2) (by omega)
        go_wp2_with fail
        go_meet
        exact ⟨n, _, cq, by omega, rfl, (unhide X).store (by omega) _⟩
      · go_upto_region 12 with fail
        obtain ⟨y, c0, _⟩ := (unhide X).cell (j := k * 4) (by omega)
        have Xa := hide (((unhide X).calls (al1_below _ (.cells #[.int .i64 1, .int .i64 (-1), .int .i64 99] 3))).calls (Below.refl _ _).drew)
        have ca0 := kn (.cells #[.int .i64 1, .int .i64 (-1), .int .i64 99] 3) c0
        go_region_law (first | (refine step_call rfl 72 _ (by go_simp) (pick3_any (u := w6.drew) ((unhide X).calls (Below.refl _ _).drew).ds hl 1 (-1) 99 (by omega) (by omega) (by omega)) ?_; rintro r w7 ⟨z, rfl, d7, g7⟩; refine ⟨_, rfl, ?_⟩; have X7 := hide ((unhide Xa).draw d7 g7); obtain ⟨y', cb0, cb1⟩ := (unhide X7).cell (j := k * 4) (by omega); clear d7 g7))
        all_goals
          go_wp2_with fail
          go_meet
          exact ⟨n, _, cq, by omega, rfl, (unhide X7).store (by omega) _⟩
      · obtain ⟨y0, c0, _⟩ := (unhide X).cell (j := k * 4) (by omega)
        obtain ⟨y1, c1, _⟩ := (unhide X).cell (j := k * 4 + 1) (by omega)
        obtain ⟨y2, c2, _⟩ := (unhide X).cell (j := k * 4 + 2) (by omega)
        obtain ⟨y3, c3, _⟩ := (unhide X).cell (j := k * 4 + 3) (by omega)
        go_wp2_with (at_builtin; go_must (refine wpList_append_rw w6 rfl _ _ 52 rfl lo i1 (.agg #[.int .i64 0, .int .i64 0, .int .i64 0, .int .i64 0]) Try.underlying52 hi1 hz1 hs1 hb1 rfl _ n (by rfl) (unhide X).own y0 y1 y2 y3 1 rfl (by omega) (unhide X).lt.2.2 ?_); intro v8 w8 ho8 hg8)
        obtain ⟨p8, c8, rfl⟩ := ho8.form
        replace X := hide (((unhide X).calls (al1_below _ _)).grown hg8 ho8)
        clear ho8 hg8 c0 c1 c2 c3
        go_wp2_with fail
        go_meet
        exact ⟨n + 1, p8, c8, by omega, rfl, X⟩
      · have e0 : ((x : Int) == 0) = false := beq_eq_false_iff_ne.2 x0
        have e1 : ((x : Int) == 1) = false := beq_eq_false_iff_ne.2 x1
        have e2 : ((x : Int) == 2) = false := beq_eq_false_iff_ne.2 x2
        have e3 : ((x : Int) == 3) = false := beq_eq_false_iff_ne.2 x3
        go_wp2_with fail
        go_meet
        exact ⟨n, _, cq, by omega, rfl, X⟩
  case rest =>
  clear X
  obtain ⟨m, p, c', hm, rfl, X⟩ := hcut
  go_wp2_with fail
  go_fit (once_any (unhide X).ds hl 16 (by omega) (by omega))
  rintro r w5 ⟨o1, rfl, d5, g5⟩
  replace X := hide ((unhide X).draw d5 g5)
  clear d5 g5
  go_upto_if 69 with fail
  go_cut [71] (fun s u => Hid (LR w1 u g W.heap.size a0 len cap b5 lo (.slice p m c') m))
  case first =>
    cases o1 with
    | false =>
      go_wp2_with fail
      go_meet
      exact X
    | true =>
      go_wp2_with fail
      go_fit (l05Box_any g _ a0 len cap _ hl (unhide X).ds.again)
      rintro r w7 ⟨⟨z0, z1, z2, z3, rfl⟩, d7⟩
      replace X := hide ((unhide X).draw ((unhide X).ds.next d7.cur d7.gb) d7.gb)
      clear d7
      obtain ⟨t0, t1, t2, t3, s, hr⟩ := (unhide X).row
      obtain ⟨r0, r1, r2, r3, r4⟩ := row5m hr
      obtain ⟨f0, f1, f2, f3, f4⟩ := frozen5 hr
      replace hr := hide hr
      go_wp2_with fail
      go_meet
      exact (unhide X).box (unhide hr)
  case rest =>
  clear X
  have X := hcut
  obtain ⟨z0, z1, z2, z3, s, hr⟩ := (unhide X).row
  obtain ⟨r0, r1, r2, r3, r4⟩ := row5m hr
  have BB := hide ((unhide X).ds.below (unhide B1) (unhide B1).size)
  have R3 := hide (((unhide BB).block _ (heap_lt (unhide R2))).trans (unhide R2))
  obtain ⟨e0, e1, e2, e3⟩ := row4 (unhide R3)
  obtain ⟨f0, f1, f2, f3⟩ := free4 (unhide R3)
  go_wp2_with fail
  refine bodyPost_ret (v := .tuple #[.agg #[.int .i64 z0, .int .i64 z1, .int .i64 z2, .int .i64 z3], .slice p m c']) (by simp [results, Try.results27, go_sem, e0, e1, e2, e3]) rfl ?_
  have hne : ∀ k, (Value.slice p m c').ownBlock = some k → k ≠ w.heap.size := fun k hk => by
    obtain ⟨f, xs, o, x⟩ := (unhide X).own
    have h1 := (o.lt k hk).1
    have h2 := (unhide X).lt
    have h3 := (unhide B1).size
    have h4 := heap_lt (unhide R2)
    omega
  obtain ⟨f, xs, o, x⟩ := (unhide X).own
  obtain ⟨G, hG⟩ := RunsW.at (u := (((wc.setCell ⟨w.heap.size, 0, none⟩ (.int .i64 z0)).setCell ⟨w.heap.size, 1, none⟩ (.int .i64 z1)).setCell ⟨w.heap.size, 2, none⟩ (.int .i64 z2)).setCell ⟨w.heap.size, 3, none⟩ (.int .i64 z3)) (lo := lo) (a := p) (n := m) (c := c') ⟨f, xs, own_setc_ne (own_setc_ne (own_setc_ne (own_setc_ne o hne) hne) hne) hne, x⟩
  exact ⟨z0, z1, z2, z3, p, m, c', G, rfl, by omega, hG, below_put4 (below_two (unhide HB) (unhide BB)) (Nat.le_refl _) _ _ _ _⟩
end Go.Proofs.Ytmomgbnhildpdab

/-
  The walks of the program's chapter 5: boxes.
-/
namespace Go.Proofs.Ytmomgbnhildpdab
open Go.RowKit

set_option maxHeartbeats 1000000 in
theorem implEmpty_any (a b c d : Int) (w : World) :
    Calls Try.prog 80 #[.agg #[.int .i64 a, .int .i64 b, .int .i64 c, .int .i64 d]] w fun r w' => r = .returned (.bool (emptyB a b c d)) ∧ Below w.heap.size w w' := by
  by_cases h1 : c ≤ a
  · have H : Hid (true = emptyB a b c d) := by unfold Hid emptyB; simp [h1]
    have d1 : decide (c ≤ a) = true := decide_eq_true h1
    go_enter Try.func80, Try.ntmps80
    go_wp2
    go_ret
    exact ⟨ret_bool' (unhide H), al1_below _ _⟩
  · have d1 : decide (c ≤ a) = false := decide_eq_false h1
    by_cases h2 : d ≤ b
    · have H : Hid (true = emptyB a b c d) := by unfold Hid emptyB; simp [h2]
      have d2 : decide (d ≤ b) = true := decide_eq_true h2
      go_enter Try.func80, Try.ntmps80
      go_wp2
      go_ret
      exact ⟨ret_bool' (unhide H), al1_below _ _⟩
    · have H : Hid (false = emptyB a b c d) := by unfold Hid emptyB; simp [h1, h2]
      have d2 : decide (d ≤ b) = false := decide_eq_false h2
      go_enter Try.func80, Try.ntmps80
      go_wp2
      go_ret
      exact ⟨ret_bool' (unhide H), al1_below _ _⟩

set_option maxHeartbeats 2000000 in
theorem implInBox_any (a b c d x y : Int) (w : World) :
    Calls Try.prog 103 #[.agg #[.int .i64 a, .int .i64 b, .int .i64 c, .int .i64 d], .agg #[.int .i64 x, .int .i64 y]] w fun r w' => r = .returned (.bool (inBoxB a b c d x y)) ∧ Below w.heap.size w w' := by
  by_cases n1 : a ≤ x
  · have d0 : decide (a ≤ x) = true := decide_eq_true n1
    by_cases n2 : x < c
    · have d1 : decide (x < c) = true := decide_eq_true n2
      by_cases n3 : b ≤ y
      · have d2 : decide (b ≤ y) = true := decide_eq_true n3
        by_cases n4 : y < d
        · have d3 : decide (y < d) = true := decide_eq_true n4
          have H : Hid (true = inBoxB a b c d x y) := by unfold Hid inBoxB; simp [n1, n2, n3, n4]
          go_enter Try.func103, Try.ntmps103
          go_wp2
          go_ret
          exact ⟨ret_bool' (unhide H), al2_below _ _ _⟩
        · have d3 : decide (y < d) = false := decide_eq_false n4
          have H : Hid (false = inBoxB a b c d x y) := by unfold Hid inBoxB; simp [n1, n2, n3, n4]
          go_enter Try.func103, Try.ntmps103
          go_wp2
          go_ret
          exact ⟨ret_bool' (unhide H), al2_below _ _ _⟩
      · have d2 : decide (b ≤ y) = false := decide_eq_false n3
        have H : Hid (false = inBoxB a b c d x y) := by unfold Hid inBoxB; simp [n1, n2, n3]
        go_enter Try.func103, Try.ntmps103
        go_wp2
        go_ret
        exact ⟨ret_bool' (unhide H), al2_below _ _ _⟩
    · have d1 : decide (x < c) = false := decide_eq_false n2
      have H : Hid (false = inBoxB a b c d x y) := by unfold Hid inBoxB; simp [n1, n2]
      go_enter Try.func103, Try.ntmps103
      go_wp2
      go_ret
      exact ⟨ret_bool' (unhide H), al2_below _ _ _⟩
  · have d0 : decide (a ≤ x) = false := decide_eq_false n1
    have H : Hid (false = inBoxB a b c d x y) := by unfold Hid inBoxB; simp [n1]
    go_enter Try.func103, Try.ntmps103
    go_wp2
    go_ret
    exact ⟨ret_bool' (unhide H), al2_below _ _ _⟩

set_option maxHeartbeats 1000000 in
set_option maxRecDepth 100000 in
theorem implBoxWithin_any (a b c d L : Int) (hL : 0 ≤ L ∧ L ≤ 41943040) (w : World) :
    Calls Try.prog 107 #[.agg #[.int .i64 a, .int .i64 b, .int .i64 c, .int .i64 d], .int .i64 L] w fun r w' => r = .returned (.agg #[.int .i64 (clampI a (-L) L), .int .i64 (clampI b (-L) L), .int .i64 (clampI c (-L) L), .int .i64 (clampI d (-L) L)]) ∧ Below w.heap.size w w' := by
  have K := hide (fun x => implClamp_any x (-L) L)
  have e0 : IntKind.i64.wrap (-L) = -L := IntWalk.i64_in _ (by omega)
  generalize clampI = cl at K ⊢
  clear hL
  go_enter Try.func107, Try.ntmps107
  go_wp2_with fail
  obtain ⟨W, hW⟩ : ∃ W, W = (w.alloc (.cells #[.int .i64 a, .int .i64 b, .int .i64 c, .int .i64 d] 42)).alloc (.cells #[.int .i64 0, .int .i64 0, .int .i64 0, .int .i64 0] 42) := ⟨_, rfl⟩
  obtain ⟨a0, a1, a2, a3⟩ := row4 (w1 := W) (b := w.heap.size) (by rw [hW]; exact al2_0 _ _ _)
  have R : W.heap[w.heap.size + 1]? = some (.cells #[.int .i64 0, .int .i64 0, .int .i64 0, .int .i64 0] 42 (0, 0)) := by rw [hW]; exact al2_1 _ _ _
  obtain ⟨r0, r1, r2, r3⟩ := row4 R
  obtain ⟨f0, f1, f2, f3⟩ := free4 R
  have HB := hide (show Below w.heap.size w W by rw [hW]; exact al2_below _ _ _)
  rw [← hW]
  clear hW R
  have ne1 : ¬ w.heap.size + 1 = w.heap.size := by omega
  have ne2 : ¬ w.heap.size = w.heap.size + 1 := by omega
  go_region_held3 (fun u => u.cell? ⟨w.heap.size, 0, none⟩ = some (.int .i64 a) ∧ u.cell? ⟨w.heap.size, 1, none⟩ = some (.int .i64 b) ∧ u.cell? ⟨w.heap.size, 2, none⟩ = some (.int .i64 c) ∧ u.cell? ⟨w.heap.size, 3, none⟩ = some (.int .i64 d)) (go_keep) (first | (go_at_call 128; go_fit (unhide K _ _); rintro r w4 ⟨rfl, rfl⟩))
  all_goals
    go_wp2_with fail
    refine bodyPost_ret (v := .agg #[.int .i64 (cl a (-L) L), .int .i64 (cl b (-L) L), .int .i64 (cl c (-L) L), .int .i64 (cl d (-L) L)]) (by simp [results, Try.results107, go_sem, r0, r1, r2, r3]) rfl ⟨rfl, ?_⟩
    exact below_put4 (below_drews (unhide HB) 1) (by omega) _ _ _ _

end Go.Proofs.Ytmomgbnhildpdab

/-
  The program's masks: boxes that they may have, right ones, rows, the bits of a square.
-/
namespace Go.Proofs.Ytmomgbnhildpdab
open Go.RowKit
set_option linter.unusedVariables false

theorem eqlBox (a b c d e f g h : Int) (w : World) : (Op.equalIn 10000 42 (.agg #[.int .i64 a, .int .i64 b, .int .i64 c, .int .i64 d]) (.agg #[.int .i64 e, .int .i64 f, .int .i64 g, .int .i64 h])).run Try.prog w = .ok (decide (a = e) && (decide (b = f) && (decide (c = g) && decide (d = h)))) w := by
  have u3 := Try.underlying3
  have a3 := Try.isAgg3
  have z3 := Try.sizeOf3
  have hS : Try.prog.underlying 42 = some (.struct (Try.prog.fieldsOf 42)) := by kernel_rfl
  rw [show (10000 : Nat) = 9999 + 1 from rfl, run_equalIn_agg w 9999 42 _ _ hS (by kernel_rfl)]
  simp only [Program.fieldsOf, Try.underlying42]
  go_simp
  by_cases h1 : a = e
  · by_cases h2 : b = f
    · by_cases h3 : c = g
      · by_cases h4 : d = h <;> simp [h1, h2, h3, h4]
      · simp [h1, h2, h3]
    · simp [h1, h2]
  · simp [h1]

/-- What the program asks of a box, one behind the other. -/
theorem boxIn_ways (a b c d : Int) : boxInB a b c d = (decide (clampI a (-2000) 2000 = a) && (decide (clampI b (-2000) 2000 = b) && (decide (clampI c (-2000) 2000 = c) && decide (clampI d (-2000) 2000 = d))) && (!emptyB a b c d && (decide (c - a ≤ 60) && decide (d - b ≤ 60)))) := by
  have e : ∀ x : Int, clampI x (-2000) 2000 = x ↔ -2000 ≤ x ∧ x ≤ 2000 := fun x => by unfold clampI; split <;> (try split) <;> omega
  rw [Bool.eq_iff_iff, boxIn_iff]
  simp only [Bool.and_eq_true, decide_eq_true_eq, Bool.not_eq_true', e, emptyB, Bool.or_eq_false_iff, decide_eq_false_iff_not]
  omega

set_option maxHeartbeats 4000000 in
set_option maxRecDepth 100000 in
theorem implMaskBoxOk_any (a b c d : Int) (w : World) :
    Calls Try.prog 65 #[.agg #[.int .i64 a, .int .i64 b, .int .i64 c, .int .i64 d]] w fun r w' => r = .returned (.bool (boxInB a b c d)) ∧ Below w.heap.size w w' := by
  have HW := hide (implBoxWithin_any a b c d 2000 (by omega))
  have HE := hide (implEmpty_any a b c d)
  have H := hide (boxIn_ways a b c d)
  have hw : Hid (clampI a (-2000) 2000 = a → clampI b (-2000) 2000 = b → clampI c (-2000) 2000 = c → clampI d (-2000) 2000 = d → IntKind.i64.wrap (c - a) = c - a ∧ IntKind.i64.wrap (d - b) = d - b) := fun h1 h2 h3 h4 => by
    have e : ∀ x : Int, clampI x (-2000) 2000 = x → -2000 ≤ x ∧ x ≤ 2000 := fun x => by unfold clampI; split <;> (try split) <;> omega
    have := e _ h1; have := e _ h2; have := e _ h3; have := e _ h4
    exact ⟨IntWalk.i64_in _ (by omega), IntWalk.i64_in _ (by omega)⟩
  generalize clampI a (-2000) 2000 = o0 at HW H hw
  generalize clampI b (-2000) 2000 = o1 at HW H hw
  generalize clampI c (-2000) 2000 = o2 at HW H hw
  generalize clampI d (-2000) 2000 = o3 at HW H hw
  generalize emptyB a b c d = E at HE H
  generalize boxInB a b c d = X at H ⊢
  go_enter Try.func65, Try.ntmps65
  go_upto_region 1 with fail
  have R := hide (new_row w (.cells #[.int .i64 a, .int .i64 b, .int .i64 c, .int .i64 d] 42))
  have HB := hide (al1_below w (.cells #[.int .i64 a, .int .i64 b, .int .i64 c, .int .i64 d] 42))
  obtain ⟨b1, hb1⟩ : ∃ b, Hid (b = w.heap.size) := ⟨_, rfl⟩
  rw [← unhide hb1] at R
  rw [← unhide hb1]
  generalize w.alloc (.cells #[.int .i64 a, .int .i64 b, .int .i64 c, .int .i64 d] 42) = W at R HB ⊢
  obtain ⟨I, F, hI, F1, F2⟩ := kept_worlds W
  have q0 : ∀ i, (F i).cell? ⟨b1, 0, none⟩ = some (.int .i64 a) := fun i => (row4 (row_next (F2 i) (unhide R))).1
  have q1 : ∀ i, (F i).cell? ⟨b1, 1, none⟩ = some (.int .i64 b) := fun i => (row4 (row_next (F2 i) (unhide R))).2.1
  have q2 : ∀ i, (F i).cell? ⟨b1, 2, none⟩ = some (.int .i64 c) := fun i => (row4 (row_next (F2 i) (unhide R))).2.2.1
  have q3 : ∀ i, (F i).cell? ⟨b1, 3, none⟩ = some (.int .i64 d) := fun i => (row4 (row_next (F2 i) (unhide R))).2.2.2
  replace F1 := hide F1
  replace F2 := hide F2
  by_cases hq : o0 = a ∧ o1 = b ∧ o2 = c ∧ o3 = d
  · obtain ⟨rfl, rfl, rfl, rfl⟩ := hq
    obtain ⟨w1, w2⟩ := unhide hw rfl rfl rfl rfl
    have eq1 : ∀ u, (Op.equalIn 10000 42 (.agg #[.int .i64 o0, .int .i64 o1, .int .i64 o2, .int .i64 o3]) (.agg #[.int .i64 o0, .int .i64 o1, .int .i64 o2, .int .i64 o3])).run Try.prog u = .ok true u := fun u => by rw [eqlBox]; simp
    rw [decide_eq_true rfl, decide_eq_true rfl, decide_eq_true rfl, decide_eq_true rfl] at H
    clear hw
    cases E with
    | true =>
      replace H : Hid (false = X) := (unhide H).symm
      refine wp_region_quiet_in (unhide F1) (by kernel_rfl) (by kernel_rfl) ?_
      repeat (go_big_quiet_step (first | with_reducible exact quiet_in (unhide F1) (unhide F2) (unhide HW _) | with_reducible exact quiet_in (unhide F1) (unhide F2) (unhide HE _)))
      refine wpQuiet_nil ?_
      rintro _ ⟨i, rfl⟩
      have hF := unhide F2 i
      go_wp2_with fail
      go_ret
      exact ⟨ret_bool (unhide H), below_two (unhide HB) hF⟩
    | false =>
      by_cases h1 : o2 - o0 ≤ 60
      · have d1 : decide (o2 - o0 ≤ 60) = true := decide_eq_true h1
        have hX : Hid (decide (o3 - o1 ≤ 60) = X) := by have := unhide H; rw [d1] at this; exact this.symm
        refine wp_region_quiet_in (unhide F1) (by kernel_rfl) (by kernel_rfl) ?_
        repeat (go_big_quiet_step (first | with_reducible exact quiet_in (unhide F1) (unhide F2) (unhide HW _) | with_reducible exact quiet_in (unhide F1) (unhide F2) (unhide HE _)))
        refine wpQuiet_nil ?_
        rintro _ ⟨i, rfl⟩
        have hF := unhide F2 i
        go_wp2_with fail
        go_ret
        exact ⟨ret_bool (unhide hX), below_two (unhide HB) hF⟩
      · have d1 : decide (o2 - o0 ≤ 60) = false := decide_eq_false h1
        have hX : Hid (false = X) := by have := unhide H; rw [d1] at this; exact this.symm
        refine wp_region_quiet_in (unhide F1) (by kernel_rfl) (by kernel_rfl) ?_
        repeat (go_big_quiet_step (first | with_reducible exact quiet_in (unhide F1) (unhide F2) (unhide HW _) | with_reducible exact quiet_in (unhide F1) (unhide F2) (unhide HE _)))
        refine wpQuiet_nil ?_
        rintro _ ⟨i, rfl⟩
        have hF := unhide F2 i
        go_wp2_with fail
        go_ret
        exact ⟨ret_bool (unhide hX), below_two (unhide HB) hF⟩
  · have hf : (decide (o0 = a) && (decide (o1 = b) && (decide (o2 = c) && decide (o3 = d)))) = false := by
      rw [Bool.eq_false_iff]; intro h; simp only [Bool.and_eq_true, decide_eq_true_eq] at h; exact hq h
    have hX : Hid (false = X) := by have := unhide H; rw [hf] at this; exact this.symm
    have eq1 : ∀ u, (Op.equalIn 10000 42 (.agg #[.int .i64 o0, .int .i64 o1, .int .i64 o2, .int .i64 o3]) (.agg #[.int .i64 a, .int .i64 b, .int .i64 c, .int .i64 d])).run Try.prog u = .ok false u := fun u => by rw [eqlBox, hf]
    clear hw hf hq
    refine wp_region_quiet_in (unhide F1) (by kernel_rfl) (by kernel_rfl) ?_
    repeat (go_big_quiet_step (first | with_reducible exact quiet_in (unhide F1) (unhide F2) (unhide HW _) | with_reducible exact quiet_in (unhide F1) (unhide F2) (unhide HE _)))
    refine wpQuiet_nil ?_
    rintro _ ⟨i, rfl⟩
    have hF := unhide F2 i
    go_wp2_with fail
    go_ret
    exact ⟨ret_bool (unhide hX), below_two (unhide HB) hF⟩

set_option maxHeartbeats 1000000 in
theorem implSquaresIn_any (a b c d : Int) (N : Nat) (h1 : IntKind.i64.wrap (c - a) = c - a) (h2 : IntKind.i64.wrap (d - b) = d - b) (h3 : (N : Int) = (c - a) * (d - b)) (hN : N ≤ 3600) (w : World) :
    Calls Try.prog 78 #[.agg #[.int .i64 a, .int .i64 b, .int .i64 c, .int .i64 d]] w fun r w' => r = .returned (.int .i64 N) ∧ Below w.heap.size w w' := by
  have v3 : IntKind.i64.wrap ((c - a) * (d - b)) = (N : Int) := by rw [← h3]; exact IntWalk.i64_in _ (by omega)
  clear h3
  go_enter Try.func78, Try.ntmps78
  go_wp2_with fail
  go_ret
  exact ⟨rfl, al1_below _ _⟩

theorem mok_nobox {a b c d : Int} {n : Nat} {f : Nat → Int} (hb : boxInB a b c d = false) : MOk a b c d n f ↔ (a = 0 ∧ b = 0 ∧ c = 0 ∧ d = 0) ∧ n = 0 :=
  ⟨fun h => (by rcases h with ⟨h0, h⟩ | ⟨_, h, _⟩; exact ⟨h, h0⟩; rw [hb] at h; cases h), fun h => .inl ⟨h.2, h.1⟩⟩
theorem mok_box {a b c d : Int} {n : Nat} {f : Nat → Int} (hb : boxInB a b c d = true) : MOk a b c d n f ↔ n = sqN a b c d ∧ ∀ i, i < n → inB (f i) 0 15 = true := by
  have h0 := (sqN_le hb).2
  refine ⟨fun h => ?_, fun h => .inr ⟨by omega, hb, h⟩⟩
  rcases h with ⟨_, rfl, rfl, rfl, rfl⟩ | ⟨_, _, h⟩
  · exact absurd hb (by decide)
  · exact h

attribute [local go_sem ↓] eqZero_yes eqZero_no in
set_option maxHeartbeats 4000000 in
set_option maxRecDepth 100000 in
theorem implMaskOk_any (a b c d : Int) (f : Nat → Int) (ao : Option Addr) (n cp : Nat) (hn : n ≤ 1048576) (w : World) (P : ∀ i, i < n → IntAt w ao i (f i)) :
    Calls Try.prog 30 #[.agg #[.int .i64 a, .int .i64 b, .int .i64 c, .int .i64 d, .slice ao n cp]] w fun r w' => r = .returned (.bool (maskOkB a b c d n f)) ∧ Below w.heap.size w w' := by
  have EB := hide (implMaskBoxOk_any a b c d)
  replace P := hide P
  have hyes : Hid (MOk a b c d n f → maskOkB a b c d n f = true) := fun h => maskOk_iff.2 h
  have hno : Hid (¬ MOk a b c d n f → maskOkB a b c d n f = false) := fun h => maskOk_no h
  have hmo0 : Hid (boxInB a b c d = false → (MOk a b c d n f ↔ (a = 0 ∧ b = 0 ∧ c = 0 ∧ d = 0) ∧ n = 0)) := fun h => mok_nobox h
  have hmo1 : Hid (boxInB a b c d = true → (MOk a b c d n f ↔ n = sqN a b c d ∧ ∀ i, i < n → inB (f i) 0 15 = true)) := fun h => mok_box h
  have hsq : Hid (boxInB a b c d = true → ((sqN a b c d : Nat) : Int) = (c - a) * (d - b) ∧ IntKind.i64.wrap (c - a) = c - a ∧ IntKind.i64.wrap (d - b) = d - b ∧ sqN a b c d ≤ 3600) := fun h => by
    have e := sqN_int h
    have e2 := (sqN_le h).1
    obtain ⟨_, _, _, _, _, _, _, _⟩ := boxIn_iff.1 h
    exact ⟨e, IntWalk.i64_in _ (by omega), IntWalk.i64_in _ (by omega), e2⟩
  generalize maskOkB a b c d n f = X at hyes hno ⊢
  generalize MOk a b c d n f = M at hyes hno hmo0 hmo1
  generalize sqN a b c d = sq at hmo1 hsq
  generalize boxInB a b c d = bi at EB hmo0 hmo1 hsq
  go_enter Try.func30, Try.ntmps30
  go_upto_region 1 with fail
  have R := hide (new_row w (.cells #[.int .i64 a, .int .i64 b, .int .i64 c, .int .i64 d, .slice ao n cp] 44))
  have HB := hide (al1_below w (.cells #[.int .i64 a, .int .i64 b, .int .i64 c, .int .i64 d, .slice ao n cp] 44))
  obtain ⟨b1, hb1⟩ : ∃ b, Hid (b = w.heap.size) := ⟨_, rfl⟩
  rw [← unhide hb1] at R
  rw [← unhide hb1]
  generalize w.alloc (.cells #[.int .i64 a, .int .i64 b, .int .i64 c, .int .i64 d, .slice ao n cp] 44) = W at R HB ⊢
  obtain ⟨r0, r1, r2, r3, r4⟩ := row5m (unhide R)
  go_wp2_with fail
  go_fit (unhide EB _)
  rintro r u1 ⟨rfl, hb⟩
  replace R := hide (row_next hb (unhide R))
  replace HB := hide (below_two (unhide HB) hb)
  clear hb r0 r1 r2 r3 r4
  obtain ⟨r0, r1, r2, r3, r4⟩ := row5m (unhide R)
  cases bi with
  | false =>
    have hM := hide (unhide hmo0 rfl)
    clear hmo0 hmo1 hsq
    by_cases hz : a = 0 ∧ b = 0 ∧ c = 0 ∧ d = 0
    · obtain ⟨rfl, rfl, rfl, rfl⟩ := hz
      by_cases h0 : n = 0
      · subst h0
        have hX := hide (unhide hyes ((unhide hM).2 ⟨⟨rfl, rfl, rfl, rfl⟩, rfl⟩))
        go_wp2_with fail
        go_ret
        exact ⟨ret_bool (unhide hX).symm, unhide HB⟩
      · have hX := hide (unhide hno (fun h => h0 ((unhide hM).1 h).2))
        have h0i : ((n : Int) == 0) = false := beq_eq_false_iff_ne.2 (by omega)
        go_wp2_with fail
        go_ret
        exact ⟨ret_bool (unhide hX).symm, unhide HB⟩
    · have hX := hide (unhide hno (fun h => hz ((unhide hM).1 h).1))
      go_wp2_with fail
      go_ret
      exact ⟨ret_bool (unhide hX).symm, unhide HB⟩
  | true =>
    have hM := hide (unhide hmo1 rfl)
    obtain ⟨s1, s2, s3, s4⟩ := unhide hsq rfl
    have ES := hide (implSquaresIn_any a b c d sq s2 s3 s1 s4)
    clear hmo0 hmo1 hsq s1 s2 s3 s4
    have hqb : Hid (((n : Int) == (sq : Int)) = decide (n = sq)) := by
      unfold Hid; rw [Bool.eq_iff_iff, beq_iff_eq, decide_eq_true_eq]; omega
    go_upto_region 3 with fail
    clear r0 r1 r2 r3 r4
    go_cut [25] (fun s u => s = .bool (!decide (n = sq)) ∧ Below u1.heap.size u1 u)
    case first =>
      obtain ⟨I, F, hI, F1, F2⟩ := kept_worlds u1
      have q0 : ∀ i, (F i).cell? ⟨b1, 0, none⟩ = some (.int .i64 a) := fun i => (row5m (row_next (F2 i) (unhide R))).1
      have q1 : ∀ i, (F i).cell? ⟨b1, 1, none⟩ = some (.int .i64 b) := fun i => (row5m (row_next (F2 i) (unhide R))).2.1
      have q2 : ∀ i, (F i).cell? ⟨b1, 2, none⟩ = some (.int .i64 c) := fun i => (row5m (row_next (F2 i) (unhide R))).2.2.1
      have q3 : ∀ i, (F i).cell? ⟨b1, 3, none⟩ = some (.int .i64 d) := fun i => (row5m (row_next (F2 i) (unhide R))).2.2.2.1
      have q4 : ∀ i, (F i).cell? ⟨b1, 4, none⟩ = some (.slice ao n cp) := fun i => (row5m (row_next (F2 i) (unhide R))).2.2.2.2
      replace F1 := hide F1
      replace F2 := hide F2
      refine wp_region_quiet_in (unhide F1) (by kernel_rfl) (by kernel_rfl) ?_
      repeat (go_big_quiet_step (first | with_reducible exact quiet_in (unhide F1) (unhide F2) (unhide ES _)))
      refine wpQuiet_nil ?_
      rintro _ ⟨i, rfl⟩
      have hF := unhide F2 i
      clear q0 q1 q2 q3 q4
      go_wp2_with fail
      go_meet
      refine ⟨?_, hF⟩
      rw [← unhide hqb]; rfl
    case rest =>
      obtain ⟨rfl, hb⟩ := hcut
      replace R := hide (row_next hb (unhide R))
      replace HB := hide (below_two (unhide HB) hb)
      clear hb hqb ES
      by_cases hq : n = sq
      · have hq1 := hide hq
        rw [decide_eq_true hq]
        clear hq
        obtain ⟨r0, r1, r2, r3, r4⟩ := row5m (unhide R)
        go_upto_region 6 with fail
        clear r0 r1 r2 r3 r4
        go_loopw [29] (fun i u => ∃ k : Nat, k ≤ n ∧ i = .int .i64 k ∧ Hid (∀ j, j < k → inB (f j) 0 15 = true) ∧ Hid (Below w.heap.size w u)) (fun i _ => n - (intOf i).toNat)
        case atStart => exact ⟨0, Nat.zero_le _, rfl, fun j hj => absurd hj (by omega), HB⟩
        case round =>
          clear HB R
          obtain ⟨k, hk, rfl, HK, HB⟩ := hrel
          by_cases hlt : k < n
          · obtain ⟨s0, o0, rfl, g0⟩ := (unhide P k hlt).next (unhide HB)
            obtain ⟨z, hz⟩ : ∃ z, Hid (f k = z) := ⟨_, rfl⟩
            rw [unhide hz] at g0
            have hki : (k : Int) < (n : Int) := by omega
            by_cases hz0 : z < 0
            · have hX := hide (unhide hno (fun h => by have := ((unhide hM).1 h).2 k hlt; rw [unhide hz, inB_true] at this; omega))
              go_wp2_with fail
              go_ret
              exact ⟨ret_bool (unhide hX).symm, unhide HB⟩
            · by_cases hz1 : 15 < z
              · have hX := hide (unhide hno (fun h => by have := ((unhide hM).1 h).2 k hlt; rw [unhide hz, inB_true] at this; omega))
                go_wp2_with fail
                go_ret
                exact ⟨ret_bool (unhide hX).symm, unhide HB⟩
              · have HK2 : Hid (∀ j, j < k + 1 → inB (f j) 0 15 = true) := bits_more (unhide HK) (by rw [unhide hz, inB_true]; omega)
                go_wp2_with fail
                go_roundw
                case rel => exact ⟨k + 1, by omega, by go_num, HK2, HB⟩
                case measure => simp [intOf]; omega
          · have hke : k = n := by omega
            subst hke
            have hki : ¬ (k : Int) < (k : Int) := by omega
            have hX := hide (unhide hyes ((unhide hM).2 ⟨unhide hq1, unhide HK⟩))
            go_wp2_with fail
            go_ret
            exact ⟨ret_bool (unhide hX).symm, unhide HB⟩
      · have hX := hide (unhide hno (fun h => hq ((unhide hM).1 h).1))
        rw [decide_eq_false hq]
        go_wp2_with fail
        go_ret
        exact ⟨ret_bool (unhide hX).symm, unhide HB⟩
end Go.Proofs.Ytmomgbnhildpdab

/-
  The program's rows of a mask, the bits of a square, a blank mask.
-/
namespace Go.Proofs.Ytmomgbnhildpdab
open Go.RowKit
set_option linter.unusedVariables false

/-- Where a stretch of a row lies among the bits. -/
theorem stretch {a b c d y x0 x1 : Int} (hb : boxInB a b c d = true) (hy : b ≤ y ∧ y < d) (hx : a ≤ x0 ∧ x0 < x1 ∧ x1 ≤ c) :
    0 ≤ placeI a b c x0 y ∧ placeI a b c x1 y = placeI a b c x0 y + (x1 - x0) ∧ placeI a b c x0 y + (x1 - x0) ≤ ((sqN a b c d : Nat) : Int) := by
  have hin : ∀ x, a ≤ x → x < c → inBoxB a b c d x y = true := fun x h1 h2 => by
    unfold inBoxB
    rw [decide_eq_true (by omega), decide_eq_true (by omega), decide_eq_true (by omega), decide_eq_true (by omega)]; rfl
  have q1 := place_bd hb (hin x0 (by omega) (by omega))
  have q2 := place_bd hb (hin (x1 - 1) (by omega) (by omega))
  have e : ∀ x, placeI a b c x y = placeI a b c x0 y + (x - x0) := fun x => by unfold placeI; omega
  have e2 := e (x1 - 1)
  exact ⟨q1.1, e x1, by omega⟩

set_option maxHeartbeats 4000000 in
set_option maxRecDepth 100000 in
theorem implRowOf_any (a b c d y x0 x1 : Int) (s o n cp : Nat) (hb : boxInB a b c d = true) (hy : b ≤ y ∧ y < d) (hx : a ≤ x0 ∧ x0 < x1 ∧ x1 ≤ c) (hn : sqN a b c d = n) (hc : n ≤ cp) (w : World) :
    Calls Try.prog 81 #[.agg #[.int .i64 a, .int .i64 b, .int .i64 c, .int .i64 d, .slice (some ⟨s, o, none⟩) n cp], .int .i64 y, .int .i64 x0, .int .i64 x1] w fun r w' => r = .returned (.slice (some ⟨s, o + (placeI a b c x0 y).toNat, none⟩) (x1 - x0).toNat (x1 - x0).toNat) ∧ Below w.heap.size w w' := by
  obtain ⟨p1, p2, p3⟩ := stretch hb hy hx
  rw [hn] at p3
  obtain ⟨z1, z2, z3, z4, z5, z6, z7, z8⟩ := boxIn_iff.1 hb
  have hn3 : n ≤ 3600 := by rw [← hn]; exact (sqN_le hb).1
  obtain ⟨M, hM⟩ : ∃ M, M = (y - b) * (c - a) := ⟨_, rfl⟩
  have e1 : placeI a b c x0 y = M + x0 - a := by unfold placeI; rw [hM]
  have e2 : placeI a b c x1 y = M + x1 - a := by unfold placeI; rw [hM]
  obtain ⟨p, hp⟩ : ∃ p : Nat, placeI a b c x0 y = (p : Int) := ⟨(placeI a b c x0 y).toNat, by omega⟩
  obtain ⟨l, hl⟩ : ∃ l : Nat, (x1 - x0) = (l : Int) := ⟨(x1 - x0).toNat, by omega⟩
  have hl2 : (x1 - x0).toNat = l := by omega
  have hp2 : (placeI a b c x0 y).toNat = p := by omega
  have hl0 : 0 < l := by omega
  have hpl : p + l ≤ n := by omega
  rw [hl2, hp2]
  have v1 : IntKind.i64.wrap (y - b) = y - b := IntWalk.i64_in _ (by omega)
  have v2 : IntKind.i64.wrap (c - a) = c - a := IntWalk.i64_in _ (by omega)
  have v3 : IntKind.i64.wrap ((y - b) * (c - a)) = M := by rw [← hM]; exact IntWalk.i64_in _ (by omega)
  have v4 : IntKind.i64.wrap (M + x0) = M + x0 := IntWalk.i64_in _ (by omega)
  have v5 : IntKind.i64.wrap (M + x1) = M + x1 := IntWalk.i64_in _ (by omega)
  have v6 : IntKind.i64.wrap (M + x0 - a) = (p : Int) := by rw [← e1, hp]; exact IntWalk.i64_in _ (by omega)
  obtain ⟨q, hq⟩ : ∃ q : Nat, q = p + l := ⟨_, rfl⟩
  have v7 : IntKind.i64.wrap (M + x1 - a) = (q : Int) := by rw [← e2, p2, hp, hl, ← Int.natCast_add, ← hq]; exact IntWalk.i64_in _ (by omega)
  have k1 : q ≤ cp := by omega
  have k2 : p ≤ q := by omega
  have k3 : Hid (q - p = l) := by unfold Hid; omega
  have k4 : 0 < q - p := by omega
  clear hq hpl hl0 hM hb hy hx hn hp hl hl2 hp2 p1 p2 p3 e1 e2 z1 z2 z3 z4 z5 z6 z7 z8
  go_enter Try.func81, Try.ntmps81
  go_wp2_with fail
  go_quiet (fail)
  go_wp2_with fail
  go_ret
  exact ⟨by rw [unhide k3]; rfl, below_drews (al1_below _ _) _⟩

set_option maxHeartbeats 4000000 in
set_option maxRecDepth 100000 in
theorem implBitsIn_any (a b c d : Int) (f : Nat → Int) (ao : Option Addr) (n cp : Nat) (hn : n ≤ 1048576) (hc : n ≤ cp) (x y : Int) (hM : maskOkB a b c d n f = true) (w : World) (P : ∀ i, i < n → IntAt w ao i (f i)) :
    Calls Try.prog 59 #[.agg #[.int .i64 a, .int .i64 b, .int .i64 c, .int .i64 d, .slice ao n cp], .int .i64 x, .int .i64 y] w fun r w' => r = .returned (.int .i64 (atI a b c d f x y)) ∧ Below w.heap.size w w' := by
  have EI := hide (implInBox_any a b c d x y)
  have hA : Hid (atI a b c d f x y = if inBoxB a b c d x y = true then f (placeI a b c x y).toNat else 0) := rfl
  have hin : Hid (inBoxB a b c d x y = true → boxInB a b c d = true ∧ sqN a b c d = n ∧ 0 ≤ placeI a b c x y ∧ placeI a b c x y < (n : Int) ∧ (a ≤ x ∧ x < c ∧ b ≤ y ∧ y < d)) := fun h => by
    have hi := h
    simp only [inBoxB, Bool.and_eq_true, decide_eq_true_eq] at hi
    rcases maskOk_iff.1 hM with ⟨_, rfl, rfl, rfl, rfl⟩ | ⟨_, h1, h2, _⟩
    · omega
    · obtain ⟨p1, p2⟩ := place_bd h1 h
      exact ⟨h1, h2.symm, p1, by omega, hi⟩
  replace P := hide P
  clear hM
  generalize inBoxB a b c d x y = ib at EI hA hin
  generalize atI a b c d f x y = Z at hA ⊢
  go_enter Try.func59, Try.ntmps59
  go_upto_region 1 with fail
  have R := hide (new_row w (.cells #[.int .i64 a, .int .i64 b, .int .i64 c, .int .i64 d, .slice ao n cp] 44))
  have HB := hide (al1_below w (.cells #[.int .i64 a, .int .i64 b, .int .i64 c, .int .i64 d, .slice ao n cp] 44))
  obtain ⟨b1, hb1⟩ : ∃ b, Hid (b = w.heap.size) := ⟨_, rfl⟩
  rw [← unhide hb1] at R
  rw [← unhide hb1]
  generalize w.alloc (.cells #[.int .i64 a, .int .i64 b, .int .i64 c, .int .i64 d, .slice ao n cp] 44) = W at R HB ⊢
  obtain ⟨r0, r1, r2, r3, r4⟩ := row5m (unhide R)
  go_wp2_with fail
  go_fit (unhide EI _)
  rintro r u2 ⟨rfl, hb⟩
  replace R := hide (row_next hb (unhide R))
  replace HB := hide (below_two (unhide HB) hb)
  clear hb r0 r1 r2 r3 r4
  obtain ⟨r0, r1, r2, r3, r4⟩ := row5m (unhide R)
  cases ib with
  | false =>
    have hV : Hid (Z = 0) := by unfold Hid; rw [unhide hA]; rfl
    go_wp2_with fail
    go_ret
    exact ⟨ret_i (unhide hV).symm, unhide HB⟩
  | true =>
    obtain ⟨i1, i2, i3, i4, i5⟩ := unhide hin (by trivial)
    have hV : Hid (Z = f (placeI a b c x y).toNat) := by unfold Hid; rw [unhide hA]; rfl
    obtain ⟨p, hp⟩ : ∃ p, (placeI a b c x y).toNat = p := ⟨_, rfl⟩
    have hpn : p < n := by omega
    obtain ⟨s, o, rfl, g0⟩ := unhide P p hpn
    have ER := hide (implRowOf_any a b c d y x (x + 1) s o n cp i1 (by omega) (by omega) i2 hc)
    rw [hp, show (x + 1 - x).toNat = 1 by omega] at ER
    rw [hp] at hV
    have v1 : IntKind.i64.wrap (x + 1) = x + 1 := IntWalk.i64_in _ (by have := boxIn_iff.1 i1; omega)
    clear i1 i2 i3 i4 i5 hp hin hA
    obtain ⟨z, hz⟩ : ∃ z, Hid (f p = z) := ⟨_, rfl⟩
    rw [unhide hz] at g0 hV
    replace g0 := hide g0
    go_wp2_with fail
    go_fit (unhide ER _)
    rintro r u3 ⟨rfl, hb⟩
    replace HB := hide (below_two (unhide HB) hb)
    have g1 := kc (unhide HB) (unhide g0)
    clear hb r0 r1 r2 r3 r4 R
    go_wp2_with fail
    go_ret
    exact ⟨ret_i (unhide hV).symm, unhide HB⟩

set_option maxHeartbeats 4000000 in
set_option maxRecDepth 100000 in
theorem implBitsAt_any (a b c d : Int) (f : Nat → Int) (ao : Option Addr) (n cp : Nat) (hn : n ≤ 1048576) (hc : n ≤ cp) (x y : Int) (w : World) (P : ∀ i, i < n → IntAt w ao i (f i)) :
    Calls Try.prog 21 #[.agg #[.int .i64 a, .int .i64 b, .int .i64 c, .int .i64 d, .slice ao n cp], .int .i64 x, .int .i64 y] w fun r w' => r = .returned (.int .i64 (bitsI a b c d n f x y)) ∧ Below w.heap.size w w' := by
  have EK := hide (fun u (hu : Below w.heap.size w u) => implMaskOk_any a b c d f ao n cp hn u (fun i hi => (P i hi).next hu))
  have EI := hide (fun h u (hu : Below w.heap.size w u) => implBitsIn_any a b c d f ao n cp hn hc x y h u (fun i hi => (P i hi).next hu))
  have hB : Hid (bitsI a b c d n f x y = if maskOkB a b c d n f = true then atI a b c d f x y else 0) := rfl
  clear P
  generalize maskOkB a b c d n f = X at EK EI hB
  generalize atI a b c d f x y = V at EI hB
  generalize bitsI a b c d n f x y = Z at hB ⊢
  go_enter Try.func21, Try.ntmps21
  go_upto_region 1 with fail
  have R := hide (new_row w (.cells #[.int .i64 a, .int .i64 b, .int .i64 c, .int .i64 d, .slice ao n cp] 44))
  have HB := hide (al1_below w (.cells #[.int .i64 a, .int .i64 b, .int .i64 c, .int .i64 d, .slice ao n cp] 44))
  obtain ⟨b1, hb1⟩ : ∃ b, Hid (b = w.heap.size) := ⟨_, rfl⟩
  rw [← unhide hb1] at R
  rw [← unhide hb1]
  generalize w.alloc (.cells #[.int .i64 a, .int .i64 b, .int .i64 c, .int .i64 d, .slice ao n cp] 44) = W at R HB ⊢
  obtain ⟨r0, r1, r2, r3, r4⟩ := row5m (unhide R)
  go_wp2_with fail
  go_fit (unhide EK _ (unhide HB))
  rintro r u1 ⟨rfl, hb⟩
  replace R := hide (row_next hb (unhide R))
  replace HB := hide (below_two (unhide HB) hb)
  clear hb r0 r1 r2 r3 r4
  obtain ⟨r0, r1, r2, r3, r4⟩ := row5m (unhide R)
  cases X with
  | false =>
    have hZ : Hid (Z = 0) := by unfold Hid; rw [unhide hB]; rfl
    go_wp2_with fail
    go_ret
    exact ⟨ret_i (unhide hZ).symm, unhide HB⟩
  | true =>
    have hZ : Hid (Z = V) := by unfold Hid; rw [unhide hB]; rfl
    have EJ := hide (unhide EI (by trivial) _ (unhide HB))
    clear EI
    go_wp2_with fail
    go_fit (unhide EJ)
    rintro r u2 ⟨rfl, hb⟩
    replace HB := hide (below_two (unhide HB) hb)
    clear hb r0 r1 r2 r3 r4 R
    go_wp2_with fail
    go_ret
    exact ⟨ret_i (unhide hZ).symm, unhide HB⟩

/-- A mask of its own, while it is filled: its bits lie in block g. -/
def Blank (w : World) (r : Ending) (w' : World) (a b c d : Int) (N : Nat) : Prop :=
  ∃ g, r = .returned (.agg #[.int .i64 a, .int .i64 b, .int .i64 c, .int .i64 d, .slice (some ⟨g, 0, none⟩) N N]) ∧ w.heap.size ≤ g ∧ (∃ xs, w'.ownsRow g 3 1 (.slice (some ⟨g, 0, none⟩) N N) N xs ∧ IxAt xs (fun _ => 0) N) ∧ Below w.heap.size w w'
theorem made_nil (N : Nat) : IxAt (madeCells (Value.int .i64 0).cells (N * 1)).toList (fun _ => 0) N := by
  intro j hj
  simp [madeCells, Value.cells, hj, Nat.mod_one]

set_option maxHeartbeats 4000000 in
set_option maxRecDepth 100000 in
theorem implBlankMask_any (a b c d : Int) (N : Nat) (h1 : IntKind.i64.wrap (c - a) = c - a) (h2 : IntKind.i64.wrap (d - b) = d - b) (h3 : (N : Int) = (c - a) * (d - b)) (hN : N ≤ 3600) (w : World) :
    Calls Try.prog 66 #[.agg #[.int .i64 a, .int .i64 b, .int .i64 c, .int .i64 d]] w fun r w' => Blank w r w' a b c d N := by
  obtain ⟨i1, hi1, hz1, hs1, hb1⟩ := info_parts Try.info3
  have ES := hide (implSquaresIn_any a b c d N h1 h2 h3 hN)
  obtain ⟨M, hM⟩ : ∃ M, M = madeCells (Value.int .i64 0).cells (N * 1) := ⟨_, rfl⟩
  have hMx : Hid (IxAt M.toList (fun _ => 0) N) := by unfold Hid; rw [hM]; exact made_nil N
  have hMs : Hid (M.size = N * 1) := by unfold Hid; rw [hM]; exact size_madeCells _ _
  have hmk : ∀ W : World, (Instr.makeSlice 37 (.int .i64 (N : Int)) (.int .i64 (N : Int))).run Try.prog W = .ok (.slice (some ⟨W.heap.size, 0, none⟩) N N) (W.alloc (.cells M 3)) := by
    intro W
    have h := run_make (P := Try.prog) W 37 3 i1 (.int .i64 0) Try.underlying37 hi1 hz1 .i64 .i64 (N : Int) (N : Int) (by omega) (by omega) (by rw [hb1]; omega) (by omega)
    rw [hs1] at h
    simp only [Int.toNat_natCast] at h
    rw [← hM] at h
    exact h
  clear hM h1 h2 h3
  go_enter Try.func66, Try.ntmps66
  go_upto_region 1 with fail
  have R1 := hide (al2_0 w (.cells #[.int .i64 a, .int .i64 b, .int .i64 c, .int .i64 d] 42) (.cells #[.int .i64 0, .int .i64 0, .int .i64 0, .int .i64 0, .slice none 0 0] 44))
  have R2 := hide (al2_1 w (.cells #[.int .i64 a, .int .i64 b, .int .i64 c, .int .i64 d] 42) (.cells #[.int .i64 0, .int .i64 0, .int .i64 0, .int .i64 0, .slice none 0 0] 44))
  have HB := hide (al2_below w (.cells #[.int .i64 a, .int .i64 b, .int .i64 c, .int .i64 d] 42) (.cells #[.int .i64 0, .int .i64 0, .int .i64 0, .int .i64 0, .slice none 0 0] 44))
  obtain ⟨b2, hb2⟩ : ∃ b, Hid (b = w.heap.size + 1) := ⟨_, rfl⟩
  obtain ⟨b1, hb1'⟩ : ∃ b, Hid (b = w.heap.size) := ⟨_, rfl⟩
  have lz : Hid (w.heap.size ≤ b2 ∧ b1 < b2) := by unfold Hid; rw [unhide hb2, unhide hb1']; omega
  rw [← unhide hb2] at R2
  rw [← unhide hb1'] at R1
  rw [← unhide hb2, ← unhide hb1']
  generalize (w.alloc (.cells #[.int .i64 a, .int .i64 b, .int .i64 c, .int .i64 d] 42)).alloc (.cells #[.int .i64 0, .int .i64 0, .int .i64 0, .int .i64 0, .slice none 0 0] 44) = W at R1 R2 HB ⊢
  have l2 := hide (show b2 < W.heap.size from heap_lt (unhide R2))
  obtain ⟨q0, q1, q2, q3⟩ := row4 (unhide R1)
  clear hb2 hb1' hb1 hs1 hz1 hi1
  go_region_law (first | (refine step_call rfl 78 _ (by go_simp) (unhide ES _) ?_; rintro r w5 ⟨rfl, hb5⟩; refine ⟨_, rfl, ?_⟩; obtain ⟨z0, z1, z2, z3⟩ := row4 (row_next (below_undrew hb5) (unhide R1)); obtain ⟨y0, y1, y2, y3⟩ := row4 (row_next (al1_below w5 (.cells M 3)) (row_next (below_undrew hb5) (unhide R1))); obtain ⟨e0, e1, e2, e3, e4⟩ := row5m (row_next (al1_below w5 (.cells M 3)) (row_next (below_undrew hb5) (unhide R2))); obtain ⟨f0, f1, f2, f3, f4⟩ := frozen5 (row_next (al1_below w5 (.cells M 3)) (row_next (below_undrew hb5) (unhide R2))); replace hb5 := hide (below_undrew hb5)))
  all_goals
    go_wp2_with fail
    refine bodyPost_ret (v := .agg #[.int .i64 a, .int .i64 b, .int .i64 c, .int .i64 d, .slice (some ⟨w5.heap.size, 0, none⟩) N N]) (by simp [results, Try.results66, go_sem, e0, e1, e2, e3, e4]) rfl ?_
    exact ⟨w5.heap.size, rfl, by have := (unhide hb5).size; have := unhide lz; have := unhide l2; omega, ⟨_, own_put5 (World.ownsRow_lit w5 M N (Nat.le_refl _) (by unfold maxLen; omega) (unhide hMs)) (fun k hk => by simp [Value.ownBlock] at hk; have := unhide l2; have := (unhide hb5).size; omega) _ _ _ _ _, unhide hMx⟩, below_put5 (below_new _ (below_two (unhide HB) (unhide hb5)) (Nat.le_refl _)) (unhide lz).1 _ _ _ _ _⟩
end Go.Proofs.Ytmomgbnhildpdab

/-
  The program's inReach and windOfEdge; its edges begin with the one that closes the line.
-/
namespace Go.Proofs.Ytmomgbnhildpdab
open Go.RowKit
set_option linter.unusedVariables false

/-- The first k edges, each told by the point at which it ends. -/
def windB (n : Nat) (pf : Nat → Pt) (p : Pt) : Nat → Int
  | 0 => 0
  | k + 1 => windB n pf p k + windE (pf ((k + n - 1) % n)) (pf k) p
theorem windB_bd (n : Nat) (pf : Nat → Pt) (p : Pt) : ∀ k : Nat, -(k : Int) ≤ windB n pf p k ∧ windB n pf p k ≤ (k : Int)
  | 0 => by simp [windB]
  | k + 1 => by
    have := windB_bd n pf p k
    have := windE_bd (pf ((k + n - 1) % n)) (pf k) p
    simp only [windB]; push_cast; omega
theorem windB_one (n : Nat) (pf : Nat → Pt) (p : Pt) : ∀ k : Nat, k + 1 ≤ n → windB n pf p (k + 1) = windE (pf (n - 1)) (pf 0) p + windN n pf p k
  | 0, h => by
    have e : (0 + n - 1) % n = n - 1 := by rw [Nat.zero_add]; exact Nat.mod_eq_of_lt (by omega)
    simp only [windB, windN, e]; omega
  | k + 1, h => by
    have e : (k + 1 + n - 1) % n = k := by
      rw [show k + 1 + n - 1 = k + n by omega, Nat.add_mod_right]; exact Nat.mod_eq_of_lt (by omega)
    have e' : (k + 1) % n = k + 1 := Nat.mod_eq_of_lt (by omega)
    have ih := windB_one n pf p k (by omega)
    rw [windB, e, ih, windN, e']; omega
theorem windB_all (n : Nat) (pf : Nat → Pt) (p : Pt) : windB n pf p n = windN n pf p n := by
  cases n with
  | zero => rfl
  | succ m =>
    rw [windB_one (m + 1) pf p m (Nat.le_refl _), windN, Nat.mod_self]
    simp only [Nat.add_sub_cancel]; omega
theorem windE_sw (a b p : Pt) : windE a b p = if upB a b p = true then 1 else if downB a b p = true then -1 else 0 := by
  unfold windE upB downB
  simp only [Bool.and_eq_true, decide_eq_true_eq]
  split <;> split <;> omega

theorem near_more {f : Nat → Pt} {k : Nat} (h : ∀ j, j < k → nearB (f j).1 (f j).2 = true) (hk : nearB (f k).1 (f k).2 = true) : ∀ j, j < k + 1 → nearB (f j).1 (f j).2 = true := by
  intro j hj
  by_cases e : j = k
  · subst e; exact hk
  · exact h j (by omega)
theorem near_not {x y : Int} (h : x < -33554432 ∨ 33554432 < x ∨ y < -33554432 ∨ 33554432 < y) : ¬ nearB x y = true := by
  simp only [nearB, inB, Bool.and_eq_true, decide_eq_true_eq]; omega
theorem near_yes {x y : Int} (h1 : ¬ x < -33554432) (h2 : ¬ 33554432 < x) (h3 : ¬ y < -33554432) (h4 : ¬ 33554432 < y) : nearB x y = true := by
  simp only [nearB, inB, Bool.and_eq_true, decide_eq_true_eq]; omega

set_option maxHeartbeats 4000000 in
set_option maxRecDepth 100000 in
theorem implInReach_any (pf : Nat → Int × Int) (b : Option Addr) (m d : Nat) (hm : m ≤ 1048576) (w : World)
    (x : Bool) (hx : x = true ↔ ∀ i, i < m → nearB (pf i).1 (pf i).2 = true) (P : ∀ i, i < m → PtArg w b i (pf i)) :
    Calls Try.prog 141 #[.slice b m d] w fun r w' => r = .returned (.bool x) ∧ Below w.heap.size w w' := by
  replace hx := hide hx
  replace P := hide P
  go_enter Try.func141, Try.ntmps141
  go_wp2_with fail
  go_loopw [7] (fun i u => ∃ q : Nat, q ≤ m ∧ i = .int .i64 q ∧ Hid (∀ j, j < q → nearB (pf j).1 (pf j).2 = true) ∧ Below w.heap.size w u) (fun i _ => m - (intOf i).toNat)
  case atStart => exact ⟨0, Nat.zero_le _, rfl, fun j hj => absurd hj (by omega), Below.refl _ _⟩
  case round =>
    obtain ⟨q, hq, rfl, HP, hb⟩ := hrel
    by_cases hlt : q < m
    · have HZ := (unhide P q hlt).next hb
      generalize hz : pf q = z at HZ
      obtain ⟨x0, y0⟩ := z
      obtain ⟨s, o, rfl, g0, g1⟩ := HZ
      dsimp only at g0 g1
      replace hb := hide hb
      replace hz := hide hz
      have hno : Hid (¬ nearB x0 y0 = true → Ending.returned (.bool false) = .returned (.bool x)) := fun h => bool_no (unhide hx) (fun h' => by have := h' q hlt; rw [unhide hz] at this; exact h this)
      go_upto_region 4 with fail
      obtain ⟨W, hW⟩ : ∃ W, W = wr.alloc (.cells #[.int .i64 x0, .int .i64 y0] 105) := ⟨_, rfl⟩
      replace hb := hide (show Below w.heap.size w W by rw [hW]; exact below_new _ (unhide hb) (Nat.le_refl _))
      have r2 := row2 (show W.heap[wr.heap.size]? = some (.cells #[.int .i64 x0, .int .i64 y0] 105 (0, 0)) by rw [hW]; exact new_row _ _)
      rw [← hW]
      clear hW g0 g1
      obtain ⟨c0, c1⟩ := r2
      by_cases h1 : x0 < -33554432
      · go_wp2_with fail
        go_ret
        exact ⟨unhide hno (near_not (.inl h1)), unhide hb⟩
      by_cases h2 : 33554432 < x0
      · go_wp2_with fail
        go_ret
        exact ⟨unhide hno (near_not (.inr (.inl h2))), unhide hb⟩
      by_cases h3 : y0 < -33554432
      · go_wp2_with fail
        go_ret
        exact ⟨unhide hno (near_not (.inr (.inr (.inl h3)))), unhide hb⟩
      by_cases h4 : 33554432 < y0
      · go_wp2_with fail
        go_ret
        exact ⟨unhide hno (near_not (.inr (.inr (.inr h4)))), unhide hb⟩
      go_wp2_with fail
      go_roundw
      case rel => exact ⟨q + 1, by omega, by go_num, near_more (unhide HP) (by rw [unhide hz]; exact near_yes h1 h2 h3 h4), unhide hb⟩
      case measure => simp [intOf]; omega
    · have hqe : q = m := by omega
      subst hqe
      replace hb := hide hb
      go_wp2_with fail
      go_ret
      exact ⟨bool_yes (unhide hx) (unhide HP), unhide hb⟩

theorem ret_int {a b : Int} (h : a = b) : Ending.returned (.int .i64 a) = .returned (.int .i64 b) := by rw [h]

set_option maxHeartbeats 4000000 in
set_option maxRecDepth 100000 in
theorem implEdge_any (xa ya xb yb x y : Int) (ha : nearB xa ya = true) (hb : nearB xb yb = true) (hp : nearB x y = true) (w : World) :
    Calls Try.prog 142 #[.agg #[.int .i64 xa, .int .i64 ya], .agg #[.int .i64 xb, .int .i64 yb], .agg #[.int .i64 x, .int .i64 y]] w fun r w' => r = .returned (.int .i64 (windE (xa, ya) (xb, yb) (x, y))) ∧ Below w.heap.size w w' := by
  obtain ⟨ax, ay⟩ := near_bd ha
  obtain ⟨bx, byy⟩ := near_bd hb
  obtain ⟨px, py⟩ := near_bd hp
  have m1 := mul_bd (A := 67108864) (X := 67108864) (a := xb - xa) (x := y - ya) (by omega) (by omega) (by omega) (by omega)
  have m2 := mul_bd (A := 67108864) (X := 67108864) (a := x - xa) (x := yb - ya) (by omega) (by omega) (by omega) (by omega)
  have v1 : IntKind.i64.wrap (xb - xa) = xb - xa := IntWalk.i64_in _ (by omega)
  have v2 : IntKind.i64.wrap (y - ya) = y - ya := IntWalk.i64_in _ (by omega)
  have v3 : IntKind.i64.wrap (x - xa) = x - xa := IntWalk.i64_in _ (by omega)
  have v4 : IntKind.i64.wrap (yb - ya) = yb - ya := IntWalk.i64_in _ (by omega)
  have v5 : IntKind.i64.wrap ((xb - xa) * (y - ya)) = (xb - xa) * (y - ya) := IntWalk.i64_in _ (by omega)
  have v6 : IntKind.i64.wrap ((x - xa) * (yb - ya)) = (x - xa) * (yb - ya) := IntWalk.i64_in _ (by omega)
  have v7 : IntKind.i64.wrap ((xb - xa) * (y - ya) - (x - xa) * (yb - ya)) = (xb - xa) * (y - ya) - (x - xa) * (yb - ya) := IntWalk.i64_in _ (by omega)
  have hE : Hid (windE (xa, ya) (xb, yb) (x, y) = if upB (xa, ya) (xb, yb) (x, y) = true then 1 else if downB (xa, ya) (xb, yb) (x, y) = true then -1 else 0) := windE_sw _ _ _
  have hU : Hid (upB (xa, ya) (xb, yb) (x, y) = (decide (ya ≤ y) && (decide (y < yb) && decide (0 < (xb - xa) * (y - ya) - (x - xa) * (yb - ya))))) := rfl
  have hD : Hid (downB (xa, ya) (xb, yb) (x, y) = (decide (yb ≤ y) && (decide (y < ya) && decide ((xb - xa) * (y - ya) - (x - xa) * (yb - ya) < 0)))) := rfl
  generalize upB (xa, ya) (xb, yb) (x, y) = up at hU hE
  generalize downB (xa, ya) (xb, yb) (x, y) = dn at hD hE
  generalize windE (xa, ya) (xb, yb) (x, y) = E at hE ⊢
  generalize hsd : (xb - xa) * (y - ya) - (x - xa) * (yb - ya) = sd at hU hD v7
  clear m1 m2 px py ax ay bx byy ha hb hp
  go_enter Try.func142, Try.ntmps142
  go_upto_region 1 with fail
  obtain ⟨W, hW⟩ : ∃ W, W = ((w.alloc (.cells #[.int .i64 xa, .int .i64 ya] 105)).alloc (.cells #[.int .i64 xb, .int .i64 yb] 105)).alloc (.cells #[.int .i64 x, .int .i64 y] 105) := ⟨_, rfl⟩
  obtain ⟨a0, a1⟩ := row2 (show W.heap[w.heap.size]? = some (.cells #[.int .i64 xa, .int .i64 ya] 105 (0, 0)) by rw [hW]; exact al3_0 _ _ _ _)
  obtain ⟨b0, b1⟩ := row2 (show W.heap[w.heap.size + 1]? = some (.cells #[.int .i64 xb, .int .i64 yb] 105 (0, 0)) by rw [hW]; exact al3_1 _ _ _ _)
  obtain ⟨p0, p1⟩ := row2 (show W.heap[w.heap.size + 1 + 1]? = some (.cells #[.int .i64 x, .int .i64 y] 105 (0, 0)) by rw [hW]; exact al3_2 _ _ _ _)
  have HB : Hid (Below w.heap.size w W) := by unfold Hid; rw [hW]; exact al3_below _ _ _ _
  rw [← hW]
  clear hW
  generalize w.heap.size + 1 + 1 = s5 at p0 p1 ⊢
  generalize w.heap.size + 1 = s4 at b0 b1 ⊢
  obtain ⟨s3, hs3⟩ : ∃ s, Hid (s = w.heap.size) := ⟨_, rfl⟩
  rw [← unhide hs3] at a0 a1
  rw [← unhide hs3]
  go_upto_region 2 with fail
  by_cases c1 : ya ≤ y
  · by_cases c2 : y < yb
    · have c4 : ¬ yb ≤ y := by omega
      by_cases c3 : 0 < sd
      · have hv : Hid (1 = E) := by unfold Hid; rw [unhide hE, unhide hU]; simp [c1, c2, c3]
        go_wp2_with fail
        go_ret
        exact ⟨ret_int (unhide hv), unhide HB⟩
      · have hv : Hid (0 = E) := by unfold Hid; rw [unhide hE, unhide hU, unhide hD]; simp [c1, c2, c3, c4]
        go_wp2_with fail
        go_ret
        exact ⟨ret_int (unhide hv), unhide HB⟩
    · have c4 : yb ≤ y := by omega
      have c5 : ¬ y < ya := by omega
      have hv : Hid (0 = E) := by unfold Hid; rw [unhide hE, unhide hU, unhide hD]; simp [c1, c2, c4, c5]
      go_wp2_with fail
      go_ret
      exact ⟨ret_int (unhide hv), unhide HB⟩
  · have c5 : y < ya := by omega
    by_cases c4 : yb ≤ y
    · by_cases c3 : sd < 0
      · have hv : Hid (-1 = E) := by unfold Hid; rw [unhide hE, unhide hU, unhide hD]; simp [c1, c3, c4, c5]
        go_wp2_with fail
        go_ret
        exact ⟨ret_int (unhide hv), unhide HB⟩
      · have hv : Hid (0 = E) := by unfold Hid; rw [unhide hE, unhide hU, unhide hD]; simp [c1, c3, c4, c5]
        go_wp2_with fail
        go_ret
        exact ⟨ret_int (unhide hv), unhide HB⟩
    · have hv : Hid (0 = E) := by unfold Hid; rw [unhide hE, unhide hU, unhide hD]; simp [c1, c4]
      go_wp2_with fail
      go_ret
      exact ⟨ret_int (unhide hv), unhide HB⟩
end Go.Proofs.Ytmomgbnhildpdab

/-
  The program's WindOf, Covers and CountOf.
-/
namespace Go.Proofs.Ytmomgbnhildpdab
open Go.RowKit
set_option linter.unusedVariables false

/-- One point in a row. -/
theorem one_arg {w : World} {x y : Int} {b : Nat} {t : TypeId} (h : w.heap[b]? = some (.cells #[.int .i64 x, .int .i64 y] t (0, 0))) :
    ∀ i, i < 1 → PtArg w (some ⟨b, 0, none⟩) i ((fun _ => (x, y)) i : Pt) := by
  intro i hi
  obtain ⟨r0, r1⟩ := row2 h
  match i, hi with
  | 0, _ => exact ⟨_, _, rfl, r0, r1⟩
theorem one_near {x y : Int} : nearB x y = true ↔ ∀ i, i < 1 → nearB ((fun _ => (x, y)) i : Pt).1 ((fun _ => (x, y)) i : Pt).2 = true :=
  ⟨fun h _ _ => h, fun h => h 0 (by omega)⟩

set_option maxHeartbeats 8000000 in
set_option maxRecDepth 100000 in
theorem implWindOf_any (pf : Nat → Pt) (la : Option Addr) (n lc : Nat) (hn : n ≤ 1048576) (x y : Int) (w : World) (P : ∀ i, i < n → PtArg w la i (pf i)) :
    Calls Try.prog 135 #[.slice la n lc, .agg #[.int .i64 x, .int .i64 y]] w fun e w' => e = .returned (.int .i64 (windP n pf (x, y))) ∧ Below w.heap.size w w' := by
  obtain ⟨lk, hlk⟩ : ∃ b : Bool, b = true ↔ allNear n pf := by
    by_cases h : allNear n pf
    · exact ⟨true, by simp [h]⟩
    · exact ⟨false, by simp [h]⟩
  have EA := hide (fun u P => implInReach_any pf la n lc hn u lk hlk P)
  have EP := hide (fun u b h => implInReach_any (fun _ => (x, y)) (some ⟨b, 0, none⟩) 1 1 (by omega) u (nearB x y) one_near (one_arg (t := 105) h))
  replace P := hide P
  cases hp : nearB x y with
  | false =>
    rw [windP_no (fun h => by have := h.1; dsimp only at this; rw [hp] at this; cases this)]
    rw [hp] at EP
    clear hp hlk
    go_enter Try.func135, Try.ntmps135
    go_wp2_with fail
    go_fit (unhide EP _ _ (al2_1 _ _ _))
    rintro r w1 ⟨rfl, hb⟩
    go_wp2_with fail
    go_ret
    exact ⟨rfl, below_two (al2_below _ _ _) hb⟩
  | true =>
    rw [hp] at EP
    have hA : Hid (lk = true → windP n pf (x, y) = windB n pf (x, y) n) := fun h => (windP_yes hp (hlk.1 h)).trans (windB_all n pf (x, y)).symm
    have hN : Hid (lk = false → windP n pf (x, y) = 0) := fun h => windP_no (fun h' => by rw [hlk.2 h'.2] at h; cases h)
    have hal : Hid (lk = true → ∀ i, i < n → nearB (pf i).1 (pf i).2 = true) := fun h => hlk.1 h
    have hpn := hide hp
    generalize windP n pf (x, y) = R at hA hN ⊢
    clear hp hlk
    go_enter Try.func135, Try.ntmps135
    go_upto_region 1 with fail
    have R3 := hide (new_row w (.cells #[.int .i64 x, .int .i64 y] 105))
    have HB := hide (al1_below w (.cells #[.int .i64 x, .int .i64 y] 105))
    obtain ⟨b3, hb3⟩ : ∃ b, Hid (b = w.heap.size) := ⟨_, rfl⟩
    rw [← unhide hb3] at R3
    rw [← unhide hb3]
    generalize w.alloc (.cells #[.int .i64 x, .int .i64 y] 105) = W at R3 HB ⊢
    obtain ⟨p0, p1⟩ := row2 (unhide R3)
    go_wp2_with fail
    go_fit (unhide EP _ _ (new_row _ _))
    rintro r w1 ⟨rfl, hb⟩
    replace hb := below_two (al1_below _ _) hb
    replace R3 := hide (row_next hb (unhide R3))
    replace HB := hide (below_two (unhide HB) hb)
    clear hb EP p0 p1
    have EA1 := hide (unhide EA w1 (fun i hi => (unhide P i hi).next (unhide HB)))
    clear EA
    cases lk with
    | false =>
      have hR := hide (unhide hN rfl)
      go_wp2_with fail
      go_fit (unhide EA1)
      rintro r w2 ⟨rfl, hb⟩
      go_wp2_with fail
      go_ret
      exact ⟨ret_int (unhide hR).symm, below_two (unhide HB) hb⟩
    | true =>
      have hR := hide (unhide hA rfl)
      have hal' := hide (unhide hal rfl)
      clear hA hN hal
      go_wp2_with fail
      go_fit (unhide EA1)
      rintro r w2 ⟨rfl, hb⟩
      replace R3 := hide (row_next hb (unhide R3))
      replace HB := hide (below_two (unhide HB) hb)
      clear hb EA1
      go_wp2_with fail
      go_loopw [5, 20] (fun s i u => ∃ k : Nat, k ≤ n ∧ i = .int .i64 k ∧ s = .int .i64 (windB n pf (x, y) k) ∧ Hid (Below w.heap.size w u) ∧ Hid (u.heap[b3]? = some (.cells #[.int .i64 x, .int .i64 y] 105 (0, 0)))) (fun _ i _ => n - (intOf i).toNat)
      case atStart => exact ⟨0, Nat.zero_le _, rfl, rfl, HB, R3⟩
      case round =>
        clear HB R3
        obtain ⟨k, hk, rfl, rfl, HB, R3⟩ := hrel
        have hS := windB_bd n pf (x, y) k
        by_cases hlt : k < n
        · have hk1 : (k + n - 1) % n < n := Nat.mod_lt _ (by omega)
          have hs1 : Hid (windB n pf (x, y) (k + 1) = windB n pf (x, y) k + windE (pf ((k + n - 1) % n)) (pf k) (x, y)) := rfl
          have Pb := (unhide P k hlt).next (unhide HB)
          have Pa := (unhide P _ hk1).next (unhide HB)
          have e1' : ((k : Int) + (n : Int) - 1).tmod (n : Int) = (((k + n - 1) % n : Nat) : Int) := by
            rw [Int.tmod_eq_emod_of_nonneg (by omega), show ((k : Int) + (n : Int) - 1) = ((k + n - 1 : Nat) : Int) by omega]; push_cast; rfl
          have nb := unhide hal' k hlt
          have na := unhide hal' _ hk1
          generalize (k + n - 1) % n = k1 at *
          obtain ⟨za, hza⟩ : ∃ z, pf k1 = z := ⟨_, rfl⟩
          obtain ⟨zb, hzb⟩ : ∃ z, pf k = z := ⟨_, rfl⟩
          rw [hza] at Pa hs1 na
          rw [hzb] at Pb hs1 nb
          clear hza hzb
          obtain ⟨xa, ya⟩ := za
          obtain ⟨xb, yb⟩ := zb
          have EE := hide (fun u => implEdge_any xa ya xb yb x y na nb (unhide hpn) u)
          have hwe := windE_bd (xa, ya) (xb, yb) (x, y)
          generalize windE (xa, ya) (xb, yb) (x, y) = e at hs1 EE hwe
          generalize windB n pf (x, y) k = S at hS hs1 ⊢
          obtain ⟨s0, o0, rfl, a0, a1⟩ := Pa
          obtain ⟨_, _, e1, b0, b1⟩ := Pb
          cases e1
          dsimp only at a0 a1 b0 b1
          have w1' : IntKind.i64.wrap ((k : Int) + (n : Int)) = (k : Int) + (n : Int) := IntWalk.i64_in _ (by omega)
          have w2' : IntKind.i64.wrap ((k : Int) + (n : Int) - 1) = (k : Int) + (n : Int) - 1 := IntWalk.i64_in _ (by omega)
          have w3' : IntKind.i64.wrap (S + e) = S + e := IntWalk.i64_in _ (by omega)
          have hki : (k : Int) < (n : Int) := by omega
          have hk1i : (k1 : Int) < (n : Int) := by omega
          have hn0 : ¬ n = 0 := by omega
          have hnz : ((n : Int) == 0) = false := beq_eq_false_iff_ne.2 (by omega)
          have na0 := fun o => kn o a0
          have na1 := fun o => kn o a1
          clear na nb
          go_upto_region 8 with fail
          obtain ⟨W2, hW⟩ : ∃ W2, W2 = (wr.alloc (.cells #[.int .i64 xb, .int .i64 yb] 105)).alloc (.cells #[.int .i64 xa, .int .i64 ya] 105) := ⟨_, rfl⟩
          have Rb := hide (show W2.heap[wr.heap.size]? = some (.cells #[.int .i64 xb, .int .i64 yb] 105 (0, 0)) by rw [hW]; exact al2_0 _ _ _)
          have Ra := hide (show W2.heap[wr.heap.size + 1]? = some (.cells #[.int .i64 xa, .int .i64 ya] 105 (0, 0)) by rw [hW]; exact al2_1 _ _ _)
          have hbw : Below wr.heap.size wr W2 := by rw [hW]; exact al2_below _ _ _
          replace R3 := hide (row_next hbw (unhide R3))
          replace HB := hide (below_two (unhide HB) hbw)
          rw [← hW]
          clear hW hbw a0 a1 b0 b1 na0 na1
          generalize wr.heap.size + 1 = b8 at Ra ⊢
          generalize wr.heap.size = b7 at Rb ⊢
          obtain ⟨a0, a1⟩ := row2 (unhide Ra)
          obtain ⟨b0, b1⟩ := row2 (unhide Rb)
          obtain ⟨p0, p1⟩ := row2 (unhide R3)
          go_wp2_with fail
          go_fit (unhide EE _)
          rintro r w4 ⟨rfl, hb4⟩
          clear a0 a1 b0 b1 p0 p1
          go_wp2_with fail
          go_roundw
          case rel => exact ⟨k + 1, by omega, by go_num, by rw [unhide hs1], below_two (unhide HB) hb4, row_next hb4 (unhide R3)⟩
          case measure => simp [intOf]; omega
        · have hke : k = n := by omega
          subst hke
          have hki : ¬ (k : Int) < (k : Int) := by omega
          go_wp2_with fail
          go_ret
          exact ⟨ret_int (unhide hR).symm, unhide HB⟩

set_option maxHeartbeats 4000000 in
set_option maxRecDepth 100000 in
theorem implCovers_any (N : Nat) (ln : Nat → Nat) (pf : Nat → Nat → Pt) (hN : N ≤ 1048576) (hl : ∀ i, i < N → ln i ≤ 1048576) (la : Option Addr) (lc : Nat) (even : Bool) (x y : Int) (w : World) (L : ∀ i, i < N → LArg w la i (ln i) (pf i)) :
    Calls Try.prog 115 #[.slice la N lc, .bool even, .agg #[.int .i64 x, .int .i64 y]] w fun e w' => e = .returned (.bool (coversB N ln pf even (x, y))) ∧ Below w.heap.size w w' := by
  have hbd := hide (fun k hk => coverN_bd hl pf (x, y) k hk)
  have EW := hide (fun i (hi : i < N) (a : Option Addr) (c : Nat) u P => implWindOf_any (pf i) a (ln i) c (hl i hi) x y u P)
  have hwb := hide (fun i (hi : i < N) => (⟨windP_bd (ln i) (pf i) (x, y), hl i hi⟩ : (-(ln i : Int) ≤ windP (ln i) (pf i) (x, y) ∧ windP (ln i) (pf i) (x, y) ≤ (ln i : Int)) ∧ ln i ≤ 1048576))
  obtain ⟨C, hC⟩ : ∃ C, Hid (coversB N ln pf even (x, y) = C) := ⟨_, rfl⟩
  rw [unhide hC]
  have hs0 : Hid (∀ k, coverN ln pf (x, y) (k + 1) = coverN ln pf (x, y) k + windP (ln k) (pf k) (x, y)) := fun k => rfl
  replace L := hide L
  replace hl := hide hl
  go_enter Try.func115, Try.ntmps115
  go_wp2_with fail
  have R5 := hide (new_row w (.cells #[.int .i64 x, .int .i64 y] 105))
  have HB := hide (al1_below w (.cells #[.int .i64 x, .int .i64 y] 105))
  obtain ⟨b5, hb5⟩ : ∃ b, Hid (b = w.heap.size) := ⟨_, rfl⟩
  rw [← unhide hb5] at R5
  rw [← unhide hb5]
  generalize w.alloc (.cells #[.int .i64 x, .int .i64 y] 105) = W at R5 HB ⊢
  go_loopw [7, 12] (fun s i u => ∃ k : Nat, k ≤ N ∧ i = .int .i64 k ∧ s = .int .i64 (coverN ln pf (x, y) k) ∧ Hid (Below w.heap.size w u) ∧ Hid (u.heap[b5]? = some (.cells #[.int .i64 x, .int .i64 y] 105 (0, 0)))) (fun _ i _ => N - (intOf i).toNat)
  case atStart => exact ⟨0, Nat.zero_le _, rfl, rfl, HB, R5⟩
  case round =>
    clear HB R5
    obtain ⟨k, hk, rfl, rfl, HB, R5⟩ := hrel
    have hS := unhide hbd k hk
    by_cases hlt : k < N
    · obtain ⟨s0, o0, xx, cx, rfl, g0, hP⟩ := (unhide L k hlt).next (unhide HB)
      have hw1 := unhide hwb k hlt
      have hs1 := hide (unhide hs0 k)
      have E1 := hide (fun u (hu : Below wr.heap.size wr u) => unhide EW k hlt xx cx u (fun j hj => (hP j hj).next hu))
      generalize windP (ln k) (pf k) (x, y) = wk at hw1 hs1 E1
      generalize coverN ln pf (x, y) k = S at hS hs1 ⊢
      obtain ⟨lk, hlk⟩ : ∃ lk, Hid (ln k = lk) := ⟨_, rfl⟩
      rw [unhide hlk] at g0 E1 hw1
      have w1' : IntKind.i64.wrap (S + wk) = S + wk := IntWalk.i64_in _ (by omega)
      have hki : (k : Int) < (N : Int) := by omega
      have E2 := hide (unhide E1 _ (Below.refl _ _))
      obtain ⟨p0, p1⟩ := row2 (unhide R5)
      clear hP hw1
      go_wp2_with fail
      go_fit (unhide E2)
      rintro r w4 ⟨rfl, hb4⟩
      clear g0 p0 p1
      go_wp2_with fail
      go_roundw
      case rel => exact ⟨k + 1, by omega, by go_num, by rw [unhide hs1], below_two (unhide HB) hb4, row_next hb4 (unhide R5)⟩
      case measure => simp [intOf]; omega
    · have hke : k = N := by omega
      subst hke
      have hki : ¬ (k : Int) < (k : Int) := by omega
      unfold coversB at hC
      generalize coverN ln pf (x, y) k = S at hS hC ⊢
      cases even with
      | true =>
        have hC2 : Hid (decide (S % 2 ≠ 0) = C) := unhide hC
        by_cases h2 : S.tmod 2 = 0
        · have h3 : S % 2 = 0 := (tm2 S).1 h2
          go_wp2_with fail
          go_ret
          exact ⟨congrArg (fun z => Ending.returned (.bool z)) (by rw [← unhide hC2]; simp [h3]), unhide HB⟩
        · have h3 : ¬ S % 2 = 0 := fun h => h2 ((tm2 S).2 h)
          have h4 : (S.tmod 2 == 0) = false := beq_eq_false_iff_ne.2 h2
          go_wp2_with fail
          go_ret
          exact ⟨congrArg (fun z => Ending.returned (.bool z)) (by rw [← unhide hC2]; simp [h2, h3]), unhide HB⟩
      | false =>
        have hC2 : Hid (decide (S ≠ 0) = C) := unhide hC
        by_cases h2 : S = 0
        · go_wp2_with fail
          go_ret
          exact ⟨congrArg (fun z => Ending.returned (.bool z)) (by rw [← unhide hC2]; simp [h2]), unhide HB⟩
        · have h4 : (S == 0) = false := beq_eq_false_iff_ne.2 h2
          go_wp2_with fail
          go_ret
          exact ⟨congrArg (fun z => Ending.returned (.bool z)) (by rw [← unhide hC2]; simp [h2]), unhide HB⟩
end Go.Proofs.Ytmomgbnhildpdab

/-
  The program's pointsAt and MaskAt.
-/
namespace Go.Proofs.Ytmomgbnhildpdab
open Go.RowKit
set_option linter.unusedVariables false

theorem row8 {w1 : World} {b : Nat} {x0 x1 x2 x3 x4 x5 x6 x7 : Value} {t : TypeId} (h : w1.heap[b]? = some (.cells #[x0, x1, x2, x3, x4, x5, x6, x7] t (0, 0))) : w1.cell? ⟨b, 0, none⟩ = some x0 ∧ w1.cell? ⟨b, 1, none⟩ = some x1 ∧ w1.cell? ⟨b, 2, none⟩ = some x2 ∧ w1.cell? ⟨b, 3, none⟩ = some x3 ∧ w1.cell? ⟨b, 4, none⟩ = some x4 ∧ w1.cell? ⟨b, 5, none⟩ = some x5 ∧ w1.cell? ⟨b, 6, none⟩ = some x6 ∧ w1.cell? ⟨b, 7, none⟩ = some x7 := by
  refine ⟨?_, ?_, ?_, ?_, ?_, ?_, ?_, ?_⟩ <;> simp [World.cell?, h]

set_option maxHeartbeats 4000000 in
set_option maxRecDepth 100000 in
theorem implPointsAt_in (x y : Int) (hx : -2000 ≤ x ∧ x ≤ 2000) (hy : -2000 ≤ y ∧ y ≤ 2000) (w : World) :
    Calls Try.prog 114 #[.int .i64 x, .int .i64 y] w fun e w' => e = .returned (.agg #[.int .i64 (256 * x + 64), .int .i64 (256 * y + 64), .int .i64 (256 * x + 192), .int .i64 (256 * y + 64), .int .i64 (256 * x + 64), .int .i64 (256 * y + 192), .int .i64 (256 * x + 192), .int .i64 (256 * y + 192)]) ∧ Below w.heap.size w w' := by
  have a1 : IntKind.i64.wrap (256 * x) = 256 * x := IntWalk.i64_in _ (by omega)
  have a2 : IntKind.i64.wrap (256 * x + 64) = 256 * x + 64 := IntWalk.i64_in _ (by omega)
  have a3 : IntKind.i64.wrap (256 * y) = 256 * y := IntWalk.i64_in _ (by omega)
  have a4 : IntKind.i64.wrap (256 * y + 64) = 256 * y + 64 := IntWalk.i64_in _ (by omega)
  have a5 : IntKind.i64.wrap (256 * x + 192) = 256 * x + 192 := IntWalk.i64_in _ (by omega)
  have a6 : IntKind.i64.wrap (256 * y + 192) = 256 * y + 192 := IntWalk.i64_in _ (by omega)
  have h1 : ¬ x < -2000 := by omega
  have h2 : ¬ 2000 < x := by omega
  have h3 : ¬ y < -2000 := by omega
  have h4 : ¬ 2000 < y := by omega
  clear hx hy
  go_enter Try.func114, Try.ntmps114
  go_wp2_with fail
  obtain ⟨r0, r1, r2, r3, r4, r5, r6, r7⟩ := row8 (new_row w (.cells #[.int .i64 (256 * x + 64), .int .i64 (256 * y + 64), .int .i64 (256 * x + 192), .int .i64 (256 * y + 64), .int .i64 (256 * x + 64), .int .i64 (256 * y + 192), .int .i64 (256 * x + 192), .int .i64 (256 * y + 192)] 138))
  refine bodyPost_ret (v := .agg #[.int .i64 (256 * x + 64), .int .i64 (256 * y + 64), .int .i64 (256 * x + 192), .int .i64 (256 * y + 64), .int .i64 (256 * x + 64), .int .i64 (256 * y + 192), .int .i64 (256 * x + 192), .int .i64 (256 * y + 192)]) (by simp [results, Try.results114, go_sem, r0, r1, r2, r3, r4, r5, r6, r7]) rfl ⟨rfl, ?_⟩
  exact al1_below _ _

set_option maxHeartbeats 4000000 in
set_option maxRecDepth 100000 in
theorem implPointsAt_out (x y : Int) (h : x < -2000 ∨ 2000 < x ∨ y < -2000 ∨ 2000 < y) (w : World) :
    Calls Try.prog 114 #[.int .i64 x, .int .i64 y] w fun e w' => e = .returned (.agg #[.int .i64 0, .int .i64 0, .int .i64 0, .int .i64 0, .int .i64 0, .int .i64 0, .int .i64 0, .int .i64 0]) ∧ Below w.heap.size w w' := by
  by_cases h1 : x < -2000
  · clear h
    go_enter Try.func114, Try.ntmps114
    go_wp2_with fail
    obtain ⟨r0, r1, r2, r3, r4, r5, r6, r7⟩ := row8 (new_row w (.cells #[.int .i64 0, .int .i64 0, .int .i64 0, .int .i64 0, .int .i64 0, .int .i64 0, .int .i64 0, .int .i64 0] 138))
    refine bodyPost_ret (v := .agg #[.int .i64 0, .int .i64 0, .int .i64 0, .int .i64 0, .int .i64 0, .int .i64 0, .int .i64 0, .int .i64 0]) (by simp [results, Try.results114, go_sem, r0, r1, r2, r3, r4, r5, r6, r7]) rfl ⟨rfl, ?_⟩
    exact al1_below _ _
  by_cases h2 : 2000 < x
  · clear h
    go_enter Try.func114, Try.ntmps114
    go_wp2_with fail
    obtain ⟨r0, r1, r2, r3, r4, r5, r6, r7⟩ := row8 (new_row w (.cells #[.int .i64 0, .int .i64 0, .int .i64 0, .int .i64 0, .int .i64 0, .int .i64 0, .int .i64 0, .int .i64 0] 138))
    refine bodyPost_ret (v := .agg #[.int .i64 0, .int .i64 0, .int .i64 0, .int .i64 0, .int .i64 0, .int .i64 0, .int .i64 0, .int .i64 0]) (by simp [results, Try.results114, go_sem, r0, r1, r2, r3, r4, r5, r6, r7]) rfl ⟨rfl, ?_⟩
    exact al1_below _ _
  by_cases h3 : y < -2000
  · clear h
    go_enter Try.func114, Try.ntmps114
    go_wp2_with fail
    obtain ⟨r0, r1, r2, r3, r4, r5, r6, r7⟩ := row8 (new_row w (.cells #[.int .i64 0, .int .i64 0, .int .i64 0, .int .i64 0, .int .i64 0, .int .i64 0, .int .i64 0, .int .i64 0] 138))
    refine bodyPost_ret (v := .agg #[.int .i64 0, .int .i64 0, .int .i64 0, .int .i64 0, .int .i64 0, .int .i64 0, .int .i64 0, .int .i64 0]) (by simp [results, Try.results114, go_sem, r0, r1, r2, r3, r4, r5, r6, r7]) rfl ⟨rfl, ?_⟩
    exact al1_below _ _
  have h4 : 2000 < y := by omega
  · clear h
    go_enter Try.func114, Try.ntmps114
    go_wp2_with fail
    obtain ⟨r0, r1, r2, r3, r4, r5, r6, r7⟩ := row8 (new_row w (.cells #[.int .i64 0, .int .i64 0, .int .i64 0, .int .i64 0, .int .i64 0, .int .i64 0, .int .i64 0, .int .i64 0] 138))
    refine bodyPost_ret (v := .agg #[.int .i64 0, .int .i64 0, .int .i64 0, .int .i64 0, .int .i64 0, .int .i64 0, .int .i64 0, .int .i64 0]) (by simp [results, Try.results114, go_sem, r0, r1, r2, r3, r4, r5, r6, r7]) rfl ⟨rfl, ?_⟩
    exact al1_below _ _

theorem eqFour_yes (w : World) : (binOp .eql 138 (.agg #[.int .i64 0, .int .i64 0, .int .i64 0, .int .i64 0, .int .i64 0, .int .i64 0, .int .i64 0, .int .i64 0]) (.agg #[.int .i64 0, .int .i64 0, .int .i64 0, .int .i64 0, .int .i64 0, .int .i64 0, .int .i64 0, .int .i64 0])).run Try.prog w = .ok (.bool true) w := by kernel_rfl
theorem eqFour_no (w : World) (l a b c d e f g : Int) (h : ¬ l = 0) : (binOp .eql 138 (.agg #[.int .i64 l, .int .i64 a, .int .i64 b, .int .i64 c, .int .i64 d, .int .i64 e, .int .i64 f, .int .i64 g]) (.agg #[.int .i64 0, .int .i64 0, .int .i64 0, .int .i64 0, .int .i64 0, .int .i64 0, .int .i64 0, .int .i64 0])).run Try.prog w = .ok (.bool false) w := by
  cases l with
  | ofNat n =>
    cases n with
    | zero => exact absurd rfl h
    | succ n => kernel_rfl
  | negSucc n => kernel_rfl
theorem ixFour0 (w : World) (v0 v1 v2 v3 v4 v5 v6 v7 : Int) : (Instr.index 138 (.agg #[.int .i64 v0, .int .i64 v1, .int .i64 v2, .int .i64 v3, .int .i64 v4, .int .i64 v5, .int .i64 v6, .int .i64 v7]) (.int .i64 0)).run Try.prog w = .ok (.agg #[.int .i64 v0, .int .i64 v1]) w := by kernel_rfl
theorem ixFour1 (w : World) (v0 v1 v2 v3 v4 v5 v6 v7 : Int) : (Instr.index 138 (.agg #[.int .i64 v0, .int .i64 v1, .int .i64 v2, .int .i64 v3, .int .i64 v4, .int .i64 v5, .int .i64 v6, .int .i64 v7]) (.int .i64 1)).run Try.prog w = .ok (.agg #[.int .i64 v2, .int .i64 v3]) w := by kernel_rfl
theorem ixFour2 (w : World) (v0 v1 v2 v3 v4 v5 v6 v7 : Int) : (Instr.index 138 (.agg #[.int .i64 v0, .int .i64 v1, .int .i64 v2, .int .i64 v3, .int .i64 v4, .int .i64 v5, .int .i64 v6, .int .i64 v7]) (.int .i64 2)).run Try.prog w = .ok (.agg #[.int .i64 v4, .int .i64 v5]) w := by kernel_rfl
theorem ixFour3 (w : World) (v0 v1 v2 v3 v4 v5 v6 v7 : Int) : (Instr.index 138 (.agg #[.int .i64 v0, .int .i64 v1, .int .i64 v2, .int .i64 v3, .int .i64 v4, .int .i64 v5, .int .i64 v6, .int .i64 v7]) (.int .i64 3)).run Try.prog w = .ok (.agg #[.int .i64 v6, .int .i64 v7]) w := by kernel_rfl

theorem mask_in {N : Nat} {ln : Nat → Nat} {pf : Nat → Nat → Pt} {even : Bool} {x y : Int} (hx : -2000 ≤ x ∧ x ≤ 2000) (hy : -2000 ≤ y ∧ y ≤ 2000) : maskP N ln pf even x y = maskN N ln pf even x y 4 := by
  unfold maskP; rw [if_pos]; rw [Bool.and_eq_true, inB_true, inB_true]; exact ⟨hx, hy⟩
theorem mask_out {N : Nat} {ln : Nat → Nat} {pf : Nat → Nat → Pt} {even : Bool} {x y : Int} (h : x < -2000 ∨ 2000 < x ∨ y < -2000 ∨ 2000 < y) : maskP N ln pf even x y = 0 := by
  unfold maskP; rw [if_neg]; rw [Bool.and_eq_true, inB_true, inB_true]; omega

attribute [local go_sem ↓] eqFour_yes eqFour_no ixFour0 ixFour1 ixFour2 ixFour3 in
set_option maxHeartbeats 4000000 in
set_option maxRecDepth 100000 in
theorem implMaskAt_any (N : Nat) (ln : Nat → Nat) (pf : Nat → Nat → Pt) (hN : N ≤ 1048576) (hl : ∀ i, i < N → ln i ≤ 1048576) (la : Option Addr) (lc : Nat) (even : Bool) (x y : Int) (w : World) (L : ∀ i, i < N → LArg w la i (ln i) (pf i)) :
    Calls Try.prog 85 #[.slice la N lc, .bool even, .int .i64 x, .int .i64 y] w fun e w' => e = .returned (.int .i64 (maskP N ln pf even x y)) ∧ Below w.heap.size w w' := by
  by_cases h : x < -2000 ∨ 2000 < x ∨ y < -2000 ∨ 2000 < y
  · rw [mask_out h]
    have EP := hide (implPointsAt_out x y h)
    clear h L
    go_enter Try.func85, Try.ntmps85
    go_wp2_with fail
    go_fit (unhide EP _)
    rintro r w1 ⟨rfl, hb⟩
    obtain ⟨r0, r1, r2, r3, r4, r5, r6, r7⟩ := row8 (new_row w1 (.cells #[.int .i64 0, .int .i64 0, .int .i64 0, .int .i64 0, .int .i64 0, .int .i64 0, .int .i64 0, .int .i64 0] 138))
    go_wp2_with fail
    go_ret
    exact ⟨rfl, below_new _ hb (Nat.le_refl _)⟩
  have hx : -2000 ≤ x ∧ x ≤ 2000 := by omega
  have hy : -2000 ≤ y ∧ y ≤ 2000 := by omega
  clear h
  rw [mask_in hx hy]
  have EP := hide (implPointsAt_in x y hx hy)
  have EC := hide (fun (a b : Int) u L => implCovers_any N ln pf hN hl la lc even a b u L)
  have hbd := hide (maskN_bd N ln pf even x y)
  have hs : Hid (∀ k, maskN N ln pf even x y (k + 1) = maskN N ln pf even x y k + if coversB N ln pf even (pointI x y k) = true then (2 : Int) ^ k else 0) := fun k => rfl
  have h0 : Hid (maskN N ln pf even x y 0 = 0) := rfl
  have q0 : Hid (pointI x y 0 = (256 * x + 64, 256 * y + 64)) := by unfold Hid pointI; exact Prod.ext (by dsimp only; omega) (by dsimp only; omega)
  have q1 : Hid (pointI x y 1 = (256 * x + 192, 256 * y + 64)) := by unfold Hid pointI; exact Prod.ext (by dsimp only; omega) (by dsimp only; omega)
  have q2 : Hid (pointI x y 2 = (256 * x + 64, 256 * y + 192)) := by unfold Hid pointI; exact Prod.ext (by dsimp only; omega) (by dsimp only; omega)
  have q3 : Hid (pointI x y 3 = (256 * x + 192, 256 * y + 192)) := by unfold Hid pointI; exact Prod.ext (by dsimp only; omega) (by dsimp only; omega)
  have hl0 : ((256 * x + 64) == 0) = false := beq_eq_false_iff_ne.2 (by omega)
  replace L := hide L
  replace hl := hide hl
  generalize maskN N ln pf even x y = mk at hbd hs h0 ⊢
  generalize pointI x y = pt at hs q0 q1 q2 q3
  generalize 256 * x + 64 = l at EP q0 q1 q2 q3 hl0
  generalize 256 * x + 192 = r at EP q0 q1 q2 q3
  generalize 256 * y + 64 = u at EP q0 q1 q2 q3
  generalize 256 * y + 192 = d at EP q0 q1 q2 q3
  clear hx hy
  have hlz : ¬ l = 0 := beq_eq_false_iff_ne.1 hl0
  go_enter Try.func85, Try.ntmps85
  go_wp2_with fail
  go_fit (unhide EP _)
  rintro e w1 ⟨rfl, hb⟩
  clear EP
  obtain ⟨r0, r1, r2, r3, r4, r5, r6, r7⟩ := row8 (new_row w1 (.cells #[.int .i64 l, .int .i64 u, .int .i64 r, .int .i64 u, .int .i64 l, .int .i64 d, .int .i64 r, .int .i64 d] 138))
  have HB := hide (below_new (.cells #[.int .i64 l, .int .i64 u, .int .i64 r, .int .i64 u, .int .i64 l, .int .i64 d, .int .i64 r, .int .i64 d] 138) hb (Nat.le_refl _))
  clear hb
  go_upto_region 2 with fail
  generalize w1.alloc (.cells #[.int .i64 l, .int .i64 u, .int .i64 r, .int .i64 u, .int .i64 l, .int .i64 d, .int .i64 r, .int .i64 d] 138) = W at r0 r1 r2 r3 r4 r5 r6 r7 HB ⊢
  go_wp2_with fail
  go_loopw [10, 20] (fun s i v => ∃ k : Nat, k ≤ 4 ∧ i = .int .i64 k ∧ s = .int .i64 (mk k) ∧ Hid (Below w.heap.size w v)) (fun _ i _ => 4 - (intOf i).toNat)
  case atStart => exact ⟨0, by omega, rfl, by rw [unhide h0], HB⟩
  case round =>
    clear HB r0 r1 r2 r3 r4 r5 r6 r7
    obtain ⟨k, hk, rfl, rfl, HB⟩ := hrel
    obtain ⟨hb0, hb1⟩ := unhide hbd k
    have hs1 := hide (unhide hs k)
    by_cases h4 : k = 4
    · subst h4
      obtain ⟨S, hS⟩ : ∃ S, Hid (mk 4 = S) := ⟨_, rfl⟩
      rw [unhide hS] at hb0 hb1 ⊢
      go_wp2_with fail
      go_ret
      exact ⟨ret_int (unhide hS).symm, unhide HB⟩
    · have h5 : k = 0 ∨ k = 1 ∨ k = 2 ∨ k = 3 := by omega
      clear h4
      rcases h5 with rfl | rfl | rfl | rfl
      · rw [unhide q0] at hs1
        have EC1 := hide (unhide EC l u)
        obtain ⟨c, hc⟩ : ∃ c, Hid (coversB N ln pf even (l, u) = c) := ⟨_, rfl⟩
        rw [unhide hc] at hs1 EC1
        clear hc EC
        have hs2 : Hid (mk 1 = mk 0 + if c = true then 1 else 0) := unhide hs1
        clear hs1 hs q0 q1 q2 q3
        obtain ⟨S, hS⟩ : ∃ S, Hid (mk 0 = S) := ⟨_, rfl⟩
        rw [unhide hS] at hb0 hb1 hs2 ⊢
        have b1 : IntKind.i64.wrap (S + 1) = S + 1 := IntWalk.i64_in _ (by omega)
        obtain ⟨p0, p1⟩ := row2 (new_row wr (.cells #[.int .i64 l, .int .i64 u] 105))
        go_wp2_with fail
        have hb2 := below_two (unhide HB) (al1_below wr (.cells #[.int .i64 l, .int .i64 u] 105))
        go_fit (unhide EC1 _ (fun i hi => (unhide L i hi).next hb2))
        rintro e w2 ⟨rfl, hb3⟩
        have hb4 := hide (below_after hb3 hb2 (Nat.le_refl _))
        clear hb2 hb3
        cases c with
        | false =>
          go_wp2_with fail
          go_roundw
          case rel => exact ⟨1, by omega, by go_num, by rw [unhide hs2]; simp, hb4⟩
          case measure => simp [intOf]
        | true =>
          go_wp2_with fail
          go_roundw
          case rel => exact ⟨1, by omega, by go_num, by rw [unhide hs2]; simp, hb4⟩
          case measure => simp [intOf]
      · rw [unhide q1] at hs1
        have EC1 := hide (unhide EC r u)
        obtain ⟨c, hc⟩ : ∃ c, Hid (coversB N ln pf even (r, u) = c) := ⟨_, rfl⟩
        rw [unhide hc] at hs1 EC1
        clear hc EC
        have hs2 : Hid (mk 2 = mk 1 + if c = true then 2 else 0) := unhide hs1
        clear hs1 hs q0 q1 q2 q3
        obtain ⟨S, hS⟩ : ∃ S, Hid (mk 1 = S) := ⟨_, rfl⟩
        rw [unhide hS] at hb0 hb1 hs2 ⊢
        have b1 : IntKind.i64.wrap (S + 2) = S + 2 := IntWalk.i64_in _ (by omega)
        obtain ⟨p0, p1⟩ := row2 (new_row wr (.cells #[.int .i64 r, .int .i64 u] 105))
        go_wp2_with fail
        have hb2 := below_two (unhide HB) (al1_below wr (.cells #[.int .i64 r, .int .i64 u] 105))
        go_fit (unhide EC1 _ (fun i hi => (unhide L i hi).next hb2))
        rintro e w2 ⟨rfl, hb3⟩
        have hb4 := hide (below_after hb3 hb2 (Nat.le_refl _))
        clear hb2 hb3
        cases c with
        | false =>
          go_wp2_with fail
          go_roundw
          case rel => exact ⟨2, by omega, by go_num, by rw [unhide hs2]; simp, hb4⟩
          case measure => simp [intOf]
        | true =>
          go_wp2_with fail
          go_roundw
          case rel => exact ⟨2, by omega, by go_num, by rw [unhide hs2]; simp, hb4⟩
          case measure => simp [intOf]
      · rw [unhide q2] at hs1
        have EC1 := hide (unhide EC l d)
        obtain ⟨c, hc⟩ : ∃ c, Hid (coversB N ln pf even (l, d) = c) := ⟨_, rfl⟩
        rw [unhide hc] at hs1 EC1
        clear hc EC
        have hs2 : Hid (mk 3 = mk 2 + if c = true then 4 else 0) := unhide hs1
        clear hs1 hs q0 q1 q2 q3
        obtain ⟨S, hS⟩ : ∃ S, Hid (mk 2 = S) := ⟨_, rfl⟩
        rw [unhide hS] at hb0 hb1 hs2 ⊢
        have b1 : IntKind.i64.wrap (S + 4) = S + 4 := IntWalk.i64_in _ (by omega)
        obtain ⟨p0, p1⟩ := row2 (new_row wr (.cells #[.int .i64 l, .int .i64 d] 105))
        go_wp2_with fail
        have hb2 := below_two (unhide HB) (al1_below wr (.cells #[.int .i64 l, .int .i64 d] 105))
        go_fit (unhide EC1 _ (fun i hi => (unhide L i hi).next hb2))
        rintro e w2 ⟨rfl, hb3⟩
        have hb4 := hide (below_after hb3 hb2 (Nat.le_refl _))
        clear hb2 hb3
        cases c with
        | false =>
          go_wp2_with fail
          go_roundw
          case rel => exact ⟨3, by omega, by go_num, by rw [unhide hs2]; simp, hb4⟩
          case measure => simp [intOf]
        | true =>
          go_wp2_with fail
          go_roundw
          case rel => exact ⟨3, by omega, by go_num, by rw [unhide hs2]; simp, hb4⟩
          case measure => simp [intOf]
      · rw [unhide q3] at hs1
        have EC1 := hide (unhide EC r d)
        obtain ⟨c, hc⟩ : ∃ c, Hid (coversB N ln pf even (r, d) = c) := ⟨_, rfl⟩
        rw [unhide hc] at hs1 EC1
        clear hc EC
        have hs2 : Hid (mk 4 = mk 3 + if c = true then 8 else 0) := unhide hs1
        clear hs1 hs q0 q1 q2 q3
        obtain ⟨S, hS⟩ : ∃ S, Hid (mk 3 = S) := ⟨_, rfl⟩
        rw [unhide hS] at hb0 hb1 hs2 ⊢
        have b1 : IntKind.i64.wrap (S + 8) = S + 8 := IntWalk.i64_in _ (by omega)
        obtain ⟨p0, p1⟩ := row2 (new_row wr (.cells #[.int .i64 r, .int .i64 d] 105))
        go_wp2_with fail
        have hb2 := below_two (unhide HB) (al1_below wr (.cells #[.int .i64 r, .int .i64 d] 105))
        go_fit (unhide EC1 _ (fun i hi => (unhide L i hi).next hb2))
        rintro e w2 ⟨rfl, hb3⟩
        have hb4 := hide (below_after hb3 hb2 (Nat.le_refl _))
        clear hb2 hb3
        cases c with
        | false =>
          go_wp2_with fail
          go_roundw
          case rel => exact ⟨4, by omega, by go_num, by rw [unhide hs2]; simp, hb4⟩
          case measure => simp [intOf]
        | true =>
          go_wp2_with fail
          go_roundw
          case rel => exact ⟨4, by omega, by go_num, by rw [unhide hs2]; simp, hb4⟩
          case measure => simp [intOf]
end Go.Proofs.Ytmomgbnhildpdab

/-
  The program's MaskOf.
-/
namespace Go.Proofs.Ytmomgbnhildpdab
open Go.RowKit
set_option linter.unusedVariables false

theorem put5_oth {u : World} {b q : Nat} {o : Obj} (h : u.heap[q]? = some o) (hne : q ≠ b) (x y z s t : Value) : (((((u.setCell ⟨b, 0, none⟩ x).setCell ⟨b, 1, none⟩ y).setCell ⟨b, 2, none⟩ z).setCell ⟨b, 3, none⟩ s).setCell ⟨b, 4, none⟩ t).heap[q]? = some o :=
  setc_other hne (setc_other hne (setc_other hne (setc_other hne (setc_other hne h))))
/-- A blank mask that is kept in a variable of the caller's. -/
theorem ByS.begin {w w1 w2 : World} {b2 b4 g : Nat} {a b c d : Int} {N : Nat} (R2 : w1.heap[b2]? = some (.cells #[.int .i64 a, .int .i64 b, .int .i64 c, .int .i64 d] 42 (0, 0))) (R4 : w1.heap[b4]? = some (.cells #[.int .i64 0, .int .i64 0, .int .i64 0, .int .i64 0, .slice none 0 0] 44 (0, 0))) (HB : Below w.heap.size w w1)
    (own : ∃ xs, w2.ownsRow g 3 1 (.slice (some ⟨g, 0, none⟩) N N) N xs ∧ IxAt xs (fun _ => 0) N) (hb : Below w1.heap.size w1 w2) :
    ByS w (w2.alloc (.cells #[.int .i64 a, .int .i64 b, .int .i64 c, .int .i64 d, .slice (some ⟨g, 0, none⟩) N N] 44)) b2 b4 w2.heap.size g a b c d N (fun _ => 0) := by
  obtain ⟨xs, o, x⟩ := own
  exact ⟨row_next (al1_below _ _) (row_next hb R2), row_next (al1_below _ _) (row_next hb R4), new_row _ _, ⟨xs, o.alloc _, x⟩, below_new _ (below_two HB hb) (Nat.le_refl _)⟩
/-- It is handed back. -/
theorem ByS.res {w u : World} {b2 b4 b6 g : Nat} {a b c d : Int} {N : Nat} {f : Nat → Int} (h : ByS w u b2 b4 b6 g a b c d N f) (hw : w.heap.size ≤ g) (h4 : w.heap.size ≤ b4) (h5 : b4 ≠ g) {v0 v1 v2 v3 v4 : Value} :
    ∃ p cp, Ending.returned (.agg #[.int .i64 a, .int .i64 b, .int .i64 c, .int .i64 d, .slice (some ⟨g, 0, none⟩) N N]) = .returned (.agg #[.int .i64 a, .int .i64 b, .int .i64 c, .int .i64 d, .slice p N cp]) ∧ IntsV (((((u.setCell ⟨b4, 0, none⟩ v0).setCell ⟨b4, 1, none⟩ v1).setCell ⟨b4, 2, none⟩ v2).setCell ⟨b4, 3, none⟩ v3).setCell ⟨b4, 4, none⟩ v4) w.heap.size (.slice p N cp) N f ∧ Below w.heap.size w (((((u.setCell ⟨b4, 0, none⟩ v0).setCell ⟨b4, 1, none⟩ v1).setCell ⟨b4, 2, none⟩ v2).setCell ⟨b4, 3, none⟩ v3).setCell ⟨b4, 4, none⟩ v4) := by
  obtain ⟨xs, o, x⟩ := h.own
  exact ⟨_, _, rfl, ⟨xs, own_low (own_put5 o (fun k hk => by simp [Value.ownBlock] at hk; omega) _ _ _ _ _) hw, x⟩, below_put5 h.bel h4 _ _ _ _ _⟩
theorem ix_is {xs : List Value} {f : Nat → Int} {n : Nat} (h : IxAt xs f n) (hl : xs.length = n) : xs = (listN f n).map Iv := by
  apply List.ext_getElem?
  intro j
  by_cases hj : j < n
  · rw [h j hj]; simp [listN, hj, Iv]
  · rw [List.getElem?_eq_none (by omega), List.getElem?_eq_none (by simp [listN]; omega)]
theorem maskRes_of {w w' : World} {r : Ending} {a b c d : Int} {n : Nat} {f : Nat → Int} (h : ∃ p cp, r = .returned (.agg #[.int .i64 a, .int .i64 b, .int .i64 c, .int .i64 d, .slice p n cp]) ∧ IntsV w' w.heap.size (.slice p n cp) n f ∧ Below w.heap.size w w') : MaskRes w r w' a b c d n f := by
  obtain ⟨p, cp, h1, ⟨xs, o, x⟩, h3⟩ := h
  refine ⟨p, cp, h1, ?_, h3⟩
  rw [← ix_is x (by have := o.1; omega)]; exact o
theorem row_place {a b c : Int} {W0 : Nat} (hW : (W0 : Int) = c - a) (j : Nat) : (placeI a b c a (b + (j : Int))).toNat = j * W0 := by
  unfold placeI
  rw [show b + (j : Int) - b = (j : Int) by omega, ← hW, ← Int.natCast_mul]; omega
/-- Filled as far as k. -/
def upto (f : Nat → Int) (k i : Nat) : Int := if i < k then f i else 0
theorem upto_more (f : Nat → Int) (k i : Nat) : (if i = k then f k else upto f k i) = upto f (k + 1) i := by
  unfold upto
  by_cases h : i = k
  · subst h; simp
  · by_cases h2 : i < k
    · rw [if_neg h, if_pos h2, if_pos (by omega)]
    · rw [if_neg h, if_neg h2, if_neg (by omega)]
theorem upto_all {f : Nat → Int} {k : Nat} : ∀ i, i < k → upto f k i = f i := fun i hi => if_pos hi
theorem ByS.fill {w u : World} {b2 b4 b6 g : Nat} {a b c d : Int} {N : Nat} {f : Nat → Int} {k : Nat} (h : ByS w u b2 b4 b6 g a b c d N (upto f k)) (hw : w.heap.size ≤ g) (h2 : b2 < g) (h4 : b4 < g) (h6 : b6 < g ∨ g < b6) (hk : k < N) {z : Int} (hz : f k = z) : ByS w (u.setCell ⟨g, k, none⟩ (.int .i64 z)) b2 b4 b6 g a b c d N (upto f (k + 1)) := by
  obtain ⟨xs, o, x⟩ := h.own
  subst hz
  exact ⟨setc_other (by omega) h.box, setc_other (by omega) h.zero, setc_other (by omega) h.row, ⟨_, (o.stored k _).1, ix_congr (ix_set x (by have := o.1; omega)) (fun i _ => upto_more f k i)⟩, h.bel.setCell (p := ⟨g, k, none⟩) hw _⟩

set_option maxHeartbeats 8000000 in
set_option maxRecDepth 100000 in
theorem implMaskOf_any (N : Nat) (ln : Nat → Nat) (pf : Nat → Nat → Pt) (hN : N ≤ 1048576) (hl : ∀ i, i < N → ln i ≤ 1048576) (la : Option Addr) (lc : Nat) (even : Bool) (a b c d : Int) (w : World) (L : ∀ i, i < N → LArg w la i (ln i) (pf i)) :
    Calls Try.prog 34 #[.slice la N lc, .bool even, .agg #[.int .i64 a, .int .i64 b, .int .i64 c, .int .i64 d]] w fun r w' => MaskRes w r w' (boxV (boxInB a b c d) a) (boxV (boxInB a b c d) b) (boxV (boxInB a b c d) c) (boxV (boxInB a b c d) d) (boxK (boxInB a b c d) (sqN a b c d)) (maskF a b c N ln pf even) := by
  have EB := hide (implMaskBoxOk_any a b c d)
  have EM := hide (fun (x y : Int) u L => implMaskAt_any N ln pf hN hl la lc even x y u L)
  have hfm : Hid (∀ i, maskF a b c N ln pf even i = maskP N ln pf even (sqX a c i) (sqY a b c i)) := fun i => rfl
  replace L := hide L
  replace hl := hide hl
  cases hbi : boxInB a b c d with
  | false =>
    rw [hbi] at EB
    show Calls Try.prog 34 #[.slice la N lc, .bool even, .agg #[.int .i64 a, .int .i64 b, .int .i64 c, .int .i64 d]] w fun r w' => MaskRes w r w' 0 0 0 0 0 (maskF a b c N ln pf even)
    generalize maskF a b c N ln pf even = f at hfm ⊢
    clear hbi hfm
    go_enter Try.func34, Try.ntmps34
    go_upto_region 1 with fail
    have R5 := hide (al2_0 w (.cells #[.int .i64 a, .int .i64 b, .int .i64 c, .int .i64 d] 42) (.cells #[.int .i64 0, .int .i64 0, .int .i64 0, .int .i64 0, .slice none 0 0] 44))
    have R6 := hide (al2_1 w (.cells #[.int .i64 a, .int .i64 b, .int .i64 c, .int .i64 d] 42) (.cells #[.int .i64 0, .int .i64 0, .int .i64 0, .int .i64 0, .slice none 0 0] 44))
    have HB := hide (al2_below w (.cells #[.int .i64 a, .int .i64 b, .int .i64 c, .int .i64 d] 42) (.cells #[.int .i64 0, .int .i64 0, .int .i64 0, .int .i64 0, .slice none 0 0] 44))
    generalize (w.alloc (.cells #[.int .i64 a, .int .i64 b, .int .i64 c, .int .i64 d] 42)).alloc (.cells #[.int .i64 0, .int .i64 0, .int .i64 0, .int .i64 0, .slice none 0 0] 44) = W at R5 R6 HB ⊢
    obtain ⟨q0, q1, q2, q3⟩ := row4 (unhide R5)
    go_wp2_with fail
    go_fit (unhide EB _)
    rintro r w1 ⟨rfl, hb⟩
    replace R6 := hide (row_next hb (unhide R6))
    replace HB := hide (below_two (unhide HB) hb)
    clear hb q0 q1 q2 q3
    obtain ⟨e0, e1, e2, e3, e4⟩ := row5m (unhide R6)
    obtain ⟨f0, f1, f2, f3, f4⟩ := frozen5 (unhide R6)
    go_wp2_with fail
    refine bodyPost_ret (v := .agg #[.int .i64 0, .int .i64 0, .int .i64 0, .int .i64 0, .slice none 0 0]) (by simp [results, Try.results34, go_sem, e0, e1, e2, e3, e4]) rfl ?_
    exact mask_none (below_put5 (unhide HB) (by omega) _ _ _ _ _)
  | true =>
  rw [hbi] at EB
  have hb0 := boxIn_iff.1 hbi
  have hsi := sqN_int hbi
  have hsl := (sqN_le hbi).1
  have EN := hide (implBlankMask_any a b c d (sqN a b c d) (IntWalk.i64_in _ (by omega)) (IntWalk.i64_in _ (by omega)) hsi hsl)
  obtain ⟨W0, hW0⟩ : ∃ W0, W0 = wideN a c := ⟨_, rfl⟩
  obtain ⟨H0, hH0⟩ : ∃ H0, H0 = wideN b d := ⟨_, rfl⟩
  have hsq : sqN a b c d = H0 * W0 := by unfold sqN; rw [hW0, hH0, Nat.mul_comm]
  have hWi : (W0 : Int) = c - a := by rw [hW0]; unfold wideN; omega
  have hHi : (H0 : Int) = d - b := by rw [hH0]; unfold wideN; omega
  have ER := hide (fun (j : Nat) (hj : j < H0) (s : Nat) u => implRowOf_any a b c d (b + (j : Int)) a c s 0 (sqN a b c d) (sqN a b c d) hbi (by omega) (by omega) rfl (Nat.le_refl _) u)
  have hrp := hide (fun j => row_place (b := b) hWi j)
  have hcW : (c - a).toNat = W0 := by omega
  rw [hcW] at ER
  show Calls Try.prog 34 #[.slice la N lc, .bool even, .agg #[.int .i64 a, .int .i64 b, .int .i64 c, .int .i64 d]] w fun r w' => MaskRes w r w' a b c d (sqN a b c d) (maskF a b c N ln pf even)
  have hat : Hid (∀ j t : Nat, t < W0 → maskF a b c N ln pf even (j * W0 + t) = maskP N ln pf even (a + (t : Int)) (b + (j : Int))) := fun j t ht => by
    rw [unhide hfm, (sq_at (b := b) hW0 ht).1, (sq_at (b := b) hW0 ht).2]
  have hWl : W0 ≤ 60 := by omega
  have hHl : H0 ≤ 60 := by omega
  generalize maskF a b c N ln pf even = f at hat ⊢
  generalize sqN a b c d = M at EN ER hsq hsi hsl ⊢
  replace hsq := hide hsq
  clear hfm hW0 hH0 hsi hbi hcW
  go_enter Try.func34, Try.ntmps34
  go_upto_region 1 with fail
  have R5 := hide (al2_0 w (.cells #[.int .i64 a, .int .i64 b, .int .i64 c, .int .i64 d] 42) (.cells #[.int .i64 0, .int .i64 0, .int .i64 0, .int .i64 0, .slice none 0 0] 44))
  have R6 := hide (al2_1 w (.cells #[.int .i64 a, .int .i64 b, .int .i64 c, .int .i64 d] 42) (.cells #[.int .i64 0, .int .i64 0, .int .i64 0, .int .i64 0, .slice none 0 0] 44))
  have HB := hide (al2_below w (.cells #[.int .i64 a, .int .i64 b, .int .i64 c, .int .i64 d] 42) (.cells #[.int .i64 0, .int .i64 0, .int .i64 0, .int .i64 0, .slice none 0 0] 44))
  obtain ⟨b6, hb6⟩ : ∃ b, Hid (b = w.heap.size + 1) := ⟨_, rfl⟩
  obtain ⟨b5, hb5⟩ : ∃ b, Hid (b = w.heap.size) := ⟨_, rfl⟩
  have lz : Hid (w.heap.size ≤ b6 ∧ b5 < b6) := by unfold Hid; rw [unhide hb6, unhide hb5]; omega
  rw [← unhide hb6] at R6
  rw [← unhide hb5] at R5
  rw [← unhide hb6, ← unhide hb5]
  generalize (w.alloc (.cells #[.int .i64 a, .int .i64 b, .int .i64 c, .int .i64 d] 42)).alloc (.cells #[.int .i64 0, .int .i64 0, .int .i64 0, .int .i64 0, .slice none 0 0] 44) = W at R5 R6 HB ⊢
  obtain ⟨q0, q1, q2, q3⟩ := row4 (unhide R5)
  go_wp2_with fail
  go_fit (unhide EB _)
  rintro r w1 ⟨rfl, hb⟩
  replace R5 := hide (row_next hb (unhide R5))
  replace R6 := hide (row_next hb (unhide R6))
  replace HB := hide (below_two (unhide HB) hb)
  clear hb q0 q1 q2 q3
  obtain ⟨q0, q1, q2, q3⟩ := row4 (unhide R5)
  go_wp2_with fail
  go_fit (unhide EN _)
  rintro r w2 ⟨g, rfl, hg, own, hb⟩
  have BY := hide (ByS.begin (unhide R5) (unhide R6) (unhide HB) own hb)
  have lo := hide (show w.heap.size ≤ g ∧ b5 < g ∧ b6 < g ∧ g < w2.heap.size by
    have := heap_lt (unhide R5); have := heap_lt (unhide R6); have := (unhide HB).size
    obtain ⟨xs, o, _⟩ := own
    have := (o.lt g rfl).2; omega)
  clear q0 q1 q2 q3 hg own hb R5 R6 HB hb6 hb5
  go_upto_region 4 with fail
  generalize w2.alloc (.cells #[.int .i64 a, .int .i64 b, .int .i64 c, .int .i64 d, .slice (some ⟨g, 0, none⟩) M M] 44) = W3 at BY ⊢
  generalize w2.heap.size = b7 at BY lo ⊢
  obtain ⟨q0, q1, q2, q3⟩ := row4 (unhide BY).box
  go_upto_region 5 with fail
  clear q0 q1 q2 q3
  go_loopw [8] (fun y u => ∃ (j : Nat), j ≤ H0 ∧ y = .int .i64 (b + (j : Int)) ∧ Hid (ByS w u b5 b6 b7 g a b c d M (upto f (j * W0)))) (fun y _ => (d - intOf y).toNat)
  case atStart => exact ⟨0, Nat.zero_le _, congrArg (Value.int .i64) (by omega), (unhide BY).congr (fun i _ => by simp [upto])⟩
  case round =>
    clear BY
    obtain ⟨j, hj, rfl, BY⟩ := hrel
    obtain ⟨q0, q1, q2, q3⟩ := row4 (unhide BY).box
    obtain ⟨s0, s1, s2, s3, s4⟩ := row5m (unhide BY).row
    by_cases hjl : j < H0
    · have hji : b + (j : Int) < d := by omega
      have ER1 := hide (unhide ER j hjl g)
      rw [unhide hrp j] at ER1
      go_wp2_with fail
      go_fit (unhide ER1 _)
      rintro r w5 ⟨rfl, hb⟩
      replace BY := hide ((unhide BY).next hb)
      clear hb q0 q1 q2 q3 s0 s1 s2 s3 s4 ER1
      go_upto_region 9 with fail
      go_loopw [34] (fun x u => ∃ (t : Nat), t ≤ W0 ∧ x = .int .i64 (t : Int) ∧ Hid (ByS w u b5 b6 b7 g a b c d M (upto f (j * W0 + t)))) (fun x _ => W0 - (intOf x).toNat)
      case atStart => exact ⟨0, Nat.zero_le _, rfl, BY⟩
      case round =>
        clear BY
        obtain ⟨t, ht, rfl, BY⟩ := hrel
        by_cases htl : t < W0
        · have hti : (t : Int) < (W0 : Int) := by omega
          obtain ⟨q0, q1, q2, q3⟩ := row4 (unhide BY).box
          have EM1 := hide (fun u (hu : Below w.heap.size w u) => unhide EM (a + (t : Int)) (b + (j : Int)) u (fun i hi => (unhide L i hi).next hu))
          have hz := hide (unhide hat j t htl)
          generalize maskP N ln pf even (a + (t : Int)) (b + (j : Int)) = z at hz EM1
          obtain ⟨k, hkk⟩ : ∃ k, Hid (k = j * W0 + t) := ⟨_, rfl⟩
          have hkM : k < M := by
            rw [unhide hkk, unhide hsq]
            calc j * W0 + t < j * W0 + W0 := by omega
              _ = (j + 1) * W0 := by rw [Nat.succ_mul]
              _ ≤ H0 * W0 := Nat.mul_le_mul_right _ hjl
          rw [← unhide hkk] at BY hz
          have v1 : IntKind.i64.wrap (a + (t : Int)) = a + (t : Int) := IntWalk.i64_in _ (by omega)
          go_wp2_with fail
          go_fit (unhide EM1 _ (unhide BY).bel)
          rintro r w6 ⟨rfl, hb⟩
          replace BY := hide ((unhide BY).next hb)
          clear hb q0 q1 q2 q3
          obtain ⟨g0, g1⟩ := (unhide BY).cell hkM
          rw [unhide hkk] at g0 g1
          go_wp2_with fail
          go_roundw
          case rel => exact ⟨t + 1, by omega, by go_num, by rw [← Nat.add_assoc, ← unhide hkk]; exact (unhide BY).fill (unhide lo).1 (unhide lo).2.1 (unhide lo).2.2.1 (.inr (unhide lo).2.2.2) hkM (unhide hz)⟩
          case measure => simp [intOf]; omega
        · have hte : t = W0 := by omega
          subst hte
          have hti : ¬ (t : Int) < (t : Int) := by omega
          go_wp2_with fail
          go_roundw
          case rel => exact ⟨j + 1, by omega, congrArg (Value.int .i64) (by push_cast; omega), by rw [Nat.succ_mul]; exact BY⟩
          case measure => simp [intOf]; omega
    · have hje : j = H0 := by omega
      subst hje
      have hji : ¬ b + (j : Int) < d := by omega
      obtain ⟨e0, e1, e2, e3, e4⟩ := row5m (unhide BY).zero
      obtain ⟨f0, f1, f2, f3, f4⟩ := frozen5 (unhide BY).zero
      go_wp2_with fail
      refine bodyPost_ret (v := .agg #[.int .i64 a, .int .i64 b, .int .i64 c, .int .i64 d, .slice (some ⟨g, 0, none⟩) M M]) (by simp [results, Try.results34, go_sem, e0, e1, e2, e3, e4]) rfl ?_
      rw [← unhide hsq] at BY
      exact maskRes_of (((unhide BY).congr upto_all).res (unhide lo).1 (unhide lz).1 (by have := unhide lo; omega))
end Go.Proofs.Ytmomgbnhildpdab

/-
  The program's runs: how far a row is alike, the runs of a row, the runs of a mask.
-/
namespace Go.Proofs.Ytmomgbnhildpdab
open Go.RowKit
set_option linter.unusedVariables false

set_option maxHeartbeats 4000000 in
set_option maxRecDepth 100000 in
theorem implAlike_any (v : Nat → Int) (s o l cp e : Nat) (hl : l ≤ 1048576) (h1 : 1 ≤ e) (h2 : e ≤ l) (h3 : ∀ i, i < e → v i = v 0) (h4 : e = l ∨ v e ≠ v 0) (w : World) (P : ∀ i, i < l → w.cell? ⟨s, o + i, none⟩ = some (.int .i64 (v i))) :
    Calls Try.prog 106 #[.slice (some ⟨s, o, none⟩) l cp] w fun r w' => r = .returned (.int .i64 (e : Int)) ∧ w' = w := by
  have g0 := P 0 (by omega)
  rw [Nat.add_zero] at g0
  obtain ⟨z, hz⟩ : ∃ z, Hid (v 0 = z) := ⟨_, rfl⟩
  rw [unhide hz] at g0 h4
  replace P := hide P
  replace h3 := hide h3
  replace h4 := hide h4
  go_enter Try.func106, Try.ntmps106
  go_upto_region 2 with fail
  go_loopw [7] (fun i u => ∃ k : Nat, k ≤ e ∧ i = .int .i64 (k : Int) ∧ u = w) (fun i _ => e - (intOf i).toNat)
  case atStart => exact ⟨0, Nat.zero_le _, rfl, rfl⟩
  case round =>
    obtain ⟨k, hk, rfl, rfl⟩ := hrel
    by_cases hke : k < e
    · have hkl : (k : Int) < (l : Int) := by omega
      have g1 := unhide P k (by omega)
      rw [unhide h3 k hke, unhide hz] at g1
      go_wp2_with fail
      go_roundw
      case rel => exact ⟨k + 1, by omega, by go_num, by trivial⟩
      case measure => simp [intOf]; omega
    · obtain rfl : k = e := by omega
      by_cases hkl : k < l
      · have hki : (k : Int) < (l : Int) := by omega
        have g1 := unhide P k hkl
        have hne : ¬ v k = z := by rcases unhide h4 with h | h; omega; exact h
        obtain ⟨y, hy⟩ : ∃ y, Hid (v k = y) := ⟨_, rfl⟩
        rw [unhide hy] at g1 hne
        have hb : (y == z) = false := beq_eq_false_iff_ne.2 hne
        go_wp2_with fail
        go_ret
        exact ⟨rfl, rfl⟩
      · obtain rfl : k = l := by omega
        have hki : ¬ (k : Int) < (k : Int) := by omega
        go_wp2_with fail
        go_ret
        exact ⟨rfl, rfl⟩

theorem rowR_zeros {g : Nat → Int} {W : Nat} : ∀ (k t : Nat), t + k ≤ W → (∀ i, t ≤ i → i < t + k → g i = 0) → rowR g W t = rowR g W (t + k)
  | 0, t, _, _ => rfl
  | k + 1, t, h1, h2 => by
    rw [rowR_zero (by omega) (h2 t (Nat.le_refl _) (by omega)), rowR_zeros k (t + 1) (by omega) (fun i h3 h4 => h2 i (by omega) (by omega))]
    congr 1; omega
theorem rowplace_at {a b c : Int} {W0 : Nat} (hW : (W0 : Int) = c - a) (j t : Nat) : (placeI a b c (a + (t : Int)) (b + (j : Int))).toNat = j * W0 + t := by
  unfold placeI
  rw [show b + (j : Int) - b = (j : Int) by omega, ← hW, ← Int.natCast_mul]; omega
/-- 'append' of a list of runs of another call's onto one of the call's own. -/
theorem wpList_append_rs {P : Program} {w : World} {ops : Array Oper} {rest : List Oper} {o : Oper} {a : Act} {Q : Exit → Act → World → Prop} (hgd : o.guard = none) (s x : Operand) (t : TypeId)
    (ho : o.op = .call { callee := .builtin .append, args := #[s, x], argTypes := #[t, t] })
    (base : Nat) (i : TypeInfo) (z : Value) (ht : P.underlying t = some (.slice 57)) (hi : P.info? 57 = some i) (hz : i.zero = some z) (hsize : i.size = 4) (hby : i.bytes = 32) (hz1 : z.cells.size = 4)
    (v : Value) (l : List B4) (hs : a.eval s = v) (hown : w.ownsRow base 57 4 v l.length (rsV l))
    (v2 : Value) (base2 : Nat) (l2 : List B4) (hx : a.eval x = v2) (hown2 : w.ownsRow base2 57 4 v2 l2.length (rsV l2))
    (hn : l.length + l2.length ≤ 1048576) (hbase : base ≤ w.heap.size)
    (h : ∀ v' w', w'.ownsRow base 57 4 v' (l ++ l2).length (rsV (l ++ l2)) → Below base w w' → wpList P ops Q rest (a.put o.dst v') w') :
    wpList P ops Q (o :: rest) a w := by
  rcases hown2.2 with ⟨rfl, h0⟩ | ⟨g, cap, cur, rfl, hb, hg, hcap, hmax, hsz, htk⟩
  · obtain rfl : l2 = [] := List.eq_nil_of_length_eq_zero h0
    refine wpList_append_own_none hgd s x t ho base 57 i 4 ht hi v l.length (rsV l) hs hown hx ?_
    exact h v w (by rw [List.append_nil]; exact hown) (Below.refl _ _)
  · refine wpList_append_own w hgd s x t ho base 57 i z 4 32 ht hi hz hsize hby hz1 (by decide) v l.length (rsV l) hs hown ⟨g, 0, none⟩ l2.length cap (rsV l2) hx (rsV_len l2) ?_ ?_ (by unfold maxLen; omega) (by omega) hbase ?_
    · intro j u hj
      have hadd : (⟨g, 0, none⟩ : Addr).add j = ⟨g, j, none⟩ := by unfold Addr.add; split <;> simp_all
      have hjl : j < (rsV l2).length := by
        rcases Nat.lt_or_ge j (rsV l2).length with h | h
        · exact h
        · rw [List.getElem?_eq_none h] at hj; cases hj
      rw [hadd, hown2.cellAt _ (by rw [rsV_len] at hjl; exact hjl), hj]
    · intro u hu
      unfold rsV at hu
      rw [List.mem_flatMap] at hu
      obtain ⟨p, _, hp⟩ := hu
      simp [rnV] at hp
      rcases hp with rfl | rfl | rfl | rfl <;> rfl
    · intro v' w' ho' hg' _
      refine h v' w' ?_ ((Below.refl base w).grown hg' hbase (fun k hk => (hown.lt k hk).1))
      rw [List.length_append, rsV_app]; exact ho'

set_option maxHeartbeats 8000000 in
set_option maxRecDepth 100000 in
theorem implRunsOfRow_any (a b c d : Int) (f : Nat → Int) (s o n cp W0 j : Nat) (hb : boxInB a b c d = true) (hW : (W0 : Int) = c - a) (hj : (j : Int) < d - b) (hn : sqN a b c d = n) (hc : n ≤ cp) (w : World) (P : ∀ i, i < n → IntAt w (some ⟨s, o, none⟩) i (f i)) :
    Calls Try.prog 64 #[.agg #[.int .i64 a, .int .i64 b, .int .i64 c, .int .i64 d, .slice (some ⟨s, o, none⟩) n cp], .int .i64 (b + (j : Int))] w fun r w' => RunsRes w r w' ((rowR (fun i => f (j * W0 + i)) W0 0).map (runOf a (b + (j : Int)))) := by
  obtain ⟨i1, hi1, hz1, hs1, hb1⟩ := info_parts infoRun
  have hb0 := boxIn_iff.1 hb
  have hkn : j * W0 + W0 ≤ n := by
    have hst := stretch (x0 := a) (x1 := c) (y := b + (j : Int)) hb (by omega) (by omega)
    have := row_place (b := b) hW j
    rw [hn] at hst; omega
  have ER := hide (fun (t : Nat) (ht : t < W0) u => implRowOf_any a b c d (b + (j : Int)) (a + (t : Int)) c s o n cp hb (by omega) (by omega) hn hc u)
  have hpl := hide (fun t => rowplace_at (b := b) hW j t)
  obtain ⟨gg, hgg⟩ : ∃ gg : Nat → Int, gg = fun i => f (j * W0 + i) := ⟨_, rfl⟩
  rw [← hgg]
  have EA := hide (fun (t e : Nat) (u : World) (h0 : t < W0) (h1 : 1 ≤ e) (h2 : e ≤ W0 - t) (h3 : ∀ i, i < e → gg (t + i) = gg (t + 0)) (h4 : e = W0 - t ∨ gg (t + e) ≠ gg (t + 0)) (hu : Below w.heap.size w u) => implAlike_any (fun i => gg (t + i)) s (o + (j * W0 + t)) (W0 - t) (W0 - t) e (by omega) h1 h2 h3 h4 u (fun i hi => by
    obtain ⟨s', o', hso, hc'⟩ := (P (j * W0 + t + i) (by omega)).next hu
    cases hso
    rw [hgg]
    simpa [Nat.add_assoc] using hc'))
  have P0 := hide (fun (t : Nat) (u : World) (h0 : t < W0) (hu : Below w.heap.size w u) => (show u.cell? ⟨s, o + (j * W0 + t), none⟩ = some (.int .i64 (gg t)) by
    obtain ⟨s', o', hso, hc'⟩ := (P (j * W0 + t) (by omega)).next hu
    cases hso
    rw [hgg]; exact hc'))
  have hRE := hide (fun (t : Nat) (h0 : t < W0) => runE_spec gg W0 (gg t) W0 (t + 1) (by omega) (by omega))
  have hll : Hid (((rowR gg W0 0).map (runOf a (b + (j : Int)))).length ≤ 60) := by
    unfold Hid; rw [List.length_map]; have := rowR_len gg W0 W0 0 (by omega); omega
  obtain ⟨NX, hNX⟩ : ∃ NX, Hid (NX = (rowR gg W0 0).map (runOf a (b + (j : Int)))) := ⟨_, rfl⟩
  rw [← unhide hNX] at hll ⊢
  clear P hgg hkn hn hc hj
  replace hNX : Hid (NX = [] ++ (rowR gg W0 0).map (runOf a (b + (j : Int)))) := by unfold Hid; rw [List.nil_append]; exact unhide hNX
  go_enter Try.func64, Try.ntmps64
  go_upto_region 2 with fail
  have R1 := hide (al2_0 w (.cells #[.int .i64 a, .int .i64 b, .int .i64 c, .int .i64 d, .slice (some ⟨s, o, none⟩) n cp] 44) (.cells #[] 57))
  have HB := hide (al2_below w (.cells #[.int .i64 a, .int .i64 b, .int .i64 c, .int .i64 d, .slice (some ⟨s, o, none⟩) n cp] 44) (.cells #[] 57))
  have O := hide (show ((w.alloc (.cells #[.int .i64 a, .int .i64 b, .int .i64 c, .int .i64 d, .slice (some ⟨s, o, none⟩) n cp] 44)).alloc (.cells #[] 57)).ownsRow (w.heap.size + 1) 57 4 (.slice (some ⟨w.heap.size + 1, 0, none⟩) 0 0) ([] : List B4).length (rsV []) by
    have h := World.ownsRow_lit (base := w.heap.size + 1) (e := 57) (size := 4) (w.alloc (.cells #[.int .i64 a, .int .i64 b, .int .i64 c, .int .i64 d, .slice (some ⟨s, o, none⟩) n cp] 44)) #[] 0 (by rw [al1_size]; exact Nat.le_refl _) (by decide) rfl
    rw [al1_size] at h
    exact h)
  obtain ⟨b3, hb3⟩ : ∃ b, Hid (b = w.heap.size + 1) := ⟨_, rfl⟩
  obtain ⟨b1, hb1'⟩ : ∃ b, Hid (b = w.heap.size) := ⟨_, rfl⟩
  rw [← unhide hb3] at O
  rw [← unhide hb1'] at R1
  rw [← unhide hb3, ← unhide hb1']
  generalize (w.alloc (.cells #[.int .i64 a, .int .i64 b, .int .i64 c, .int .i64 d, .slice (some ⟨s, o, none⟩) n cp] 44)).alloc (.cells #[] 57) = W at R1 HB O ⊢
  have lb : Hid (w.heap.size ≤ b3 ∧ b1 < b3) := by unfold Hid; rw [unhide hb3, unhide hb1']; omega
  have lbb : Hid (b3 = b1 + 1) := by unfold Hid; rw [unhide hb3, unhide hb1']
  clear hb3 hb1'
  obtain ⟨q0, q1, q2, q3, q4⟩ := row5m (unhide R1)
  go_upto_region 3 with fail
  clear q0 q1 q2 q3 q4
  go_loopw [5, 6] (fun v x u => ∃ (t : Nat) (M : List B4) (pp : Option Addr) (cq : Nat), t ≤ W0 ∧ x = .int .i64 (a + (t : Int)) ∧ v = .slice pp M.length cq ∧ Hid (NX = M ++ (rowR gg W0 t).map (runOf a (b + (j : Int)))) ∧ Hid (u.ownsRow b3 57 4 (.slice pp M.length cq) M.length (rsV M)) ∧ Hid (u.heap[b1]? = some (.cells #[.int .i64 a, .int .i64 b, .int .i64 c, .int .i64 d, .slice (some ⟨s, o, none⟩) n cp] 44 (0, 0))) ∧ Hid (Below w.heap.size w u)) (fun _ x _ => (c - intOf x).toNat)
  case atStart => exact ⟨0, [], _, _, Nat.zero_le _, by simp, rfl, hNX, O, R1, HB⟩
  case round =>
    clear O R1 HB hNX
    obtain ⟨t, M, pp, cq, ht, rfl, rfl, hM, O, R1, HB⟩ := hrel
    obtain ⟨q0, q1, q2, q3, q4⟩ := row5m (unhide R1)
    by_cases hlt : t < W0
    · have hti : a + (t : Int) < c := by omega
      have ER1 := hide (unhide ER t hlt)
      rw [unhide hpl t, show (c - (a + (t : Int))).toNat = W0 - t by omega] at ER1
      obtain ⟨r1, r2, r3, r4⟩ := unhide hRE t hlt
      generalize runE gg W0 (gg t) W0 (t + 1) = e at r1 r2 r3 r4
      have r3' : Hid (∀ i, t ≤ i → i < e → gg i = gg t) := fun i h1 h2 => by
        by_cases hie : i = t
        · rw [hie]
        · exact r3 i (by omega) h2
      have EA1 := hide (fun u hu => unhide EA t (e - t) u hlt (by omega) (by omega) (fun i hi => by rw [Nat.add_zero]; exact unhide r3' (t + i) (by omega) (by omega)) (by rw [Nat.add_zero, show t + (e - t) = e by omega]; rcases r4 with h | h; exact .inl (by omega); exact .inr h) hu)
      replace r4 := hide r4
      clear r3
      go_wp2_with fail
      go_fit (unhide ER1 _)
      rintro r w2 ⟨rfl, hb⟩
      replace R1 := hide (row_next hb (unhide R1))
      replace O := hide (own_below (unhide O) hb)
      replace HB := hide (below_two (unhide HB) hb)
      clear hb q0 q1 q2 q3 q4 ER1
      have g0 := unhide P0 t w2 hlt (unhide HB)
      obtain ⟨k, hk⟩ : ∃ k, Hid (k = j * W0 + t) := ⟨_, rfl⟩
      rw [← unhide hk] at EA1 g0 ⊢
      go_wp2_with fail
      go_fit (unhide EA1 _ (unhide HB))
      rintro r w3 ⟨rfl, rfl⟩
      have we : IntKind.i64.wrap (a + (t : Int) + ((e - t : Nat) : Int)) = a + (e : Int) := by
        rw [show a + (t : Int) + ((e - t : Nat) : Int) = a + (e : Int) by omega]; exact IntWalk.i64_in _ (by omega)
      have hl0 : 0 < W0 - t := by omega
      obtain ⟨z, hz⟩ : ∃ z, Hid (gg t = z) := ⟨_, rfl⟩
      rw [unhide hz] at g0 r3' r4
      clear EA1
      by_cases hz0 : z = 0
      · subst hz0
        have hM2 : Hid (NX = M ++ (rowR gg W0 e).map (runOf a (b + (j : Int)))) := by
          unfold Hid; rw [unhide hM, rowR_zeros (e - t) t (by omega) (fun i h1 h2 => unhide r3' i h1 (by omega)), show t + (e - t) = e by omega]
        go_wp2_with fail
        go_roundw
        case rel => exact ⟨e, M, pp, cq, r2, rfl, rfl, hM2, O, R1, HB⟩
        case measure => simp [intOf]; omega
      · have hzb : (z == 0) = false := beq_eq_false_iff_ne.2 hz0
        have hMM : Hid (NX = (M ++ [(⟨b + (j : Int), a + (t : Int), a + (e : Int), z⟩ : B4)]) ++ (rowR gg W0 e).map (runOf a (b + (j : Int)))) := by
          unfold Hid; rw [unhide hM, rowR_run (by omega) r2 hz0 (unhide r3') (unhide r4)]; simp [runOf]
        have hlm : Hid (M.length ≤ 1048576) := by
          have h1 := unhide hll
          rw [unhide hMM] at h1
          simp only [List.length_append, List.length_cons, List.length_nil] at h1
          unfold Hid; omega
        have hsz := hide (show b3 ≤ w3.heap.size by have h1 := heap_lt (unhide R1); have h2 := unhide lbb; omega)
        go_wp2_with (at_builtin; go_must (refine wpList_append_rn w3 rfl _ _ 52 rfl b3 i1 (.agg #[.int .i64 0, .int .i64 0, .int .i64 0, .int .i64 0]) Try.underlying52 hi1 hz1 hs1 hb1 rfl _ M (by rfl) (unhide O) (b + (j : Int)) (a + (t : Int)) (a + (e : Int)) z 1 rfl (unhide hlm) (unhide hsz) ?_); intro v4 w4 hown4 hb4)
        have R4 := hide ((hb4.block b1 (unhide lb).2).trans (unhide R1))
        have B4' := hide ((unhide HB).trans (hb4.mono (unhide lb).1))
        obtain ⟨pp4, cq4, rfl⟩ := own_form hown4
        replace hown4 := hide hown4
        clear hb4
        go_wp2_with fail
        go_roundw
        case rel => exact ⟨e, _, pp4, cq4, r2, rfl, rfl, hMM, hown4, R4, B4'⟩
        case measure => simp [intOf]; omega
    · obtain rfl : t = W0 := by omega
      have hti : ¬ a + (t : Int) < c := by omega
      have hX : Hid (NX = M) := by unfold Hid; rw [unhide hM, rowR_end (Nat.le_refl _)]; simp
      go_wp2_with fail
      go_ret
      rw [unhide hX]
      exact ⟨_, rfl, own_low (unhide O) (unhide lb).1, unhide HB⟩

set_option maxHeartbeats 8000000 in
set_option maxRecDepth 100000 in
theorem implRunsOf_any (a b c d : Int) (f : Nat → Int) (ao : Option Addr) (n cp : Nat) (hn : n ≤ 1048576) (hc : n ≤ cp) (w : World) (P : ∀ i, i < n → IntAt w ao i (f i)) :
    Calls Try.prog 25 #[.agg #[.int .i64 a, .int .i64 b, .int .i64 c, .int .i64 d, .slice ao n cp]] w fun r w' => RunsRes w r w' (runsM a b c d n f) := by
  obtain ⟨i1, hi1, hz1, hs1, hb1⟩ := info_parts infoRun
  have EM := hide (fun u (hu : Below w.heap.size w u) => implMaskOk_any a b c d f ao n cp hn u (fun i hi => (P i hi).next hu))
  have hR : Hid (runsM a b c d n f = if maskOkB a b c d n f = true then runsL a b c d f else []) := rfl
  have hK : Hid (maskOkB a b c d n f = true → MOk a b c d n f) := fun h => maskOk_iff.1 h
  generalize maskOkB a b c d n f = mo at EM hR hK
  obtain ⟨L, hL⟩ : ∃ L, Hid (runsM a b c d n f = L) := ⟨_, rfl⟩
  rw [unhide hL] at hR ⊢
  replace P := hide P
  go_enter Try.func25, Try.ntmps25
  go_upto_region 2 with fail
  have R1 := hide (al2_0 w (.cells #[.int .i64 a, .int .i64 b, .int .i64 c, .int .i64 d, .slice ao n cp] 44) (.cells #[] 57))
  have HB := hide (al2_below w (.cells #[.int .i64 a, .int .i64 b, .int .i64 c, .int .i64 d, .slice ao n cp] 44) (.cells #[] 57))
  have O := hide (show ((w.alloc (.cells #[.int .i64 a, .int .i64 b, .int .i64 c, .int .i64 d, .slice ao n cp] 44)).alloc (.cells #[] 57)).ownsRow (w.heap.size + 1) 57 4 (.slice (some ⟨w.heap.size + 1, 0, none⟩) 0 0) ([] : List B4).length (rsV []) by
    have h := World.ownsRow_lit (base := w.heap.size + 1) (e := 57) (size := 4) (w.alloc (.cells #[.int .i64 a, .int .i64 b, .int .i64 c, .int .i64 d, .slice ao n cp] 44)) #[] 0 (by rw [al1_size]; exact Nat.le_refl _) (by decide) rfl
    rw [al1_size] at h
    exact h)
  obtain ⟨b3, hb3⟩ : ∃ b, Hid (b = w.heap.size + 1) := ⟨_, rfl⟩
  obtain ⟨b1, hb1'⟩ : ∃ b, Hid (b = w.heap.size) := ⟨_, rfl⟩
  rw [← unhide hb3] at O
  rw [← unhide hb1'] at R1
  rw [← unhide hb3, ← unhide hb1']
  generalize (w.alloc (.cells #[.int .i64 a, .int .i64 b, .int .i64 c, .int .i64 d, .slice ao n cp] 44)).alloc (.cells #[] 57) = W at R1 HB O ⊢
  have lb : Hid (w.heap.size ≤ b3 ∧ b1 < b3) := by unfold Hid; rw [unhide hb3, unhide hb1']; omega
  have lbb : Hid (b3 = b1 + 1) := by unfold Hid; rw [unhide hb3, unhide hb1']
  clear hb3 hb1'
  obtain ⟨q0, q1, q2, q3, q4⟩ := row5m (unhide R1)
  go_wp2_with fail
  go_fit (unhide EM _ (unhide HB))
  rintro r w1 ⟨rfl, hb⟩
  replace R1 := hide (row_next hb (unhide R1))
  replace O := hide (own_below (unhide O) hb)
  replace HB := hide (below_two (unhide HB) hb)
  clear hb q0 q1 q2 q3 q4 EM
  cases mo with
  | false =>
    have hL0 : Hid (L = []) := by unfold Hid; rw [unhide hR]; simp
    go_wp2_with fail
    go_ret
    rw [unhide hL0]
    exact ⟨_, rfl, own_low (unhide O) (unhide lb).1, unhide HB⟩
  | true =>
  have hM := hide (unhide hK (by trivial))
  obtain ⟨W0, hW0⟩ : ∃ W0, W0 = wideN a c := ⟨_, rfl⟩
  obtain ⟨H0, hH0⟩ : ∃ H0, H0 = wideN b d := ⟨_, rfl⟩
  have hbx' : a ≤ c ∧ b ≤ d ∧ -2000 ≤ a ∧ -2000 ≤ b ∧ c ≤ 2000 ∧ d ≤ 2000 ∧ c - a ≤ 60 ∧ d - b ≤ 60 := by
    rcases unhide hM with ⟨_, rfl, rfl, rfl, rfl⟩ | ⟨_, h, _⟩
    · omega
    · rw [boxIn_iff] at h; omega
  have hWi : (W0 : Int) = c - a := by rw [hW0]; unfold wideN; omega
  have hHi : (H0 : Int) = d - b := by rw [hH0]; unfold wideN; omega
  have hL1 : Hid (L = runsN a b W0 f H0) := by
    unfold Hid; rw [unhide hR, hW0, hH0]; simp [runsL]
  have hbox : Hid (∀ j, j < H0 → boxInB a b c d = true ∧ sqN a b c d = n ∧ ∃ s o, ao = some ⟨s, o, none⟩) := fun j hj => by
    rcases unhide hM with ⟨_, rfl, rfl, rfl, rfl⟩ | ⟨h0, h, h2, _⟩
    · omega
    · obtain ⟨s, o, hso, _⟩ := unhide P 0 h0
      exact ⟨h, h2.symm, s, o, hso⟩
  have hWl : W0 ≤ 60 := by omega
  have hHl : H0 ≤ 60 := by omega
  clear hR hW0 hH0 hL hM hK
  obtain ⟨q0, q1, q2, q3, q4⟩ := row5m (unhide R1)
  go_upto_region 5 with fail
  clear q0 q1 q2 q3 q4
  go_loopw [3, 4] (fun v y u => ∃ (j : Nat) (pp : Option Addr) (cq : Nat), j ≤ H0 ∧ y = .int .i64 (b + (j : Int)) ∧ v = .slice pp (runsN a b W0 f j).length cq ∧ Hid (u.ownsRow b3 57 4 (.slice pp (runsN a b W0 f j).length cq) (runsN a b W0 f j).length (rsV (runsN a b W0 f j))) ∧ Hid (u.heap[b1]? = some (.cells #[.int .i64 a, .int .i64 b, .int .i64 c, .int .i64 d, .slice ao n cp] 44 (0, 0))) ∧ Hid (Below w.heap.size w u)) (fun _ y _ => (d - intOf y).toNat)
  case atStart => exact ⟨0, _, _, Nat.zero_le _, by simp, rfl, O, R1, HB⟩
  case round =>
    clear O R1 HB
    obtain ⟨j, pp, cq, hj, rfl, rfl, O, R1, HB⟩ := hrel
    obtain ⟨q0, q1, q2, q3, q4⟩ := row5m (unhide R1)
    by_cases hlt : j < H0
    · have hji : b + (j : Int) < d := by omega
      obtain ⟨bi, sq, s, o, rfl⟩ := unhide hbox j hlt
      have ER := hide (fun u (hu : Below w.heap.size w u) => implRunsOfRow_any a b c d f s o n cp W0 j bi hWi (by omega) sq hc u (fun i hi => (unhide P i hi).next hu))
      have hnx : Hid (runsN a b W0 f (j + 1) = runsN a b W0 f j ++ (rowR (fun i => f (j * W0 + i)) W0 0).map (runOf a (b + (j : Int)))) := rfl
      have hlen : Hid ((runsN a b W0 f (j + 1)).length ≤ 3600) := by
        have := runsN_len a b W0 f (j + 1)
        have : W0 * (j + 1) ≤ 60 * 60 := Nat.mul_le_mul hWl (by omega)
        unfold Hid; omega
      have wj : IntKind.i64.wrap (b + (j : Int) + 1) = b + (j : Int) + 1 := IntWalk.i64_in _ (by omega)
      generalize (rowR (fun i => f (j * W0 + i)) W0 0).map (runOf a (b + (j : Int))) = L2 at ER hnx
      obtain ⟨L1, hL1'⟩ : ∃ L1, Hid (L1 = runsN a b W0 f j) := ⟨_, rfl⟩
      rw [← unhide hL1'] at hnx O ⊢
      clear bi sq
      go_wp2_with fail
      go_fit (unhide ER _ (unhide HB))
      rintro r w2 ⟨v2, rfl, O2, hb⟩
      have hsz := hide (show b3 ≤ wr.heap.size by have h1 := heap_lt (unhide R1); have h2 := unhide lbb; omega)
      replace R1 := hide (row_next hb (unhide R1))
      replace O := hide (own_below (unhide O) hb)
      replace HB := hide (below_two (unhide HB) hb)
      have hsz2 := hide (Nat.le_trans (unhide hsz) hb.size)
      have hl12 : Hid (L1.length + L2.length ≤ 1048576) := by
        have h1 := unhide hlen
        rw [unhide hnx, List.length_append] at h1
        unfold Hid; omega
      obtain ⟨p2, c2, rfl⟩ := own_form O2
      replace O2 := hide O2
      clear hb q0 q1 q2 q3 q4 ER
      go_wp2_with (at_builtin; go_must (refine wpList_append_rs rfl _ _ 52 rfl b3 i1 (.agg #[.int .i64 0, .int .i64 0, .int .i64 0, .int .i64 0]) Try.underlying52 hi1 hz1 hs1 hb1 rfl _ L1 (by rfl) (unhide O) _ _ L2 (by rfl) (unhide O2) (unhide hl12) (unhide hsz2) ?_); intro v4 w4 hown4 hb4)
      have R4 := hide ((hb4.block b1 (unhide lb).2).trans (unhide R1))
      have B4' := hide ((unhide HB).trans (hb4.mono (unhide lb).1))
      obtain ⟨pp4, cq4, rfl⟩ := own_form hown4
      replace hown4 := hide hown4
      clear hb4
      go_wp2_with fail
      go_roundw
      case rel => exact ⟨j + 1, pp4, cq4, by omega, congrArg (Value.int .i64) (by push_cast; omega), by rw [unhide hnx], by rw [unhide hnx]; exact hown4, R4, B4'⟩
      case measure => simp [intOf]; omega
    · obtain rfl : j = H0 := by omega
      have hji : ¬ b + (j : Int) < d := by omega
      go_wp2_with fail
      go_ret
      rw [unhide hL1]
      exact ⟨_, rfl, own_low (unhide O) (unhide lb).1, unhide HB⟩
end Go.Proofs.Ytmomgbnhildpdab
