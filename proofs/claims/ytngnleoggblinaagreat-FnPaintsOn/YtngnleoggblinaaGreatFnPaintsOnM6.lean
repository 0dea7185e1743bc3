/-
  DrawSu · DrawP · Quot · PaintOnL · PaintI · BlendI · BoxI · SurfI · SurfE · SurfH · SurfY · ModeI: texts of one claim, in one.
-/
import Derived.Test.YtngnleoggblinaaGreatFnPaintsOnM4
import Derived.Test.YtngnleoggblinaaGreatFnPaintsOnM5
import Derived.Deep.RegionLaw
import Derived.Test.YtngnleoggblinaaGreatFnPaintsOnM2
import Derived.Test.YtngnleoggblinaaGreatFnPaintsOnM1
import Derived.Deep.DeepFit
import Derived.Deep.DeepCutAuto
import Derived.Laws.EntriesVeiled
import Derived.Deep.RegionHeld3
import Derived.BigQuiet

/-
  A drawn surface: l14Surface, DrawRightSurface. (By drawsurf.py.)
-/
namespace Go.Proofs.YtngnleoggblinaaGreat
open Go.RowKit
set_option linter.unusedVariables false

/-- A right surface that a call owns. -/
def OneSurf (w : World) (r : Ending) (w' : World) : Prop :=
  ∃ (x y : Int) (p : Option Addr) (n cp : Nat) (f : Nat → B4), r = .returned (.agg #[.int .i64 x, .int .i64 y, .slice p n cp]) ∧ ColsV w' w.heap.size (.slice p n cp) n f ∧ SOk x y n f
/-- The drawn surface under way: its colours lie in block gg. -/
structure LS (w u : World) (g B : Nat) (a : Option Addr) (len cap b2 b3 : Nat) (x y : Int) (gg n ca : Nat) (f : Nat → B4) : Prop where
  ds : DS w u g B a len cap
  zero : u.heap[b2]? = some (.cells #[.int .i64 0, .int .i64 0, .slice none 0 0] 26 (0, 0))
  row : u.heap[b3]? = some (.cells #[.int .i64 x, .int .i64 y, .slice (some ⟨gg, 0, none⟩) n ca] 26 (0, 0))
  own : ColsV u w.heap.size (.slice (some ⟨gg, 0, none⟩) n ca) n f
  ok : SOk x y n f
  lo : w.heap.size ≤ b2 ∧ w.heap.size ≤ b3 ∧ b2 ≠ b3 ∧ gg ≠ b2 ∧ gg ≠ b3
theorem LS.calls {w u : World} {g B : Nat} {a : Option Addr} {len cap b2 b3 : Nat} {x y : Int} {gg n ca : Nat} {f : Nat → B4} {v : World} (h : LS w u g B a len cap b2 b3 x y gg n ca f) (hb : Below u.heap.size u v) : LS w v g B a len cap b2 b3 x y gg n ca f :=
  ⟨h.ds.calls hb, row_next hb h.zero, row_next hb h.row, h.own.next hb, h.ok, h.lo⟩
theorem LS.drew {w u : World} {g B : Nat} {a : Option Addr} {len cap b2 b3 : Nat} {x y : Int} {gg n ca : Nat} {f : Nat → B4} (h : LS w u g B a len cap b2 b3 x y gg n ca f) : LS w u.drew g B a len cap b2 b3 x y gg n ca f := h.calls (Below.refl _ _).drew
theorem cols_draw {w u v : World} {g B : Nat} {a : Option Addr} {len cap n : Nat} {val : Value} {f : Nat → B4} (d : DS w u g B a len cap) (h : ColsV u w.heap.size val n f) (hg : u.grownBy v (some g)) : ColsV v w.heap.size val n f :=
  h.kept hg (.inr (fun e => by have h1 := (h.lt _ e).1; have h2 := d.lt; omega))
theorem ints_draw {w u v : World} {g B : Nat} {a : Option Addr} {len cap n : Nat} {val : Value} {f : Nat → Int} (d : DS w u g B a len cap) (h : IntsV u w.heap.size val n f) (hg : u.grownBy v (some g)) : IntsV v w.heap.size val n f :=
  h.kept hg (.inr (fun e => by have h1 := (h.lt _ e).1; have h2 := d.lt; omega))
theorem LS.draw {w u : World} {g B : Nat} {a : Option Addr} {len cap b2 b3 : Nat} {x y : Int} {gg n ca : Nat} {f : Nat → B4} {v : World} (h : LS w u g B a len cap b2 b3 x y gg n ca f) (hd : DS w v g B a len cap) (hg : u.grownBy v (some g)) : LS w v g B a len cap b2 b3 x y gg n ca f :=
  ⟨hd, h.ds.heap hg h.lo.1 h.zero, h.ds.heap hg h.lo.2.1 h.row, cols_draw h.ds h.own hg, h.ok, h.lo⟩
theorem LS.store {w u : World} {g B : Nat} {a : Option Addr} {len cap b2 b3 : Nat} {x y : Int} {gg n ca : Nat} {f : Nat → B4} {base gg' ca' : Nat} {F : Nat → B4} (h : LS w u g B a len cap b2 b3 x y gg n ca f) (o : ColsV u base (.slice (some ⟨gg', 0, none⟩) n ca') n F) (hw : w.heap.size ≤ base) (h2 : b2 < base) (h3 : b3 < base) (hok : SOk x y n F) :
    LS w (((u.setCell ⟨b3, 0, none⟩ (.int .i64 x)).setCell ⟨b3, 1, none⟩ (.int .i64 y)).setCell ⟨b3, 2, none⟩ (.slice (some ⟨gg', 0, none⟩) n ca')) g B a len cap b2 b3 x y gg' n ca' F := by
  have lo := h.lo
  have hl := (o.lt gg' rfl).1
  exact ⟨((h.ds.put 0 _ lo.2.1).put 1 _ lo.2.1).put 2 _ lo.2.1, setc_other lo.2.2.1 (setc_other lo.2.2.1 (setc_other lo.2.2.1 h.zero)), set3_2 (set3_1 (set3_0 h.row)), (o.low hw).put3 (o.notOld h3), hok, lo.1, lo.2.1, lo.2.2.1, by omega, by omega⟩
theorem LS.res {w u : World} {g B : Nat} {a : Option Addr} {len cap b2 b3 : Nat} {x y : Int} {gg n ca : Nat} {f : Nat → B4} (h : LS w u g B a len cap b2 b3 x y gg n ca f) {v0 v1 v2 : Value} : OneSurf w (.returned (.agg #[.int .i64 x, .int .i64 y, .slice (some ⟨gg, 0, none⟩) n ca])) (((u.setCell ⟨b2, 0, none⟩ v0).setCell ⟨b2, 1, none⟩ v1).setCell ⟨b2, 2, none⟩ v2) ∧ DS w (((u.setCell ⟨b2, 0, none⟩ v0).setCell ⟨b2, 1, none⟩ v1).setCell ⟨b2, 2, none⟩ v2) g B a len cap :=
  ⟨⟨x, y, _, n, ca, f, rfl, h.own.put3 (fun e => h.lo.2.2.2.1 (Option.some.inj e).symm), h.ok⟩, ((h.ds.put 0 _ h.lo.1).put 1 _ h.lo.1).put 2 _ h.lo.1⟩
/-- The list of fades. -/
def Four (w u : World) (b : Nat) : Prop := w.heap.size ≤ b ∧ u.heap[b]? = some (.cells #[.int .i64 255, .int .i64 255, .int .i64 100, .int .i64 0] 3 (0, 0))
theorem Four.draw {w u v : World} {g B b : Nat} {a : Option Addr} {len cap : Nat} (h : Four w u b) (d : DS w u g B a len cap) (hg : u.grownBy v (some g)) : Four w v b := ⟨h.1, d.heap hg h.1 h.2⟩
theorem Four.fresh {w u : World} {g B : Nat} {a : Option Addr} {len cap : Nat} (d : DS w u g B a len cap) : Four w (u.alloc (.cells #[.int .i64 255, .int .i64 255, .int .i64 100, .int .i64 0] 3)) u.heap.size := ⟨d.size, new_row _ _⟩
theorem fades4_any {w u : World} {g B : Nat} {a : Option Addr} {len cap b : Nat} (d : DS w u g B a len cap) (hl : len ≤ 1048576) (h : Four w u b) :
    Calls Tryz.prog 55 #[.pointer (some ⟨g, 0, none⟩), .slice (some ⟨b, 0, none⟩) 4 4] u fun e v => ∃ z : Int, e = .returned (.int .i64 z) ∧ DS w v g B a len cap ∧ u.grownBy v (some g) := by
  refine (pickQ_ds (fun _ => True) d hl b 4 (by omega) (by omega) h.1 (heap_lt h.2) ?_).mono ?_
  · intro j hj
    have h2 := h.2
    have h5 : j = 0 ∨ j = 1 ∨ j = 2 ∨ j = 3 := by omega
    rcases h5 with rfl | rfl | rfl | rfl
    · exact ⟨255, trivial, by simp [World.cell?, h2]⟩
    · exact ⟨255, trivial, by simp [World.cell?, h2]⟩
    · exact ⟨100, trivial, by simp [World.cell?, h2]⟩
    · exact ⟨0, trivial, by simp [World.cell?, h2]⟩
  · rintro e v ⟨z, _, he, hd, hg⟩
    exact ⟨z, he, hd, hg⟩
theorem MOk.few {a b c d : Int} {n : Nat} {F : Nat → Int} (h : MOk a b c d n F) : n ≤ 1048576 := by
  rcases h with ⟨_, _, _, _, rfl⟩ | ⟨h1, hb, hn, _⟩
  · omega
  · rw [hn]; exact Nat.le_trans (sqN_le hb).1 (by omega)
theorem surfNew_right (x y : Int) (hx : 1 ≤ x ∧ x ≤ 12) (hy : 1 ≤ y ∧ y ≤ 12) (w : World) :
    Calls Tryz.prog 53 #[.int .i64 x, .int .i64 y] w fun r w' => ∃ gg n ca : Nat, r = .returned (.tuple #[.agg #[.int .i64 x, .int .i64 y, .slice (some ⟨gg, 0, none⟩) n ca], .bool true]) ∧ ColsV w' w.heap.size (.slice (some ⟨gg, 0, none⟩) n ca) n (fun _ => clear4) ∧ SOk x y n (fun _ => clear4) ∧ Below w.heap.size w w' := by
  have hok : newOkB x y = true := newOk_iff.2 ⟨hx, hy⟩
  have hs := new_ok hok
  have e1 : newX x y = x := if_pos hok
  have e2 : newY x y = y := if_pos hok
  refine (specSurfaceNew_any x y w).mono ?_
  rintro r w' ⟨p, cp, rfl, ho, hb⟩
  rw [e1, e2] at hs
  rw [e1, e2, hok]
  obtain ⟨gg, ca, e, _, _⟩ := own_at ho.choose_spec.1 (by have := hs.le; omega)
  cases e
  exact ⟨gg, newN x y, cp, rfl, ho, hs, hb⟩

set_option maxHeartbeats 16000000 in
set_option maxRecDepth 100000 in
theorem l14Surface_any (g B : Nat) (a : Option Addr) (len cap : Nat) (w : World) (hl : len ≤ 1048576) (h : DS w w g B a len cap) :
    Calls Tryz.prog 19 #[.pointer (some ⟨g, 0, none⟩)] w fun r w' => OneSurf w r w' ∧ DS w w' g B a len cap := by
  have D0 := hide h
  clear h
  go_enter Tryz.func19, Tryz.ntmps19
  go_upto_region 1 with fail
  have R2 := hide (new_row w (.cells #[.int .i64 0, .int .i64 0, .slice none 0 0] 26))
  have D1 := hide ((unhide D0).alloc (.cells #[.int .i64 0, .int .i64 0, .slice none 0 0] 26))
  obtain ⟨b2, hb2⟩ : ∃ b, Hid (b = w.heap.size) := ⟨_, rfl⟩
  rw [← unhide hb2] at R2
  rw [← unhide hb2]
  generalize w.alloc (.cells #[.int .i64 0, .int .i64 0, .slice none 0 0] 26) = W at R2 D1 ⊢
  have l2 : Hid (w.heap.size ≤ b2) := by unfold Hid; rw [unhide hb2]; exact Nat.le_refl _
  clear hb2 D0
  go_wp2_with fail
  go_fit (draw_any (unhide D1) hl 7 (by omega) (by omega))
  rintro r w1 ⟨n0, hn0, rfl, d2, g2⟩
  replace R2 := hide ((unhide D1).heap g2 (unhide l2) (unhide R2))
  replace D1 := hide d2
  clear d2 g2
  go_wp2_with fail
  go_fit (draw_any (unhide D1) hl 7 (by omega) (by omega))
  rintro r w2 ⟨n1, hn1, rfl, d2, g2⟩
  replace R2 := hide ((unhide D1).heap g2 (unhide l2) (unhide R2))
  replace D1 := hide d2
  clear d2 g2
  go_wp2_with fail
  obtain ⟨x, hx⟩ : ∃ x : Int, 1 + (n0 : Int) = x := ⟨_, rfl⟩
  obtain ⟨y, hy⟩ : ∃ y : Int, 1 + (n1 : Int) = y := ⟨_, rfl⟩
  rw [hx, hy]
  go_fit (surfNew_right x y (by omega) (by omega) _)
  rintro r w3 ⟨gh, n, cb, rfl, hO, hok, hb⟩
  have LSx := hide (show LS w (w3.alloc (.cells #[.int .i64 x, .int .i64 y, .slice (some ⟨gh, 0, none⟩) n cb] 26)) g B a len cap b2 w3.heap.size x y gh n cb (fun _ => clear4) from by
    have l := hO.lt gh rfl
    have k2 := heap_lt (unhide R2)
    have k3 := hb.size
    exact ⟨((unhide D1).calls hb).alloc _, row_next (al1_below _ _) (row_next hb (unhide R2)), new_row _ _, (hO.low (unhide D1).size).next (al1_below _ _), hok, unhide l2, Nat.le_trans (unhide D1).size hb.size, by omega, by omega, by omega⟩)
  have hn : n ≤ 1048576 := by have := hok.le; omega
  have hn0' : 0 < n := by have := hok.le; omega
  clear hO hok hb R2 D1 hx hy hn0 hn1 l2
  go_upto_region 3 with fail
  generalize w3.alloc (.cells #[.int .i64 x, .int .i64 y, .slice (some ⟨gh, 0, none⟩) n cb] 26) = W3 at LSx ⊢
  generalize w3.heap.size = b3 at LSx ⊢
  go_loopw [5] (fun i u => ∃ (k gg ca : Nat) (f : Nat → B4), k ≤ 2 ∧ i = .int .i64 (k : Int) ∧ Hid (LS w u g B a len cap b2 b3 x y gg n ca f)) (fun i _ => 3 - (intOf i).toNat)
  case atStart => exact ⟨0, gh, cb, _, by omega, rfl, LSx⟩
  case round =>
    clear LSx
    obtain ⟨k, gg, ca, f, hk, rfl, LSx⟩ := hrel
    go_wp2_with fail
    go_fit (draw_any (unhide LSx).ds hl 3 (by omega) (by omega))
    rintro r w4 ⟨n3, hn3, rfl, d4, g4⟩
    replace LSx := hide ((unhide LSx).draw d4 g4)
    clear d4 g4
    by_cases hkn : k < n3
    · have hki : (k : Int) < (n3 : Int) := by omega
      go_upto_region 5 with fail
      have LSz := hide (((unhide LSx).calls (al1_below w4 (.cells #[.int .i64 255, .int .i64 255, .int .i64 100, .int .i64 0] 3))).drew)
      have F4 := hide (show Four w (w4.alloc (.cells #[.int .i64 255, .int .i64 255, .int .i64 100, .int .i64 0] 3)).drew w4.heap.size from Four.fresh (unhide LSx).ds)
      obtain ⟨q0, q1, q2⟩ := row3 (unhide LSx).row; obtain ⟨qq0, qq1, qq2⟩ := row3 ((unhide LSx).calls (al1_below w4 (.cells #[.int .i64 255, .int .i64 255, .int .i64 100, .int .i64 0] 3))).row
      go_region_law (first | (refine step_call rfl 21 _ (by go_simp) (l11Mask_any g B a len cap _ hl (unhide LSx).drew.ds.again) ?_; rintro r w5 ⟨⟨ma, mb, mc, md, mo, m, mcap, MG, rfl, miv, mok⟩, d5⟩; refine ⟨_, rfl, ?_⟩; have A5 := hide ((unhide LSx).drew.draw ((unhide LSx).drew.ds.next d5.cur d5.gb) d5.gb); have I5 := hide (miv.low (unhide LSx).drew.ds.size); obtain ⟨p0, p1, p2⟩ := row3 (unhide A5).row; obtain ⟨pp0, pp1, pp2⟩ := row3 ((unhide A5).calls (al1_below w5 (.cells #[.int .i64 255, .int .i64 255, .int .i64 100, .int .i64 0] 3))).row; have hm := mok.few; clear mok miv d5) | (refine step_call rfl 21 _ (by go_simp) (l11Mask_any g B a len cap _ hl (unhide LSz).ds.again) ?_; rintro r w5 ⟨⟨ma, mb, mc, md, mo, m, mcap, MG, rfl, miv, mok⟩, d5⟩; refine ⟨_, rfl, ?_⟩; have A5 := hide ((unhide LSz).draw ((unhide LSz).ds.next d5.cur d5.gb) d5.gb); have I5 := hide (miv.low (unhide LSz).ds.size); have K5 := hide ((unhide F4).draw (unhide LSz).ds d5.gb); obtain ⟨p0, p1, p2⟩ := row3 (unhide A5).row; obtain ⟨pp0, pp1, pp2⟩ := row3 ((unhide A5).calls (al1_below w5 (.cells #[.int .i64 255, .int .i64 255, .int .i64 100, .int .i64 0] 3))).row; have hm := mok.few; clear mok miv d5) | (refine step_call rfl 22 _ (by go_simp) (l12Paint_any g B a len cap _ hl (unhide A5).ds.again) ?_; rintro r w6 ⟨⟨pk, pr, pg, pb, pa, pr2, pg2, pb2, pa2, pfx, pfy, ptx, pty, rfl, pok⟩, d6⟩; refine ⟨_, rfl, ?_⟩; have A6 := hide ((unhide A5).draw ((unhide A5).ds.next d6.cur d6.gb) d6.gb); have I6 := hide (ints_draw (unhide A5).ds (unhide I5) d6.gb); (first | (have K6 := hide ((unhide K5).draw (unhide A5).ds d6.gb)) | skip); obtain ⟨s0, s1, s2⟩ := row3 (unhide A6).row; obtain ⟨ss0, ss1, ss2⟩ := row3 ((unhide A6).calls (al1_below w6 (.cells #[.int .i64 255, .int .i64 255, .int .i64 100, .int .i64 0] 3))).row; clear d6 pok) | (refine step_call rfl 22 _ (by go_simp) (l12Paint_any g B a len cap _ hl ((unhide A5).calls (al1_below w5 (.cells #[.int .i64 255, .int .i64 255, .int .i64 100, .int .i64 0] 3))).ds.again) ?_; rintro r w6 ⟨⟨pk, pr, pg, pb, pa, pr2, pg2, pb2, pa2, pfx, pfy, ptx, pty, rfl, pok⟩, d6⟩; refine ⟨_, rfl, ?_⟩; have A6 := hide (((unhide A5).calls (al1_below w5 (.cells #[.int .i64 255, .int .i64 255, .int .i64 100, .int .i64 0] 3))).draw (((unhide A5).calls (al1_below w5 (.cells #[.int .i64 255, .int .i64 255, .int .i64 100, .int .i64 0] 3))).ds.next d6.cur d6.gb) d6.gb); have I6 := hide (ints_draw ((unhide A5).calls (al1_below w5 (.cells #[.int .i64 255, .int .i64 255, .int .i64 100, .int .i64 0] 3))).ds ((unhide I5).next (al1_below w5 (.cells #[.int .i64 255, .int .i64 255, .int .i64 100, .int .i64 0] 3))) d6.gb); have K6 := hide ((Four.fresh (unhide A5).ds).draw ((unhide A5).calls (al1_below w5 (.cells #[.int .i64 255, .int .i64 255, .int .i64 100, .int .i64 0] 3))).ds d6.gb); obtain ⟨s0, s1, s2⟩ := row3 (unhide A6).row; obtain ⟨ss0, ss1, ss2⟩ := row3 ((unhide A6).calls (al1_below w6 (.cells #[.int .i64 255, .int .i64 255, .int .i64 100, .int .i64 0] 3))).row; clear d6 pok) | (refine step_call rfl 24 _ (by go_simp) (draw_any (unhide A6).ds hl 5 (by omega) (by omega)) ?_; rintro r w7 ⟨n5, hn5, rfl, d7, g7⟩; refine ⟨_, rfl, ?_⟩; have A7 := hide ((unhide A6).draw (d7) g7); have I7 := hide (ints_draw (unhide A6).ds (unhide I6) g7); (first | (have K7 := hide ((unhide K6).draw (unhide A6).ds g7)) | skip); obtain ⟨t0, t1, t2⟩ := row3 (unhide A7).row; obtain ⟨tt0, tt1, tt2⟩ := row3 ((unhide A7).calls (al1_below w7 (.cells #[.int .i64 255, .int .i64 255, .int .i64 100, .int .i64 0] 3))).row; have v7 : IntKind.i64.wrap (1 + (n5 : Int)) = 1 + (n5 : Int) := IntWalk.i64_in _ (by omega); clear d7 g7) | (refine step_call rfl 24 _ (by go_simp) (draw_any ((unhide A6).calls (al1_below w6 (.cells #[.int .i64 255, .int .i64 255, .int .i64 100, .int .i64 0] 3))).ds hl 5 (by omega) (by omega)) ?_; rintro r w7 ⟨n5, hn5, rfl, d7, g7⟩; refine ⟨_, rfl, ?_⟩; have A7 := hide (((unhide A6).calls (al1_below w6 (.cells #[.int .i64 255, .int .i64 255, .int .i64 100, .int .i64 0] 3))).draw (d7) g7); have I7 := hide (ints_draw ((unhide A6).calls (al1_below w6 (.cells #[.int .i64 255, .int .i64 255, .int .i64 100, .int .i64 0] 3))).ds ((unhide I6).next (al1_below w6 (.cells #[.int .i64 255, .int .i64 255, .int .i64 100, .int .i64 0] 3))) g7); have K7 := hide ((Four.fresh (unhide A6).ds).draw ((unhide A6).calls (al1_below w6 (.cells #[.int .i64 255, .int .i64 255, .int .i64 100, .int .i64 0] 3))).ds g7); obtain ⟨t0, t1, t2⟩ := row3 (unhide A7).row; obtain ⟨tt0, tt1, tt2⟩ := row3 ((unhide A7).calls (al1_below w7 (.cells #[.int .i64 255, .int .i64 255, .int .i64 100, .int .i64 0] 3))).row; have v7 : IntKind.i64.wrap (1 + (n5 : Int)) = 1 + (n5 : Int) := IntWalk.i64_in _ (by omega); clear d7 g7) | (refine step_call rfl 55 _ (by go_simp) (fades4_any (unhide A7).ds hl (unhide K7)) ?_; rintro r w8 ⟨fz, rfl, d8, g8⟩; refine ⟨_, rfl, ?_⟩; have A8 := hide ((unhide A7).draw (d8) g8); have I8 := hide (ints_draw (unhide A7).ds (unhide I7) g8); obtain ⟨v0, v1, v2⟩ := row3 (unhide A8).row; obtain ⟨vv0, vv1, vv2⟩ := row3 ((unhide A8).calls (al1_below w8 (.cells #[.int .i64 255, .int .i64 255, .int .i64 100, .int .i64 0] 3))).row; clear d8 g8) | (refine step_call rfl 55 _ (by go_simp) (fades4_any ((unhide A7).calls (al1_below w7 (.cells #[.int .i64 255, .int .i64 255, .int .i64 100, .int .i64 0] 3))).ds hl (Four.fresh (unhide A7).ds)) ?_; rintro r w8 ⟨fz, rfl, d8, g8⟩; refine ⟨_, rfl, ?_⟩; have A8 := hide (((unhide A7).calls (al1_below w7 (.cells #[.int .i64 255, .int .i64 255, .int .i64 100, .int .i64 0] 3))).draw (d8) g8); have I8 := hide (ints_draw ((unhide A7).calls (al1_below w7 (.cells #[.int .i64 255, .int .i64 255, .int .i64 100, .int .i64 0] 3))).ds ((unhide I7).next (al1_below w7 (.cells #[.int .i64 255, .int .i64 255, .int .i64 100, .int .i64 0] 3))) g8); have K8 := hide ((Four.fresh (unhide A7).ds).draw ((unhide A7).calls (al1_below w7 (.cells #[.int .i64 255, .int .i64 255, .int .i64 100, .int .i64 0] 3))).ds g8); obtain ⟨v0, v1, v2⟩ := row3 (unhide A8).row; obtain ⟨vv0, vv1, vv2⟩ := row3 ((unhide A8).calls (al1_below w8 (.cells #[.int .i64 255, .int .i64 255, .int .i64 100, .int .i64 0] 3))).row; clear d8 g8) | (refine step_call rfl 54 _ (by go_simp) (specPaintMask_any x y f (some ⟨gg, 0, none⟩) n ca hn (by intro h; cases h) ma mb mc md MG mo m mcap hm pk pr pg pb pa pr2 pg2 pb2 pa2 pfx pfy ptx pty (1 + (n5 : Int)) fz w8 (unhide A8).own.cols (unhide I8).ints) ?_; rintro r w9 ⟨p9, c9, rfl, o9, hb9⟩; refine ⟨_, rfl, ?_⟩; have A9 := hide ((unhide A8).calls hb9); obtain ⟨gg9, cc9, e9, _, _⟩ := own_at o9.choose_spec.1 hn0'; cases e9; replace o9 := hide o9; have s8 := hide (show w.heap.size ≤ w8.heap.size ∧ b2 < w8.heap.size ∧ b3 < w8.heap.size from ⟨(unhide A8).ds.size, heap_lt (unhide A8).zero, heap_lt (unhide A8).row⟩); obtain ⟨x0', x1', x2'⟩ := row3 (unhide A9).row; obtain ⟨y0', y1', y2'⟩ := frozen3 (unhide A9).row; clear hb9))
      all_goals
        have A10 := hide ((unhide A9).store (unhide o9) (unhide s8).1 (unhide s8).2.1 (unhide s8).2.2 (paint_ok (unhide A8).ok))
        go_wp2_with fail
        go_roundw
        case rel => exact ⟨k + 1, _, _, _, by omega, by go_num, A10⟩
        case measure => simp [intOf]; omega
    · have hki : ¬ (k : Int) < (n3 : Int) := by omega
      obtain ⟨e0, e1, e2⟩ := row3 (unhide LSx).zero
      obtain ⟨f0, f1, f2⟩ := frozen3 (unhide LSx).zero
      obtain ⟨q0, q1, q2⟩ := row3 (unhide LSx).row
      go_wp2_with fail
      refine bodyPost_ret (v := .agg #[.int .i64 x, .int .i64 y, .slice (some ⟨gg, 0, none⟩) n ca]) (by simp [results, Tryz.results19, go_sem, e0, e1, e2]) rfl ?_
      exact (unhide LSx).res

set_option maxHeartbeats 4000000 in
set_option maxRecDepth 100000 in
theorem drawRightSurface_any (a0 : Option Addr) (len cap : Nat) (w : World) (hl : len ≤ 1048576) (hin : InB w.heap.size w a0 len) :
    Calls Tryz.prog 5 #[.slice a0 len cap] w fun r w' => OneSurf w r w' ∧ Below w.heap.size w w' := by
  have HI := hide hin
  clear hin
  go_enter Tryz.func5, Tryz.ntmps5
  go_wp2_with fail
  obtain ⟨W, hW⟩ : ∃ W, W = w.alloc (.cells #[.int .i64 0, .int .i64 0, .slice none 0 0] 26) := ⟨_, rfl⟩
  have R2 := hide (show W.heap[w.heap.size]? = some (.cells #[.int .i64 0, .int .i64 0, .slice none 0 0] 26 (0, 0)) by rw [hW]; exact new_row _ _)
  have HB := hide (show Below w.heap.size w W by rw [hW]; exact al1_below _ _)
  rw [← hW]
  clear hW
  refine (l01New_any a0 len cap _ hl ((unhide HI).next (unhide HB))).mono ?_
  rintro e w1 ⟨g0, hg, rfl, hc, hb1'⟩
  have D1 := hide (DS.start hc (((unhide HI).next (unhide HB)).below hb1') hb1'.size hg)
  have B1 := hide hb1'
  clear hc hb1' HI
  go_wp2_with fail
  go_fit (l14Surface_any g0 _ a0 len cap _ hl (unhide D1))
  rintro e w2 ⟨⟨x, y, p, n, cp, f, rfl, hO, hok⟩, d2⟩
  have BB := hide (d2.below (unhide B1) (unhide B1).size)
  have R3 := hide (((unhide BB).block _ (heap_lt (unhide R2))).trans (unhide R2))
  have l1 := hide (show w.heap.size < w1.heap.size from Nat.lt_of_lt_of_le (heap_lt (unhide R2)) (unhide B1).size)
  replace hO := hide hO
  replace hok := hide hok
  clear d2
  obtain ⟨e0, e1, e2⟩ := row3 (unhide R3)
  obtain ⟨f0, f1, f2⟩ := frozen3 (unhide R3)
  go_wp2_with fail
  refine bodyPost_ret (v := .agg #[.int .i64 x, .int .i64 y, .slice p n cp]) (by simp [results, Tryz.results5, go_sem, e0, e1, e2]) rfl ⟨⟨x, y, p, n, cp, f, rfl, ?_, unhide hok⟩, below_put3 (below_two (unhide HB) (unhide BB)) (Nat.le_refl _) _ _ _⟩
  exact ((unhide hO).low (by have := unhide l1; omega)).put3 ((unhide hO).notOld (unhide l1))
end Go.Proofs.YtngnleoggblinaaGreat

/-
  DrawPlaces: twelve numbers in 0 .. 9999.
-/
namespace Go.Proofs.YtngnleoggblinaaGreat
open Go.RowKit


/-- A number as a value. -/
def Nv (n : Nat) : Value := .int .i64 (n : Int)
theorem all_snoc {p : List Nat} {x n : Nat} (h : ∀ y ∈ p, y < n) (hx : x < n) : ∀ y ∈ p ++ [x], y < n := by
  intro y hy
  rcases List.mem_append.1 hy with h' | h'
  · exact h y h'
  · simp at h'; omega
theorem num_row {w : World} {base x : Nat} {v : Value} {p : List Nat} (h : w.ownsRow base 3 1 v (p.map Nv ++ #[Value.int .i64 (x : Int)].toList).length (p.map Nv ++ #[Value.int .i64 (x : Int)].toList)) : w.ownsRow base 3 1 v (p ++ [x]).length ((p ++ [x]).map Nv) := by
  have e : p.map Nv ++ #[Value.int .i64 (x : Int)].toList = (p ++ [x]).map Nv := by simp [Nv]
  rw [e, List.length_map] at h
  exact h

theorem big_no (a : Option Addr) (len cap : Nat) (hl : len ≤ 1048576) (w : World) :
    Calls Tryz.prog 4 #[.slice a len cap] w fun e w' => e = .returned (.bool false) ∧ w' = w := by
  have hd : decide ((1048576 : Int) < (len : Int)) = false := by simp; omega
  go_enter Tryz.func4, Tryz.ntmps4
  go_wp2
  go_ret
  exact ⟨rfl, rfl⟩
theorem big_yes (a : Option Addr) (len cap : Nat) (hl : ¬ len ≤ 1048576) (w : World) :
    Calls Tryz.prog 4 #[.slice a len cap] w fun e w' => e = .returned (.bool true) ∧ w' = w := by
  have hd : decide ((1048576 : Int) < (len : Int)) = true := by simp; omega
  go_enter Tryz.func4, Tryz.ntmps4
  go_wp2
  go_ret
  exact ⟨rfl, rfl⟩

set_option maxHeartbeats 1000000 in
set_option maxRecDepth 100000 in
theorem drawPlaces_any (a : Option Addr) (len cap : Nat) (w : World) (hl : len ≤ 1048576) (hin : InB w.heap.size w a len) :
    Calls Tryz.prog 8 #[.slice a len cap] w fun e w' => ∃ (v : Value) (p : List Nat), p.length = 12 ∧ (∀ x ∈ p, x < 10000) ∧ e = .returned v ∧ w'.ownsRow w.heap.size 3 1 v p.length (p.map Nv) ∧ Below w.heap.size w w' := by
  obtain ⟨i0, hi, hz0, hz1, hz2⟩ := info_parts Tryz.info3
  have HI := hide hin
  clear hin
  go_enter Tryz.func8, Tryz.ntmps8
  go_wp2_with fail
  refine (l01New_any a len cap _ hl (unhide HI)).mono ?_
  rintro e w1 ⟨g, hgB, rfl, hc1, hb1⟩
  have C1 := hide hc1
  have B1 := hide hb1
  clear hc1 hb1
  go_wp2_with fail
  refine (l01Byte_any g w.heap.size a len cap _ hl hgB ((unhide HI).below (unhide B1)) (unhide C1)).mono ?_
  rintro e w2 ⟨x0, _, rfl, hc2, hg2⟩
  have B2 := hide ((unhide B1).grown hg2 (unhide B1).size (fun k hk => by cases hk; exact hgB))
  have C2 := hide hc2
  clear hc2 hg2
  go_wp2
  go_loopw [4, 5] (fun v i wr => ∃ (k : Nat) (p : List Nat), k ≤ 12 ∧ i = .int .i64 k ∧ p.length = k ∧ (∀ x ∈ p, x < 10000) ∧ wr.ownsRow w2.heap.size 3 1 v p.length (p.map Nv) ∧ Cur wr g a len cap ∧ w2.grownBy wr (some g)) (fun _ i _ => 12 - (intOf i).toNat)
  case atStart => exact ⟨0, [], by omega, rfl, rfl, by simp, World.ownsRow_lit w2 #[] 0 (Nat.le_refl _) (by decide) rfl, (unhide C2).grown (World.grownBy_alloc w2 _ none) (by simp), World.grownBy_alloc w2 _ _⟩
  case round =>
    obtain ⟨k, p, hk, rfl, hlk, hpb, hown, hc, hg⟩ := hrel
    have hgl := (unhide C2).lt
    have C := hide hc
    have G := hide hg
    have O := hide hown
    have LK := hide hlk
    have PB := hide hpb
    clear hc hg hlk hown hpb
    by_cases hlt : k < 12
    · go_wp2_with (first | (go_at_call 24; go_must (refine (l01Below_any g w.heap.size a len cap 10000 (by omega) (by omega) _ hl hgB (Nat.le_trans (unhide B2).size (unhide G).size) (((unhide HI).below (unhide B2)).grown (unhide G) hgB (unhide B2).size) (unhide C)).mono ?_); rintro e w3 ⟨x, hx, rfl, hc1, hg1⟩; have C3 := hide hc1; have G3 := hide (grown_trans (unhide G) hg1); have O3 := hide (own_grown (unhide O) hg1 hgl); clear hc1 hg1) | (at_builtin; go_must (refine wpList_append_cur w3 rfl _ _ 30 3 rfl w2.heap.size i0 (.int .i64 0) 8 Tryz.underlying30 hi hz0 hz1 hz2 rfl _ (p.map Nv) (by rfl) (by rw [List.length_map]; exact unhide O3) _ (by intro u hu; simp at hu; subst hu; rfl) 1 1 rfl (by rfl) (by have := unhide LK; unfold maxLen; simp; omega) (by have := unhide LK; simp; omega) w2 (Nat.le_refl _) (unhide G3).size g a len cap hgl (unhide G3) (unhide C3) ?_); intro v' w4 hown2 hc2 hg2))
      go_roundw
      case rel => exact ⟨k + 1, p ++ [x], by omega, by go_num, by have := unhide LK; simp; omega, all_snoc (unhide PB) hx, num_row hown2, hc2, hg2⟩
      case measure => simp [intOf]; omega
    · have hke : k = 12 := by omega
      have KE := hide hke
      have hlt' : ¬ (k : Int) < 12 := by omega
      clear hke
      go_wp2
      go_ret
      exact ⟨_, p, (unhide LK).trans (unhide KE), unhide PB, rfl, own_low (unhide O) (unhide B2).size, (unhide B2).grown (unhide G) (unhide B2).size (fun k hk => by cases hk; exact hgB)⟩
end Go.Proofs.YtngnleoggblinaaGreat

/-
  FnQuotients: drawn quotients and roots.
-/
namespace Go.Proofs.YtngnleoggblinaaGreat
open Go.RowKit

def absI (x : Int) : Int := if x < 0 then -x else x

theorem quot_down (a b : Int) (hb : 1 ≤ b) : fdivI a b * b ≤ a ∧ a < (fdivI a b + 1) * b ∧ a - b < fdivI a b * b ∧ (fdivI a b + 1) * b = fdivI a b * b + b := by
  have e1 : fdivI a b = a / b := by unfold fdivI; rw [if_neg (by omega)]
  rw [e1]
  have e := Int.mul_ediv_add_emod a b
  have bd := emod_bd a b hb
  have e2 : a / b * b = a - a % b := by rw [Int.mul_comm]; omega
  have e3 : (a / b + 1) * b = a / b * b + b := by rw [Int.add_mul, Int.one_mul]
  rw [e3, e2]
  omega

theorem quot_near (a b : Int) (hb : 1 ≤ b) : 2 * absI (a - rdivI a b * b) ≤ b ∧ 2 * (rdivI a b * b - a) ≤ b ∧ (2 * absI (a - rdivI a b * b) < b ∨ a < rdivI a b * b) ∧ 0 ≤ absI (a - rdivI a b * b) ∧ a - b ≤ rdivI a b * b ∧ rdivI a b * b ≤ a + b := by
  have e := Int.mul_ediv_add_emod a b
  have bd := emod_bd a b hb
  have e2 : a / b * b = a - a % b := by rw [Int.mul_comm]; omega
  have e3 : (a / b + 1) * b = a / b * b + b := by rw [Int.add_mul, Int.one_mul]
  by_cases hc : b - a % b ≤ a % b
  · have e1 : rdivI a b = a / b + 1 := by unfold rdivI; rw [if_neg (by omega), if_pos hc]
    rw [e1, e3, e2]
    have : absI (a - (a - a % b + b)) = b - a % b := by unfold absI; split <;> omega
    rw [this]
    omega
  · have e1 : rdivI a b = a / b := by unfold rdivI; rw [if_neg (by omega), if_neg hc]
    rw [e1, e2]
    have : absI (a - (a - a % b)) = a % b := by unfold absI; split <;> omega
    rw [this]
    omega

theorem prod_bd {x y : Int} (h1 : 0 ≤ x ∧ x < 10000) (h2 : 0 ≤ y ∧ y < 10000) : 0 ≤ x * y ∧ x * y ≤ 99980001 :=
  ⟨Int.mul_nonneg h1.1 h2.1, by have := Int.mul_le_mul (show x ≤ 9999 by omega) (show y ≤ 9999 by omega) h2.1 (by decide); omega⟩

theorem next_sq (s : Int) : (s + 1) * (s + 1) = s * s + 2 * s + 1 := by rw [Int.add_mul, Int.mul_add]; omega

theorem root_small {n s : Int} (h : IsRoot n s) (hn : n ≤ 99980001) : s ≤ 9999 := by
  by_cases hs : s ≤ 9999
  · exact hs
  · have := sq_mono (a := 10000) (b := s) (by omega) (by omega)
    have := h.sq
    omega

theorem fac_small {q b : Int} (hb : 1 ≤ b) (h0 : -1000000000 ≤ q * b) (h1 : q * b ≤ 1000000000) : -1000000000 ≤ q ∧ q ≤ 1000000000 := by
  by_cases hq : 0 ≤ q
  · have := Int.mul_le_mul_of_nonneg_left hb hq
    rw [Int.mul_one] at this
    omega
  · have := Int.mul_le_mul_of_nonpos_left (show q ≤ 0 by omega) hb
    rw [Int.mul_one] at this
    omega

/-- A place of the drawn ones. -/
theorem place_at {w : World} {base : Nat} {p : List Nat} {gp cap : Nat} (h : w.ownsRow base 3 1 (.slice (some ⟨gp, 0, none⟩) p.length cap) p.length (p.map Nv)) (hp : ∀ x ∈ p, x < 10000) (i : Nat) (hi : i < p.length) :
    ∃ x : Int, (0 ≤ x ∧ x < 10000) ∧ w.cell? ⟨gp, i, none⟩ = some (.int .i64 x) := by
  have hm := List.getElem_mem hi
  have := hp _ hm
  refine ⟨((p[i] : Nat) : Int), ⟨by omega, by omega⟩, ?_⟩
  rw [h.cellAt i (by omega), List.getElem?_map, List.getElem?_eq_getElem hi]
  rfl

end Go.Proofs.YtngnleoggblinaaGreat

/-
  FnPaintsOn, from what the program's functions answer. (By paintonlaw.py.)
-/
namespace Go.Proofs.YtngnleoggblinaaGreat
open Go.RowKit
set_option linter.unusedVariables false

theorem pix_in {x y : Int} {n : Nat} {f : Nat → B4} {px py : Int} (h : SOk x y n f) (h0 : 0 ≤ px) (h1 : px < x) (h2 : 0 ≤ py) (h3 : py < y) : pixC x y n f px py = f (py * x + px).toNat := by
  unfold pixC
  rw [if_pos ⟨surfOk_iff.2 h, ⟨h0, by omega⟩, ⟨h2, by omega⟩⟩]
theorem pix_out {x y : Int} {n : Nat} {f : Nat → B4} {px py : Int} (h : ¬ (0 ≤ px ∧ px ≤ x - 1)) : pixC x y n f px py = ⟨0, 0, 0, 0⟩ := by
  unfold pixC
  rw [if_neg (fun e => h e.2.1)]
theorem paint_pix {q : P13} {a b c d : Int} {m : Nat} {g : Nat → Int} {mode fade x y : Int} {n : Nat} {f : Nat → B4} (h : SOk x y n f) (hm : MOk a b c d m g) (hp : paintOkB q = true) {px py : Int} (h0 : 0 ≤ px) (h1 : px < x) (h2 : 0 ≤ py) (h3 : py < y) :
    pixC x y n (paintOn q a b c d m g mode fade x y n f) px py = inkC q mode fade (atI a b c d g px py) px py (pixC x y n f px py) := by
  rw [pix_in (paint_ok h) h0 h1 h2 h3, pix_in h h0 h1 h2 h3]
  unfold paintOn
  rw [if_pos ⟨surfOk_iff.2 h, maskOk_iff.2 hm, hp⟩]
  have hpl := pix_place (x := x) (y := y) (px := px) (py := py) (by omega) h0 (by omega) h2 (by omega)
  obtain ⟨e1, e2⟩ := sq_back (x := x) (px := px) (py := py) (by omega) h0 h1
  have e3 : (((py * x + px).toNat : Nat) : Int) = py * x + px := Int.toNat_of_nonneg hpl.2.1
  unfold paintC
  rw [e3, e1, e2]
theorem ColsV.none0 {w : World} {base n c : Nat} {v : Option Addr} {f : Nat → B4} (h : ColsV w base (.slice v n c) n f) : v = none → c = 0 := by
  intro e
  subst e
  obtain ⟨xs, ⟨_, h | ⟨g, cap, cur, hv, _⟩⟩, _⟩ := h
  · cases h.1; rfl
  · cases hv
/-- What the law keeps: the surface, the mask, the paint, the painted surface. -/
structure PO (w u : World) (b3 b4 b6 b10 : Nat) (x y : Int) (p : Option Addr) (n cp : Nat) (f : Nat → B4) (ma mb mc md : Int) (mo : Option Addr) (m mcap : Nat) (G : Nat → Int) (k r g b a r2 g2 b2 a2 fx fy tx ty : Int) (pn : Option Addr) (cpn : Nat) (F : Nat → B4) : Prop where
  rs : u.heap[b3]? = some (.cells #[.int .i64 x, .int .i64 y, .slice p n cp] 26 (0, 0))
  rm : u.heap[b4]? = some (.cells #[.int .i64 ma, .int .i64 mb, .int .i64 mc, .int .i64 md, .slice mo m mcap] 32 (0, 0))
  rp : u.heap[b6]? = some (.cells #[.int .i64 k, .int .i64 r, .int .i64 g, .int .i64 b, .int .i64 a, .int .i64 r2, .int .i64 g2, .int .i64 b2, .int .i64 a2, .int .i64 fx, .int .i64 fy, .int .i64 tx, .int .i64 ty] 40 (0, 0))
  rn : u.heap[b10]? = some (.cells #[.int .i64 x, .int .i64 y, .slice pn n cpn] 26 (0, 0))
  cs : ColsV u w.heap.size (.slice p n cp) n f
  im : IntsV u w.heap.size (.slice mo m mcap) m G
  cn : ColsV u w.heap.size (.slice pn n cpn) n F
  hb : Below w.heap.size w u
theorem PO.next {w u v : World} {b3 b4 b6 b10 : Nat} {x y : Int} {p : Option Addr} {n cp : Nat} {f : Nat → B4} {ma mb mc md : Int} {mo : Option Addr} {m mcap : Nat} {G : Nat → Int} {k r g b a r2 g2 b2 a2 fx fy tx ty : Int} {pn : Option Addr} {cpn : Nat} {F : Nat → B4} (h : PO w u b3 b4 b6 b10 x y p n cp f ma mb mc md mo m mcap G k r g b a r2 g2 b2 a2 fx fy tx ty pn cpn F) (hb : Below u.heap.size u v) : PO w v b3 b4 b6 b10 x y p n cp f ma mb mc md mo m mcap G k r g b a r2 g2 b2 a2 fx fy tx ty pn cpn F :=
  ⟨row_next hb h.rs, row_next hb h.rm, row_next hb h.rp, row_next hb h.rn, h.cs.next hb, h.im.next hb, h.cn.next hb, below_two h.hb hb⟩

set_option maxHeartbeats 16000000 in
set_option maxRecDepth 100000 in
theorem fnPaintsOn_of (EI : ∀ (x y : Int) (F : Nat → B4) (ao : Option Addr) (n ca : Nat) (hn : n ≤ 1048576) (hca : n ≤ ca) (hao : ao = none → ca = 0) (a b c d : Int) (G : Nat → Int) (bo : Option Addr) (m cb : Nat) (hm : m ≤ 1048576) (hcb : m ≤ cb) (pk pr pg pb pa pr2 pg2 pb2 pa2 pfx pfy ptx pty : Int) (mode fade : Int) (w : World) (PA : ∀ i, i < n → ClAt w ao i (F i)) (PB : ∀ i, i < m → IntAt w bo i (G i)), Calls Tryz.prog 9 #[.agg #[.int .i64 x, .int .i64 y, .slice ao n ca], .agg #[.int .i64 a, .int .i64 b, .int .i64 c, .int .i64 d, .slice bo m cb], .agg #[.int .i64 pk, .int .i64 pr, .int .i64 pg, .int .i64 pb, .int .i64 pa, .int .i64 pr2, .int .i64 pg2, .int .i64 pb2, .int .i64 pa2, .int .i64 pfx, .int .i64 pfy, .int .i64 ptx, .int .i64 pty], .int .i64 mode, .int .i64 fade] w fun r w' => SurfRes w r w' x y n (paintOn ⟨pk, ⟨pr, pg, pb, pa⟩, ⟨pr2, pg2, pb2, pa2⟩, pfx, pfy, ptx, pty⟩ a b c d m G mode fade x y n F))
    (ES : ∀ (x y : Int) (f : Nat → B4) (ao : Option Addr) (n cp : Nat) (hn : n ≤ 1048576) (hc : n ≤ cp) (hao : ao = none → cp = 0) (w : World) (P : ∀ i, i < n → ClAt w ao i (f i)), Calls Tryz.prog 10 #[.agg #[.int .i64 x, .int .i64 y, .slice ao n cp]] w fun r w' => r = .returned (.bool (surfOkB x y n f)) ∧ Below w.heap.size w w')
    (EP : ∀ (x y : Int) (f : Nat → B4) (ao : Option Addr) (n cp : Nat) (hn : n ≤ 1048576) (hc : n ≤ cp) (hao : ao = none → cp = 0) (px py : Int) (w : World) (P : ∀ i, i < n → ClAt w ao i (f i)), Calls Tryz.prog 12 #[.agg #[.int .i64 x, .int .i64 y, .slice ao n cp], .int .i64 px, .int .i64 py] w fun r w' => r = .returned (.agg #[.int .i64 ((pixC x y n f px py).x0), .int .i64 ((pixC x y n f px py).y0), .int .i64 ((pixC x y n f px py).x1), .int .i64 ((pixC x y n f px py).y1)]) ∧ Below w.heap.size w w')
    (EE : ∀ (x y : Int) (F : Nat → B4) (ao : Option Addr) (n ca : Nat) (hn : n ≤ 1048576) (hca : n ≤ ca) (hao : ao = none → ca = 0) (x' y' : Int) (G : Nat → B4) (bo : Option Addr) (m cb : Nat) (hm : m ≤ 1048576) (hcb : m ≤ cb) (hbo : bo = none → cb = 0) (w : World) (PA : ∀ i, i < n → ClAt w ao i (F i)) (PB : ∀ i, i < m → ClAt w bo i (G i)), Calls Tryz.prog 18 #[.agg #[.int .i64 x, .int .i64 y, .slice ao n ca], .agg #[.int .i64 x', .int .i64 y', .slice bo m cb]] w fun r w' => r = .returned (.bool (sameSB x y n F x' y' m G)) ∧ Below w.heap.size w w')
    (a0 : Option Addr) (len0 cap0 : Nat) (z0 : List Int) (w : World) (w0 : IsRow .u8 w a0 len0 cap0 z0) :
    Calls Tryz.prog 3 #[.slice a0 len0 cap0] w fun e w' => e = .returned (.bool true) ∧ Below w.heap.size w w' := by
  by_cases hl : len0 ≤ 1048576
  · have HI := hide (InB.of_row w0)
    clear w0
    go_enter Tryz.func3, Tryz.ntmps3
    go_wp2_with fail
    refine (big_no a0 len0 cap0 hl _).mono ?_
    rintro e w1 ⟨rfl, hw⟩
    rw [hw]
    clear hw w1
    go_wp2_with fail
    refine (drawRightSurface_any a0 len0 cap0 _ hl (unhide HI)).mono ?_
    rintro e w2 ⟨⟨x, y, p, n, cp, f, rfl, hO, hok⟩, hb⟩
    go_upto_region 4 with fail
    have R3 := hide (new_row w2 (.cells #[.int .i64 x, .int .i64 y, .slice p n cp] 26))
    have HB := hide (below_two hb (al1_below w2 (.cells #[.int .i64 x, .int .i64 y, .slice p n cp] 26)))
    replace hO := hide (hO.next (al1_below w2 (.cells #[.int .i64 x, .int .i64 y, .slice p n cp] 26)))
    clear hb
    generalize w2.alloc (.cells #[.int .i64 x, .int .i64 y, .slice p n cp] 26) = W2 at R3 HB hO ⊢
    generalize w2.heap.size = b3 at R3 ⊢
    go_wp2_with fail
    refine (drawMasks_of l11Mask_any a0 len0 cap0 _ hl ((unhide HI).next (unhide HB))).mono ?_
    rintro e w3 ⟨ma, mb, mc, md, mo, m, mcap, G, me, mf, mg, mh, no, m2, mcap2, G2, rfl, hM, mok, hM2, mok2, hb⟩
    clear hM2 mok2
    have hm0 := mok.few
    go_upto_region 5 with fail
    have R4 := hide (al2_0 w3 (.cells #[.int .i64 ma, .int .i64 mb, .int .i64 mc, .int .i64 md, .slice mo m mcap] 32) (.cells #[.int .i64 me, .int .i64 mf, .int .i64 mg, .int .i64 mh, .slice no m2 mcap2] 32))
    replace R3 := hide (row_next (al2_below w3 (.cells #[.int .i64 ma, .int .i64 mb, .int .i64 mc, .int .i64 md, .slice mo m mcap] 32) (.cells #[.int .i64 me, .int .i64 mf, .int .i64 mg, .int .i64 mh, .slice no m2 mcap2] 32)) (row_next hb (unhide R3)))
    replace hO := hide (((unhide hO).next hb).next (al2_below w3 (.cells #[.int .i64 ma, .int .i64 mb, .int .i64 mc, .int .i64 md, .slice mo m mcap] 32) (.cells #[.int .i64 me, .int .i64 mf, .int .i64 mg, .int .i64 mh, .slice no m2 mcap2] 32)))
    replace hM := hide ((hM.low (unhide HB).size).next (al2_below w3 (.cells #[.int .i64 ma, .int .i64 mb, .int .i64 mc, .int .i64 md, .slice mo m mcap] 32) (.cells #[.int .i64 me, .int .i64 mf, .int .i64 mg, .int .i64 mh, .slice no m2 mcap2] 32)))
    replace HB := hide (below_two (below_two (unhide HB) hb) (al2_below w3 (.cells #[.int .i64 ma, .int .i64 mb, .int .i64 mc, .int .i64 md, .slice mo m mcap] 32) (.cells #[.int .i64 me, .int .i64 mf, .int .i64 mg, .int .i64 mh, .slice no m2 mcap2] 32)))
    clear hb
    generalize (w3.alloc (.cells #[.int .i64 ma, .int .i64 mb, .int .i64 mc, .int .i64 md, .slice mo m mcap] 32)).alloc (.cells #[.int .i64 me, .int .i64 mf, .int .i64 mg, .int .i64 mh, .slice no m2 mcap2] 32) = W3 at R3 R4 HB hO hM ⊢
    generalize w3.heap.size + 1 = b5 at ⊢
    generalize w3.heap.size = b4 at R4 ⊢
    go_wp2_with fail
    refine (drawSlope_any a0 len0 cap0 _ hl ((unhide HI).next (unhide HB))).mono ?_
    rintro e w4 ⟨⟨k, r, g, b, a, r2, g2, b2, a2, fx, fy, tx, ty, rfl, hpk, _⟩, hb⟩
    go_upto_region 6 with fail
    have R6 := hide (new_row w4 (.cells #[.int .i64 k, .int .i64 r, .int .i64 g, .int .i64 b, .int .i64 a, .int .i64 r2, .int .i64 g2, .int .i64 b2, .int .i64 a2, .int .i64 fx, .int .i64 fy, .int .i64 tx, .int .i64 ty] 40))
    replace R3 := hide (row_next (al1_below w4 (.cells #[.int .i64 k, .int .i64 r, .int .i64 g, .int .i64 b, .int .i64 a, .int .i64 r2, .int .i64 g2, .int .i64 b2, .int .i64 a2, .int .i64 fx, .int .i64 fy, .int .i64 tx, .int .i64 ty] 40)) (row_next hb (unhide R3)))
    replace R4 := hide (row_next (al1_below w4 (.cells #[.int .i64 k, .int .i64 r, .int .i64 g, .int .i64 b, .int .i64 a, .int .i64 r2, .int .i64 g2, .int .i64 b2, .int .i64 a2, .int .i64 fx, .int .i64 fy, .int .i64 tx, .int .i64 ty] 40)) (row_next hb (unhide R4)))
    replace hO := hide (((unhide hO).next hb).next (al1_below w4 (.cells #[.int .i64 k, .int .i64 r, .int .i64 g, .int .i64 b, .int .i64 a, .int .i64 r2, .int .i64 g2, .int .i64 b2, .int .i64 a2, .int .i64 fx, .int .i64 fy, .int .i64 tx, .int .i64 ty] 40)))
    replace hM := hide (((unhide hM).next hb).next (al1_below w4 (.cells #[.int .i64 k, .int .i64 r, .int .i64 g, .int .i64 b, .int .i64 a, .int .i64 r2, .int .i64 g2, .int .i64 b2, .int .i64 a2, .int .i64 fx, .int .i64 fy, .int .i64 tx, .int .i64 ty] 40)))
    replace HB := hide (below_two (below_two (unhide HB) hb) (al1_below w4 (.cells #[.int .i64 k, .int .i64 r, .int .i64 g, .int .i64 b, .int .i64 a, .int .i64 r2, .int .i64 g2, .int .i64 b2, .int .i64 a2, .int .i64 fx, .int .i64 fy, .int .i64 tx, .int .i64 ty] 40)))
    clear hb
    generalize w4.alloc (.cells #[.int .i64 k, .int .i64 r, .int .i64 g, .int .i64 b, .int .i64 a, .int .i64 r2, .int .i64 g2, .int .i64 b2, .int .i64 a2, .int .i64 fx, .int .i64 fy, .int .i64 tx, .int .i64 ty] 40) = W4 at R3 R4 R6 HB hO hM ⊢
    generalize w4.heap.size = b6 at R6 ⊢
    go_wp2_with fail
    refine (drawPlaces_any a0 len0 cap0 _ hl ((unhide HI).next (unhide HB))).mono ?_
    rintro e w5 ⟨vp, pl, hp12, hpb, rfl, hop, hb⟩
    replace R3 := hide (row_next hb (unhide R3))
    replace R4 := hide (row_next hb (unhide R4))
    replace R6 := hide (row_next hb (unhide R6))
    replace hO := hide ((unhide hO).next hb)
    replace hM := hide ((unhide hM).next hb)
    replace HB := hide (below_two (unhide HB) hb)
    obtain ⟨pp, pc, rfl, _, _, _, hpp⟩ := row_form hop
    obtain ⟨gp, rfl, hgp1, hgp2⟩ := hpp (by omega)
    obtain ⟨u0, ⟨_, _⟩, c0⟩ := place_at hop hpb 0 (by omega)
    obtain ⟨u1, ⟨_, _⟩, c1⟩ := place_at hop hpb 1 (by omega)
    rw [hp12]
    clear hpb hop hb hgp1 hgp2 hpp hp12 HI
    have t0 : u0.tmod 5 = u0 % 5 := Int.tmod_eq_emod_of_nonneg (by omega)
    have t1 : u1.tmod 256 = u1 % 256 := Int.tmod_eq_emod_of_nonneg (by omega)
    go_upto_region 9 with fail
    clear c0 c1
    obtain ⟨mode, hmode⟩ : ∃ z : Int, 1 + u0 % 5 = z := ⟨_, rfl⟩
    obtain ⟨fade, hfade⟩ : ∃ z : Int, u1 % 256 = z := ⟨_, rfl⟩
    rw [hmode, hfade]
    clear hmode hfade t0 t1
    have hn : n ≤ 1048576 := by have := hok.le; omega
    have hcap := (unhide hO).cap
    have hnone := hide (unhide hO).none0
    have hmcap := (unhide hM).cap
    obtain ⟨c0, c1, c2⟩ := row3 (unhide R3)
    obtain ⟨d0, d1, d2, d3, d4⟩ := row5m (unhide R4)
    have E2 := hide (EI x y f p n cp hn hcap (unhide hnone) ma mb mc md G mo m mcap hm0 hmcap k r g b a r2 g2 b2 a2 fx fy tx ty mode fade w5 (unhide hO).cols (unhide hM).ints)
    have hN := hide (fun (px py : Int) (h0 : 0 ≤ px) (h1 : px < x) (h2 : 0 ≤ py) (h3 : py < y) => paint_pix (q := ⟨k, ⟨r, g, b, a⟩, ⟨r2, g2, b2, a2⟩, fx, fy, tx, ty⟩) (mode := mode) (fade := fade) hok mok hpk h0 h1 h2 h3)
    have hokN := paint_ok (p := ⟨k, ⟨r, g, b, a⟩, ⟨r2, g2, b2, a2⟩, fx, fy, tx, ty⟩) (a := ma) (b := mb) (c := mc) (d := md) (m := m) (g := G) (mode := mode) (fade := fade) hok
    generalize paintOn ⟨k, ⟨r, g, b, a⟩, ⟨r2, g2, b2, a2⟩, fx, fy, tx, ty⟩ ma mb mc md m G mode fade x y n f = F at E2 hN hokN
    obtain ⟨q0, q1, q2, q3, q4, q5, q6, q7, q8, q9, q10, q11, q12⟩ := row13 (unhide R6)
    go_wp2_with fail
    go_fit (unhide E2)
    rintro e w6 ⟨pn, cpn, rfl, hON, hb⟩
    go_upto_region 10 with fail
    have HPO := hide (show PO w (w6.alloc (.cells #[.int .i64 x, .int .i64 y, .slice pn n cpn] 26)) b3 b4 b6 w6.heap.size x y p n cp f ma mb mc md mo m mcap G k r g b a r2 g2 b2 a2 fx fy tx ty pn cpn F from
      ⟨row_next (al1_below _ _) (row_next hb (unhide R3)), row_next (al1_below _ _) (row_next hb (unhide R4)), row_next (al1_below _ _) (row_next hb (unhide R6)), new_row _ _, ((unhide hO).next hb).next (al1_below _ _), ((unhide hM).next hb).next (al1_below _ _), (hON.low (unhide HB).size).next (al1_below _ _), below_two (below_two (unhide HB) hb) (al1_below _ _)⟩)
    have hcapN := hON.cap
    have hnoneN := hide hON.none0
    clear hb hON E2 R3 R4 R6 hO hM HB c0 c1 c2 d0 d1 d2 d3 d4 q0 q1 q2 q3 q4 q5 q6 q7 q8 q9 q10 q11 q12 EI
    generalize w6.alloc (.cells #[.int .i64 x, .int .i64 y, .slice pn n cpn] 26) = W6 at HPO ⊢
    generalize w6.heap.size = b10 at HPO ⊢
    have ESs := hide (fun u => ES x y f p n cp hn hcap (unhide hnone) u)
    have ESn := hide (fun u => ES x y F pn n cpn hn hcapN (unhide hnoneN) u)
    rw [surfOk_iff.2 hok] at ESs
    rw [surfOk_iff.2 hokN] at ESn
    have EPs := hide (fun u px py => EP x y f p n cp hn hcap (unhide hnone) px py u)
    have EPn := hide (fun u px py => EP x y F pn n cpn hn hcapN (unhide hnoneN) px py u)
    have EEs := hide (fun u => EE x y f p n cp hn hcap (unhide hnone) x y f p n cp hn hcap (unhide hnone) u)
    rw [sameS_iff.2 ⟨rfl, rfl, rfl, fun _ _ => rfl⟩] at EEs
    have EB := hide (fun u px py => specBitsAt_any ma mb mc md G mo m mcap hm0 px py u)
    have hbits := hide (fun px py => bits_ok mok px py)
    have hok2 := hok.1
    have hok3 := hok.2.1
    replace hok := hide hok
    replace hokN := hide hokN
    replace mok := hide mok
    replace hpk := hide hpk
    clear ES EP EE
    obtain ⟨c0, c1, c2⟩ := row3 (unhide HPO).rn
    have E2 := hide (unhide ESn W6 (unhide HPO).cn.cols)
    go_wp2_with fail
    go_fit (unhide E2)
    rintro e w7 ⟨rfl, hb⟩
    replace HPO := hide ((unhide HPO).next hb)
    clear hb E2 c0 c1 c2
    obtain ⟨c0, c1, c2⟩ := row3 (unhide HPO).rs
    have E2 := hide (unhide ESs w7 (unhide HPO).cs.cols)
    go_wp2_with fail
    go_fit (unhide E2)
    rintro e w8 ⟨rfl, hb⟩
    replace HPO := hide ((unhide HPO).next hb)
    clear hb E2 c0 c1 c2 ESs ESn
    obtain ⟨c0, c1, c2⟩ := row3 (unhide HPO).rs
    obtain ⟨d0, d1, d2⟩ := row3 (unhide HPO).rn
    go_upto_region 13 with fail
    clear c0 c1 c2 d0 d1 d2
    go_loopw [11] (fun i u => ∃ j : Nat, (j : Int) ≤ y ∧ i = .int .i64 (j : Int) ∧ Hid (PO w u b3 b4 b6 b10 x y p n cp f ma mb mc md mo m mcap G k r g b a r2 g2 b2 a2 fx fy tx ty pn cpn F)) (fun i _ => y.toNat - (intOf i).toNat)
    case atStart => exact ⟨0, by omega, rfl, HPO⟩
    case round =>
      clear HPO
      obtain ⟨j, hj, rfl, HPO⟩ := hrel
      obtain ⟨c0, c1, c2⟩ := row3 (unhide HPO).rs
      by_cases hjy : (j : Int) < y
      · go_upto_region 16 with fail
        clear c0 c1 c2
        go_loopw [12] (fun i u => ∃ q : Nat, (q : Int) ≤ x ∧ i = .int .i64 (q : Int) ∧ Hid (PO w u b3 b4 b6 b10 x y p n cp f ma mb mc md mo m mcap G k r g b a r2 g2 b2 a2 fx fy tx ty pn cpn F)) (fun i _ => x.toNat - (intOf i).toNat)
        case atStart => exact ⟨0, by omega, rfl, HPO⟩
        case round =>
          clear HPO
          obtain ⟨q, hq, rfl, HPO⟩ := hrel
          obtain ⟨c0, c1, c2⟩ := row3 (unhide HPO).rs
          by_cases hqx : (q : Int) < x
          · have hNq := hide (unhide hN (q : Int) (j : Int) (by omega) hqx (by omega) hjy)
            have E2 := hide (unhide EB wr (q : Int) (j : Int) (unhide HPO).im.ints)
            rw [unhide hbits (q : Int) (j : Int)] at E2
            generalize atI ma mb mc md G (q : Int) (j : Int) = bits at E2 hNq
            go_upto_region 18 with fail
            clear c0 c1 c2
            obtain ⟨d0, d1, d2, d3, d4⟩ := row5m (unhide HPO).rm
            go_wp2_with fail
            go_fit (unhide E2)
            rintro e w1 ⟨rfl, hb⟩
            replace HPO := hide ((unhide HPO).next hb)
            clear hb E2 d0 d1 d2 d3 d4
            have E2 := hide (unhide EPs w1 (q : Int) (j : Int) (unhide HPO).cs.cols)
            generalize pixC x y n f (q : Int) (j : Int) = Sx at E2 hNq
            obtain ⟨Sa, Sb, Sc, Sd⟩ := Sx
            dsimp only at E2
            obtain ⟨c0, c1, c2⟩ := row3 (unhide HPO).rs
            go_wp2_with fail
            go_fit (unhide E2)
            rintro e w2 ⟨rfl, hb⟩
            replace HPO := hide ((unhide HPO).next hb)
            clear hb E2 c0 c1 c2
            go_upto_region 20 with fail
            have R4 := hide (new_row w2 (.cells #[.int .i64 Sa, .int .i64 Sb, .int .i64 Sc, .int .i64 Sd] 36))
            have D4 := hide (al1_below w2 (.cells #[.int .i64 Sa, .int .i64 Sb, .int .i64 Sc, .int .i64 Sd] 36))
            obtain ⟨b14, hb14⟩ : ∃ z, Hid (z = w2.heap.size) := ⟨_, rfl⟩
            have lb : Hid (w2.heap.size ≤ b14) := by unfold Hid; rw [unhide hb14]; exact Nat.le_refl _
            rw [← unhide hb14] at R4
            rw [← unhide hb14]
            clear hb14
            generalize w2.alloc (.cells #[.int .i64 Sa, .int .i64 Sb, .int .i64 Sc, .int .i64 Sd] 36) = W4 at R4 D4 ⊢
            by_cases hz : bits = 0
            · subst hz
              rw [show inkC ⟨k, ⟨r, g, b, a⟩, ⟨r2, g2, b2, a2⟩, fx, fy, tx, ty⟩ mode fade 0 (q : Int) (j : Int) ⟨Sa, Sb, Sc, Sd⟩ = ⟨Sa, Sb, Sc, Sd⟩ from rfl] at hNq
              have H4 := hide ((unhide HPO).next (unhide D4))
              go_upto_region 22 with fail
              obtain ⟨I, Fw, hI, F1, F2⟩ := kept_worlds W4
              have g0 : ∀ i, (Fw i).cell? ⟨b10, 0, none⟩ = some (.int .i64 x) := fun i => (row3 ((unhide H4).next (F2 i)).rn).1
              have g1 : ∀ i, (Fw i).cell? ⟨b10, 1, none⟩ = some (.int .i64 y) := fun i => (row3 ((unhide H4).next (F2 i)).rn).2.1
              have g2 : ∀ i, (Fw i).cell? ⟨b10, 2, none⟩ = some (.slice pn n cpn) := fun i => (row3 ((unhide H4).next (F2 i)).rn).2.2
              have h0 : ∀ i, (Fw i).cell? ⟨b14, 0, none⟩ = some (.int .i64 Sa) := fun i => (row4 (row_next (F2 i) (unhide R4))).1
              have h1 : ∀ i, (Fw i).cell? ⟨b14, 1, none⟩ = some (.int .i64 Sb) := fun i => (row4 (row_next (F2 i) (unhide R4))).2.1
              have h2 : ∀ i, (Fw i).cell? ⟨b14, 2, none⟩ = some (.int .i64 Sc) := fun i => (row4 (row_next (F2 i) (unhide R4))).2.2.1
              have h3 : ∀ i, (Fw i).cell? ⟨b14, 3, none⟩ = some (.int .i64 Sd) := fun i => (row4 (row_next (F2 i) (unhide R4))).2.2.2
              have E3 := hide (fun i => unhide EPn (Fw i) (q : Int) (j : Int) ((unhide H4).next (F2 i)).cn.cols)
              rw [unhide hNq] at E3
              dsimp only at E3
              have qN : ∀ u, (Op.equalIn 10000 36 (.agg #[.int .i64 Sa, .int .i64 Sb, .int .i64 Sc, .int .i64 Sd]) (.agg #[.int .i64 Sa, .int .i64 Sb, .int .i64 Sc, .int .i64 Sd])).run Tryz.prog u = .ok true u := fun u => by rw [eqlColor]; simp
              replace F1 := hide F1
              replace F2 := hide F2
              refine wp_region_quiet_in (unhide F1) (by kernel_rfl) (by kernel_rfl) ?_
              repeat (go_big_quiet_step (first | with_reducible exact quiet_in (unhide F1) (unhide F2) (unhide E3 _)))
              refine wpQuiet_nil ?_
              rintro _ ⟨i, rfl⟩
              have hF := unhide F2 i
              clear F1 g0 g1 g2 h0 h1 h2 h3 E3 qN
              go_wp2_with fail
              go_roundw
              case rel => exact ⟨q + 1, by omega, by go_num, hide ((unhide H4).next hF)⟩
              case measure => simp [intOf]; omega
            · have EC := hide (specColorAt_any k r g b a r2 g2 b2 a2 fx fy tx ty (q : Int) (j : Int))
              have ECn := hide (specCountOf_any bits)
              rw [show inkC ⟨k, ⟨r, g, b, a⟩, ⟨r2, g2, b2, a2⟩, fx, fy, tx, ty⟩ mode fade bits (q : Int) (j : Int) ⟨Sa, Sb, Sc, Sd⟩ = blendC mode (fadeC (thinC (colorAtC ⟨k, ⟨r, g, b, a⟩, ⟨r2, g2, b2, a2⟩, fx, fy, tx, ty⟩ (q : Int) (j : Int)) (countI bits)) fade) ⟨Sa, Sb, Sc, Sd⟩ from if_neg hz] at hNq
              generalize colorAtC ⟨k, ⟨r, g, b, a⟩, ⟨r2, g2, b2, a2⟩, fx, fy, tx, ty⟩ (q : Int) (j : Int) = C at EC hNq
              obtain ⟨Ca, Cb, Cc, Cd⟩ := C
              generalize countI bits = cnt at ECn hNq
              have ET := hide (specThin_any Ca Cb Cc Cd cnt)
              generalize thinC ⟨Ca, Cb, Cc, Cd⟩ cnt = T at ET hNq
              obtain ⟨Ta, Tb, Tc, Td⟩ := T
              have EF := hide (specFade_any Ta Tb Tc Td fade)
              generalize fadeC ⟨Ta, Tb, Tc, Td⟩ fade = V at EF hNq
              obtain ⟨Va, Vb, Vc, Vd⟩ := V
              have EL := hide (specBlend_any mode Va Vb Vc Vd Sa Sb Sc Sd)
              generalize blendC mode ⟨Va, Vb, Vc, Vd⟩ ⟨Sa, Sb, Sc, Sd⟩ = N at EL hNq
              obtain ⟨Na, Nb, Nc, Nd⟩ := N
              dsimp only at EC ET EF EL
              have hzb : (bits == 0) = false := beq_eq_false_iff_ne.2 hz
              go_upto_region 21 with fail
              obtain ⟨c0, c1, c2, c3, c4, c5, c6, c7, c8, c9, c10, c11, c12⟩ := row13 (row_next (unhide D4) (unhide HPO).rp)
              obtain ⟨z40, z41, z42, z43⟩ := row4 (unhide R4)
              go_region_law (first | (refine step_call rfl 16 _ ?_ (unhide EC _) ?_; (focus (go_simp; done)); rintro e w5 ⟨rfl, hb5⟩; refine ⟨_, rfl, ?_⟩; replace hb5 := below_undrew hb5; have D5 := hide (below_two (unhide D4) hb5); have R5 := hide (row_next hb5 (unhide R4)); obtain ⟨z50, z51, z52, z53⟩ := row4 (unhide R5); clear hb5) | (refine step_call rfl 17 _ ?_ (unhide ECn _) ?_; (focus (go_simp; done)); rintro e w6 ⟨rfl, hw6⟩; rw [hw6]; clear hw6 w6; refine ⟨_, rfl, ?_⟩) | (refine step_call rfl 15 _ ?_ (unhide ET _) ?_; (focus (go_simp; done)); rintro e w7 ⟨rfl, hb7⟩; refine ⟨_, rfl, ?_⟩; have D7 := hide (below_two (unhide D5) hb7); have R7 := hide (row_next hb7 (unhide R5)); obtain ⟨z70, z71, z72, z73⟩ := row4 (unhide R7); clear hb7) | (refine step_call rfl 14 _ ?_ (unhide EF _) ?_; (focus (go_simp; done)); rintro e w8 ⟨rfl, hb8⟩; refine ⟨_, rfl, ?_⟩; have D8 := hide (below_two (unhide D7) hb8); have R8 := hide (row_next hb8 (unhide R7)); obtain ⟨z80, z81, z82, z83⟩ := row4 (unhide R8); clear hb8) | (refine step_call rfl 13 _ ?_ (unhide EL _) ?_; (focus (go_simp; done)); rintro e w9 ⟨rfl, hb9⟩; refine ⟨_, rfl, ?_⟩; have D9 := hide (below_two (unhide D8) hb9); have R9 := hide (row_next hb9 (unhide R8)); obtain ⟨z90, z91, z92, z93⟩ := row4 (unhide R9); obtain ⟨y0, y1, y2, y3⟩ := free4 (unhide R9); clear hb9))
              all_goals
                have D10 := hide (show Below w2.heap.size w2 ((((w9.setCell ⟨b14, 0, none⟩ (.int .i64 Na)).setCell ⟨b14, 1, none⟩ (.int .i64 Nb)).setCell ⟨b14, 2, none⟩ (.int .i64 Nc)).setCell ⟨b14, 3, none⟩ (.int .i64 Nd)) from below_put4 (unhide D9) (unhide lb) _ _ _ _)
                have R10 := hide (put4_row (b := b14) (unhide R9) (y0 := .int .i64 Na) (y1 := .int .i64 Nb) (y2 := .int .i64 Nc) (y3 := .int .i64 Nd))
                clear c0 c1 c2 c3 c4 c5 c6 c7 c8 c9 c10 c11 c12
                go_upto_region 22 with fail
                have H4 := hide ((unhide HPO).next (unhide D10))
                generalize ((((w9.setCell ⟨b14, 0, none⟩ (.int .i64 Na)).setCell ⟨b14, 1, none⟩ (.int .i64 Nb)).setCell ⟨b14, 2, none⟩ (.int .i64 Nc)).setCell ⟨b14, 3, none⟩ (.int .i64 Nd)) = W10 at H4 R10 ⊢
                obtain ⟨I, Fw, hI, F1, F2⟩ := kept_worlds W10
                have g0 : ∀ i, (Fw i).cell? ⟨b10, 0, none⟩ = some (.int .i64 x) := fun i => (row3 ((unhide H4).next (F2 i)).rn).1
                have g1 : ∀ i, (Fw i).cell? ⟨b10, 1, none⟩ = some (.int .i64 y) := fun i => (row3 ((unhide H4).next (F2 i)).rn).2.1
                have g2 : ∀ i, (Fw i).cell? ⟨b10, 2, none⟩ = some (.slice pn n cpn) := fun i => (row3 ((unhide H4).next (F2 i)).rn).2.2
                have h0 : ∀ i, (Fw i).cell? ⟨b14, 0, none⟩ = some (.int .i64 Na) := fun i => (row4 (row_next (F2 i) (unhide R10))).1
                have h1 : ∀ i, (Fw i).cell? ⟨b14, 1, none⟩ = some (.int .i64 Nb) := fun i => (row4 (row_next (F2 i) (unhide R10))).2.1
                have h2 : ∀ i, (Fw i).cell? ⟨b14, 2, none⟩ = some (.int .i64 Nc) := fun i => (row4 (row_next (F2 i) (unhide R10))).2.2.1
                have h3 : ∀ i, (Fw i).cell? ⟨b14, 3, none⟩ = some (.int .i64 Nd) := fun i => (row4 (row_next (F2 i) (unhide R10))).2.2.2
                have E3 := hide (fun i => unhide EPn (Fw i) (q : Int) (j : Int) ((unhide H4).next (F2 i)).cn.cols)
                rw [unhide hNq] at E3
                dsimp only at E3
                have qN : ∀ u, (Op.equalIn 10000 36 (.agg #[.int .i64 Na, .int .i64 Nb, .int .i64 Nc, .int .i64 Nd]) (.agg #[.int .i64 Na, .int .i64 Nb, .int .i64 Nc, .int .i64 Nd])).run Tryz.prog u = .ok true u := fun u => by rw [eqlColor]; simp
                replace F1 := hide F1
                replace F2 := hide F2
                refine wp_region_quiet_in (unhide F1) (by kernel_rfl) (by kernel_rfl) ?_
                repeat (go_big_quiet_step (first | with_reducible exact quiet_in (unhide F1) (unhide F2) (unhide E3 _)))
                refine wpQuiet_nil ?_
                rintro _ ⟨i, rfl⟩
                have hF := unhide F2 i
                clear F1 g0 g1 g2 h0 h1 h2 h3 E3 qN
                go_wp2_with fail
                go_roundw
                case rel => exact ⟨q + 1, by omega, by go_num, hide ((unhide H4).next hF)⟩
                case measure => simp [intOf]; omega
          · have hqe : (q : Int) = x := by omega
            have vj : IntKind.i64.wrap ((j : Int) + 1) = (j : Int) + 1 := IntWalk.i64_in _ (by omega)
            go_wp2_with fail
            go_roundw
            case rel => exact ⟨j + 1, by omega, by go_num, HPO⟩
            case measure => simp [intOf]; omega
      · go_upto_region 24 with fail
        clear c0 c1 c2
        obtain ⟨I, Fw, hI, F1, F2⟩ := kept_worlds wr
        have g0 : ∀ i, (Fw i).cell? ⟨b3, 0, none⟩ = some (.int .i64 x) := fun i => (row3 ((unhide HPO).next (F2 i)).rs).1
        have g1 : ∀ i, (Fw i).cell? ⟨b3, 1, none⟩ = some (.int .i64 y) := fun i => (row3 ((unhide HPO).next (F2 i)).rs).2.1
        have g2 : ∀ i, (Fw i).cell? ⟨b3, 2, none⟩ = some (.slice p n cp) := fun i => (row3 ((unhide HPO).next (F2 i)).rs).2.2
        have E1 := hide (fun i => unhide EEs (Fw i) ((unhide HPO).next (F2 i)).cs.cols ((unhide HPO).next (F2 i)).cs.cols)
        have E2 := hide (fun i => unhide EPs (Fw i) (-1) 0 ((unhide HPO).next (F2 i)).cs.cols)
        have E3 := hide (fun i => unhide EPs (Fw i) x 0 ((unhide HPO).next (F2 i)).cs.cols)
        rw [pix_out (by omega)] at E2
        rw [pix_out (by omega)] at E3
        dsimp only at E2 E3
        have qZ : ∀ u, (Op.equalIn 10000 36 (.agg #[.int .i64 0, .int .i64 0, .int .i64 0, .int .i64 0]) (.agg #[.int .i64 0, .int .i64 0, .int .i64 0, .int .i64 0])).run Tryz.prog u = .ok true u := fun u => by rw [eqlColor]; simp
        replace F1 := hide F1
        replace F2 := hide F2
        refine wp_region_quiet_in (unhide F1) (by kernel_rfl) (by kernel_rfl) ?_
        repeat (go_big_quiet_step (first | with_reducible exact quiet_in (unhide F1) (unhide F2) (unhide E1 _) | with_reducible exact quiet_in (unhide F1) (unhide F2) (unhide E2 _) | with_reducible exact quiet_in (unhide F1) (unhide F2) (unhide E3 _)))
        refine wpQuiet_nil ?_
        rintro _ ⟨i, rfl⟩
        have hF := unhide F2 i
        clear F1 g0 g1 g2
        go_wp2_with fail
        go_ret
        exact ⟨rfl, below_two (unhide HPO).hb hF⟩
  · go_enter Tryz.func3, Tryz.ntmps3
    go_wp2_with (go_at_call 4; go_must (refine (big_yes a0 len0 cap0 hl _).mono ?_); rintro e w1 ⟨rfl, rfl⟩)
    go_ret
    exact ⟨rfl, Below.refl _ _⟩
end Go.Proofs.YtngnleoggblinaaGreat

/-
  The program's paints: right colours, laid ones, right paints.
-/
namespace Go.Proofs.YtngnleoggblinaaGreat
open Go.RowKit
set_option linter.unusedVariables false

theorem implPartOk_any (x : Int) (w : World) :
    Calls Tryz.prog 76 #[.int .i64 x] w fun e w' => e = .returned (.bool (inB x 0 255)) ∧ w' = w := by
  by_cases h1 : 0 ≤ x
  · by_cases h2 : x ≤ 255
    · have H : Hid (true = inB x 0 255) := (inB_true.2 ⟨h1, h2⟩).symm
      go_enter Tryz.func76, Tryz.ntmps76
      go_wp2_with fail
      go_ret
      exact ⟨ret_bool (unhide H), rfl⟩
    · have H : Hid (false = inB x 0 255) := by unfold Hid inB; simp [h1, h2]
      go_enter Tryz.func76, Tryz.ntmps76
      go_wp2_with fail
      go_ret
      exact ⟨ret_bool (unhide H), rfl⟩
  · have H : Hid (false = inB x 0 255) := by unfold Hid inB; simp [h1]
    go_enter Tryz.func76, Tryz.ntmps76
    go_wp2_with fail
    go_ret
    exact ⟨ret_bool (unhide H), rfl⟩

set_option maxHeartbeats 4000000 in
set_option maxRecDepth 100000 in
theorem implColorOk_any (r g b a : Int) (w : World) :
    Calls Tryz.prog 64 #[.agg #[.int .i64 r, .int .i64 g, .int .i64 b, .int .i64 a]] w fun e w' => e = .returned (.bool (colorOkB ⟨r, g, b, a⟩)) ∧ Below w.heap.size w w' := by
  have E0 := hide (implPartOk_any r)
  have E1 := hide (implPartOk_any g)
  have E2 := hide (implPartOk_any b)
  have E3 := hide (implPartOk_any a)
  have H : Hid ((inB r 0 255 && (inB g 0 255 && (inB b 0 255 && inB a 0 255))) = colorOkB ⟨r, g, b, a⟩) := rfl
  generalize inB r 0 255 = i0 at E0 H
  generalize inB g 0 255 = i1 at E1 H
  generalize inB b 0 255 = i2 at E2 H
  generalize inB a 0 255 = i3 at E3 H
  generalize colorOkB ⟨r, g, b, a⟩ = X at H ⊢
  go_enter Tryz.func64, Tryz.ntmps64
  go_upto_region 1 with fail
  have R := hide (new_row w (.cells #[.int .i64 r, .int .i64 g, .int .i64 b, .int .i64 a] 36))
  have HB := hide (al1_below w (.cells #[.int .i64 r, .int .i64 g, .int .i64 b, .int .i64 a] 36))
  generalize w.alloc (.cells #[.int .i64 r, .int .i64 g, .int .i64 b, .int .i64 a] 36) = W at R HB ⊢
  obtain ⟨r0, r1, r2, r3⟩ := row4 (unhide R)
  go_wp2_with fail
  go_fit (unhide E0 _)
  rintro e u2 ⟨rfl, rfl⟩
  cases i0 with
  | false =>
    go_wp2_with fail
    go_ret
    exact ⟨ret_bool (unhide H), unhide HB⟩
  | true =>
  go_wp2_with fail
  go_fit (unhide E1 _)
  rintro e u2 ⟨rfl, rfl⟩
  cases i1 with
  | false =>
    go_wp2_with fail
    go_ret
    exact ⟨ret_bool (unhide H), unhide HB⟩
  | true =>
  go_wp2_with fail
  go_fit (unhide E2 _)
  rintro e u2 ⟨rfl, rfl⟩
  cases i2 with
  | false =>
    go_wp2_with fail
    go_ret
    exact ⟨ret_bool (unhide H), unhide HB⟩
  | true =>
  go_wp2_with fail
  go_fit (unhide E3 _)
  rintro e u2 ⟨rfl, rfl⟩
  go_wp2_with fail
  go_ret
  exact ⟨ret_bool (unhide H), unhide HB⟩

set_option maxHeartbeats 4000000 in
set_option maxRecDepth 100000 in
theorem implLaid_any (r g b a : Int) (w : World) :
    Calls Tryz.prog 68 #[.agg #[.int .i64 r, .int .i64 g, .int .i64 b, .int .i64 a]] w fun e w' => e = .returned (.agg #[.int .i64 ((laidC ⟨r, g, b, a⟩).x0), .int .i64 ((laidC ⟨r, g, b, a⟩).y0), .int .i64 ((laidC ⟨r, g, b, a⟩).x1), .int .i64 ((laidC ⟨r, g, b, a⟩).y1)]) ∧ Below w.heap.size w w' := by
  have E := hide (implColorOk_any r g b a)
  have K0 := hide (implTimes255_any r a)
  have K1 := hide (implTimes255_any g a)
  have K2 := hide (implTimes255_any b a)
  unfold laidC
  generalize t255I r a = o0 at K0 ⊢
  generalize t255I g a = o1 at K1 ⊢
  generalize t255I b a = o2 at K2 ⊢
  generalize colorOkB ⟨r, g, b, a⟩ = X at E ⊢
  go_enter Tryz.func68, Tryz.ntmps68
  go_upto_region 1 with fail
  have R1 := hide (al2_0 w (.cells #[.int .i64 r, .int .i64 g, .int .i64 b, .int .i64 a] 36) (.cells #[.int .i64 0, .int .i64 0, .int .i64 0, .int .i64 0] 36))
  have R2 := hide (al2_1 w (.cells #[.int .i64 r, .int .i64 g, .int .i64 b, .int .i64 a] 36) (.cells #[.int .i64 0, .int .i64 0, .int .i64 0, .int .i64 0] 36))
  have HB := hide (al2_below w (.cells #[.int .i64 r, .int .i64 g, .int .i64 b, .int .i64 a] 36) (.cells #[.int .i64 0, .int .i64 0, .int .i64 0, .int .i64 0] 36))
  obtain ⟨b2, hb2⟩ : ∃ b, Hid (b = w.heap.size + 1) := ⟨_, rfl⟩
  obtain ⟨b1, hb1⟩ : ∃ b, Hid (b = w.heap.size) := ⟨_, rfl⟩
  have lz : Hid (w.heap.size ≤ b2 ∧ b1 < b2) := by unfold Hid; rw [unhide hb2, unhide hb1]; omega
  rw [← unhide hb2] at R2
  rw [← unhide hb1] at R1
  rw [← unhide hb2, ← unhide hb1]
  generalize (w.alloc (.cells #[.int .i64 r, .int .i64 g, .int .i64 b, .int .i64 a] 36)).alloc (.cells #[.int .i64 0, .int .i64 0, .int .i64 0, .int .i64 0] 36) = W at R1 R2 HB ⊢
  clear hb2 hb1
  obtain ⟨q0, q1, q2, q3⟩ := row4 (unhide R1)
  go_wp2_with fail
  go_fit (unhide E _)
  rintro e w1 ⟨rfl, hb⟩
  replace R1 := hide (row_next hb (unhide R1))
  replace R2 := hide (row_next hb (unhide R2))
  replace HB := hide (below_two (unhide HB) hb)
  clear hb q0 q1 q2 q3
  cases X with
  | false =>
    obtain ⟨e0, e1, e2, e3⟩ := row4 (unhide R2)
    obtain ⟨f0, f1, f2, f3⟩ := free4 (unhide R2)
    go_wp2_with fail
    refine bodyPost_ret (v := .agg #[.int .i64 0, .int .i64 0, .int .i64 0, .int .i64 0]) (by simp [results, Tryz.results68, go_sem, e0, e1, e2, e3]) rfl ⟨rfl, ?_⟩
    exact below_put4 (unhide HB) (unhide lz).1 _ _ _ _
  | true =>
    have ne1 : ¬ b2 = b1 := by have := unhide lz; omega
    have ne2 : ¬ b1 = b2 := by have := unhide lz; omega
    have l6 := hide (show b2 ≤ w1.heap.size from Nat.le_of_lt (heap_lt (unhide R2)))
    go_upto_region 3 with fail
    have k0 := hide (show ∀ u, Below b2 w1 u → (u.cell? ⟨b1, 0, none⟩ = some (.int .i64 r) ∧ u.cell? ⟨b1, 1, none⟩ = some (.int .i64 g) ∧ u.cell? ⟨b1, 2, none⟩ = some (.int .i64 b) ∧ u.cell? ⟨b1, 3, none⟩ = some (.int .i64 a) ∧ Below b2 w1 u) from fun u h => by
      obtain ⟨c0, c1, c2, c3⟩ := row4 ((h.block b1 (unhide lz).2).trans (unhide R1))
      exact ⟨c0, c1, c2, c3, h⟩)
    have k1 := hide (show ∀ u, Below w1.heap.size w1 u → (u.cell? ⟨b2, 0, none⟩ = some (.int .i64 0) ∧ u.cell? ⟨b2, 1, none⟩ = some (.int .i64 0) ∧ u.cell? ⟨b2, 2, none⟩ = some (.int .i64 0) ∧ u.cell? ⟨b2, 3, none⟩ = some (.int .i64 0) ∧ u.frozen? ⟨b2, 0, none⟩ = false ∧ u.frozen? ⟨b2, 1, none⟩ = false ∧ u.frozen? ⟨b2, 2, none⟩ = false ∧ u.frozen? ⟨b2, 3, none⟩ = false) from fun u h => by
      obtain ⟨e0, e1, e2, e3⟩ := row4 (row_next h (unhide R2))
      obtain ⟨f0, f1, f2, f3⟩ := free4 (row_next h (unhide R2))
      exact ⟨e0, e1, e2, e3, f0, f1, f2, f3⟩)
    have k00 := hide (unhide k0 _ (Below.refl _ _).drew)
    go_region_held3 (fun u => u.cell? ⟨b1, 0, none⟩ = some (.int .i64 r) ∧ u.cell? ⟨b1, 1, none⟩ = some (.int .i64 g) ∧ u.cell? ⟨b1, 2, none⟩ = some (.int .i64 b) ∧ u.cell? ⟨b1, 3, none⟩ = some (.int .i64 a) ∧ Below b2 w1 u) ((first | with_reducible exact unhide k00 | (with_reducible refine unhide k0 _ ?_; first | with_reducible exact Below.mono (by assumption) (unhide l6) | (with_reducible refine below_put4 ?_ (Nat.le_refl _) _ _ _ _; with_reducible exact Below.mono (by assumption) (unhide l6))))) (first | (go_at_call 79; go_fit (unhide K0 _); rintro e w4 ⟨rfl, hb4⟩; have h4 := below_undrew hb4) | (go_at_call 79; go_fit (unhide K1 _); rintro e w5 ⟨rfl, hb5⟩; have h5 := below_two h4 hb5; clear h4 hb4 hb5) | (go_at_call 79; go_fit (unhide K2 _); rintro e w6 ⟨rfl, hb6⟩; have h6 := below_two h5 hb6; clear h5 hb6; obtain ⟨e0, e1, e2, e3, f0, f1, f2, f3⟩ := unhide k1 _ h6))
    all_goals
      go_wp2_with fail
      refine bodyPost_ret (v := .agg #[.int .i64 o0, .int .i64 o1, .int .i64 o2, .int .i64 a]) (by simp [results, Tryz.results68, go_sem, e0, e1, e2, e3]) rfl ⟨rfl, ?_⟩
      exact below_put4 (below_two (unhide HB) h6) (unhide lz).1 _ _ _ _
end Go.Proofs.YtngnleoggblinaaGreat

/-
  The program's laid colours, thinned and faded ones: closures over closures. (By blendi.py.)
-/
namespace Go.Proofs.YtngnleoggblinaaGreat
open Go.RowKit
set_option linter.unusedVariables false

set_option maxHeartbeats 4000000 in
set_option maxRecDepth 100000 in
theorem implLaidOk_any (r g b a : Int) (w : World) :
    Calls Tryz.prog 37 #[.agg #[.int .i64 r, .int .i64 g, .int .i64 b, .int .i64 a]] w fun e w' => e = .returned (.bool (laidOkB ⟨r, g, b, a⟩)) ∧ Below w.heap.size w w' := by
  have E := hide (implColorOk_any r g b a)
  have H : Hid ((colorOkB ⟨r, g, b, a⟩ && (decide (r ≤ a) && (decide (g ≤ a) && decide (b ≤ a)))) = laidOkB ⟨r, g, b, a⟩) := rfl
  generalize colorOkB ⟨r, g, b, a⟩ = X at E H
  generalize laidOkB ⟨r, g, b, a⟩ = Y at H ⊢
  go_enter Tryz.func37, Tryz.ntmps37
  go_upto_region 1 with fail
  have R := hide (new_row w (.cells #[.int .i64 r, .int .i64 g, .int .i64 b, .int .i64 a] 36))
  have HB := hide (al1_below w (.cells #[.int .i64 r, .int .i64 g, .int .i64 b, .int .i64 a] 36))
  generalize w.alloc (.cells #[.int .i64 r, .int .i64 g, .int .i64 b, .int .i64 a] 36) = W at R HB ⊢
  generalize w.heap.size = b1 at R ⊢
  obtain ⟨q0, q1, q2, q3⟩ := row4 (unhide R)
  go_wp2_with fail
  go_fit (unhide E _)
  rintro e u2 ⟨rfl, hb⟩
  replace R := hide (row_next hb (unhide R))
  replace HB := hide (below_two (unhide HB) hb)
  clear hb q0 q1 q2 q3
  obtain ⟨q0, q1, q2, q3⟩ := row4 (unhide R)
  cases X with
  | false =>
    go_wp2_with fail
    go_ret
    exact ⟨ret_bool (unhide H), unhide HB⟩
  | true =>
  cases d0 : decide (r ≤ a) with
  | false =>
    rw [d0] at H
    go_wp2_with fail
    go_ret
    exact ⟨ret_bool (unhide H), unhide HB⟩
  | true =>
  rw [d0] at H
  cases d1 : decide (g ≤ a) with
  | false =>
    rw [d1] at H
    go_wp2_with fail
    go_ret
    exact ⟨ret_bool (unhide H), unhide HB⟩
  | true =>
  rw [d1] at H
  cases d2 : decide (b ≤ a) with
  | false =>
    rw [d2] at H
    go_wp2_with fail
    go_ret
    exact ⟨ret_bool (unhide H), unhide HB⟩
  | true =>
    rw [d2] at H
    go_wp2_with fail
    go_ret
    exact ⟨ret_bool (unhide H), unhide HB⟩

theorem cell_lone {w1 : World} {b : Nat} {x : Value} {t : TypeId} (h : w1.heap[b]? = some (.cells #[x] t (0, 0))) : w1.cell? ⟨b, 0, none⟩ = some x := by simp [World.cell?, h]

set_option maxHeartbeats 8000000 in
set_option maxRecDepth 100000 in
theorem implEachPart_less (p : Nat) (r g b a m0 m1 m2 m3 : Int) (J : World → Prop) (jn : ∀ u u', J u → Below u.heap.size u u' → J u')
    (K0 : ∀ u, J u → Calls Tryz.prog 111 #[.int .i64 r, .int .i64 r, .pointer (some ⟨p, 0, none⟩)] u fun e u' => e = .returned (.int .i64 m0) ∧ Below u.heap.size u u')
    (K1 : ∀ u, J u → Calls Tryz.prog 111 #[.int .i64 g, .int .i64 g, .pointer (some ⟨p, 0, none⟩)] u fun e u' => e = .returned (.int .i64 m1) ∧ Below u.heap.size u u')
    (K2 : ∀ u, J u → Calls Tryz.prog 111 #[.int .i64 b, .int .i64 b, .pointer (some ⟨p, 0, none⟩)] u fun e u' => e = .returned (.int .i64 m2) ∧ Below u.heap.size u u')
    (K3 : ∀ u, J u → Calls Tryz.prog 111 #[.int .i64 a, .int .i64 a, .pointer (some ⟨p, 0, none⟩)] u fun e u' => e = .returned (.int .i64 m3) ∧ Below u.heap.size u u')
    (w : World) (h : J w) :
    Calls Tryz.prog 74 #[.agg #[.int .i64 r, .int .i64 g, .int .i64 b, .int .i64 a], .agg #[.int .i64 r, .int .i64 g, .int .i64 b, .int .i64 a], .func (.func 111) #[] #[.pointer (some ⟨p, 0, none⟩)]] w fun e w' => e = .returned (.agg #[.int .i64 m0, .int .i64 m1, .int .i64 m2, .int .i64 m3]) ∧ Below w.heap.size w w' := by
  replace K0 := hide K0
  replace K1 := hide K1
  replace K2 := hide K2
  replace K3 := hide K3
  go_enter Tryz.func74, Tryz.ntmps74
  go_upto_region 1 with fail
  have R1 := hide (al3_0 w (.cells #[.int .i64 r, .int .i64 g, .int .i64 b, .int .i64 a] 36) (.cells #[.int .i64 r, .int .i64 g, .int .i64 b, .int .i64 a] 36) (.cells #[.int .i64 0, .int .i64 0, .int .i64 0, .int .i64 0] 36))
  have R2 := hide (al3_1 w (.cells #[.int .i64 r, .int .i64 g, .int .i64 b, .int .i64 a] 36) (.cells #[.int .i64 r, .int .i64 g, .int .i64 b, .int .i64 a] 36) (.cells #[.int .i64 0, .int .i64 0, .int .i64 0, .int .i64 0] 36))
  have R3 := hide (al3_2 w (.cells #[.int .i64 r, .int .i64 g, .int .i64 b, .int .i64 a] 36) (.cells #[.int .i64 r, .int .i64 g, .int .i64 b, .int .i64 a] 36) (.cells #[.int .i64 0, .int .i64 0, .int .i64 0, .int .i64 0] 36))
  have HB := hide (al3_below w (.cells #[.int .i64 r, .int .i64 g, .int .i64 b, .int .i64 a] 36) (.cells #[.int .i64 r, .int .i64 g, .int .i64 b, .int .i64 a] 36) (.cells #[.int .i64 0, .int .i64 0, .int .i64 0, .int .i64 0] 36))
  have cq := jn _ _ h (unhide HB)
  obtain ⟨b3, hb3⟩ : ∃ b, Hid (b = w.heap.size + 1 + 1) := ⟨_, rfl⟩
  obtain ⟨b2, hb2⟩ : ∃ b, Hid (b = w.heap.size + 1) := ⟨_, rfl⟩
  obtain ⟨b1, hb1⟩ : ∃ b, Hid (b = w.heap.size) := ⟨_, rfl⟩
  have lz : Hid (w.heap.size ≤ b3 ∧ b1 < b3 ∧ b2 < b3) := by unfold Hid; rw [unhide hb3, unhide hb2, unhide hb1]; omega
  rw [← unhide hb3] at R3
  rw [← unhide hb2] at R2
  rw [← unhide hb1] at R1
  rw [← unhide hb3, ← unhide hb2, ← unhide hb1]
  generalize ((w.alloc (.cells #[.int .i64 r, .int .i64 g, .int .i64 b, .int .i64 a] 36)).alloc (.cells #[.int .i64 r, .int .i64 g, .int .i64 b, .int .i64 a] 36)).alloc (.cells #[.int .i64 0, .int .i64 0, .int .i64 0, .int .i64 0] 36) = W at R1 R2 R3 HB cq ⊢
  clear hb3 hb2 hb1 h
  have ne1 : ¬ b3 = b1 := by have := unhide lz; omega
  have ne2 : ¬ b1 = b3 := by have := unhide lz; omega
  have ne3 : ¬ b3 = b2 := by have := unhide lz; omega
  have ne4 : ¬ b2 = b3 := by have := unhide lz; omega
  have l6 := hide (show b3 ≤ W.heap.size from Nat.le_of_lt (heap_lt (unhide R3)))
  have cq0 := hide (jn _ _ cq (Below.refl W.heap.size W).drew)
  replace cq := hide cq
  have k0 := hide (show ∀ u, Below b3 W u → (u.cell? ⟨b1, 0, none⟩ = some (.int .i64 r) ∧ u.cell? ⟨b1, 1, none⟩ = some (.int .i64 g) ∧ u.cell? ⟨b1, 2, none⟩ = some (.int .i64 b) ∧ u.cell? ⟨b1, 3, none⟩ = some (.int .i64 a) ∧ u.cell? ⟨b2, 0, none⟩ = some (.int .i64 r) ∧ u.cell? ⟨b2, 1, none⟩ = some (.int .i64 g) ∧ u.cell? ⟨b2, 2, none⟩ = some (.int .i64 b) ∧ u.cell? ⟨b2, 3, none⟩ = some (.int .i64 a) ∧ Below b3 W u) from fun u h => by
    obtain ⟨c0, c1, c2, c3⟩ := row4 ((h.block b1 (unhide lz).2.1).trans (unhide R1))
    obtain ⟨d0, d1, d2, d3⟩ := row4 ((h.block b2 (unhide lz).2.2).trans (unhide R2))
    exact ⟨c0, c1, c2, c3, d0, d1, d2, d3, h⟩)
  have k1 := hide (show ∀ u, Below W.heap.size W u → (u.cell? ⟨b3, 0, none⟩ = some (.int .i64 0) ∧ u.cell? ⟨b3, 1, none⟩ = some (.int .i64 0) ∧ u.cell? ⟨b3, 2, none⟩ = some (.int .i64 0) ∧ u.cell? ⟨b3, 3, none⟩ = some (.int .i64 0) ∧ u.frozen? ⟨b3, 0, none⟩ = false ∧ u.frozen? ⟨b3, 1, none⟩ = false ∧ u.frozen? ⟨b3, 2, none⟩ = false ∧ u.frozen? ⟨b3, 3, none⟩ = false) from fun u h => by
    obtain ⟨e0, e1, e2, e3⟩ := row4 (row_next h (unhide R3))
    obtain ⟨f0, f1, f2, f3⟩ := free4 (row_next h (unhide R3))
    exact ⟨e0, e1, e2, e3, f0, f1, f2, f3⟩)
  have k00 := hide (unhide k0 _ (Below.refl _ _).drew)
  replace jn := hide jn
  go_region_held3 (fun u => u.cell? ⟨b1, 0, none⟩ = some (.int .i64 r) ∧ u.cell? ⟨b1, 1, none⟩ = some (.int .i64 g) ∧ u.cell? ⟨b1, 2, none⟩ = some (.int .i64 b) ∧ u.cell? ⟨b1, 3, none⟩ = some (.int .i64 a) ∧ u.cell? ⟨b2, 0, none⟩ = some (.int .i64 r) ∧ u.cell? ⟨b2, 1, none⟩ = some (.int .i64 g) ∧ u.cell? ⟨b2, 2, none⟩ = some (.int .i64 b) ∧ u.cell? ⟨b2, 3, none⟩ = some (.int .i64 a) ∧ Below b3 W u) ((first | with_reducible exact unhide k00 | (with_reducible refine unhide k0 _ ?_; first | with_reducible exact Below.mono (by assumption) (unhide l6) | (with_reducible refine below_put4 ?_ (Nat.le_refl _) _ _ _ _; with_reducible exact Below.mono (by assumption) (unhide l6))))) (first | (go_at_call 111; go_fit (unhide K0 _ (unhide cq0)); rintro e w4 ⟨rfl, hb1⟩; have h1 := below_undrew hb1; have cq1 := hide (unhide jn _ _ (unhide cq) h1); clear hb1) | (go_at_call 111; go_fit (unhide K1 _ (unhide cq1)); rintro e w5 ⟨rfl, hb2⟩; have h2 := below_two h1 hb2; clear h1 cq1; have cq2 := hide (unhide jn _ _ (unhide cq) h2); clear hb2) | (go_at_call 111; go_fit (unhide K2 _ (unhide cq2)); rintro e w6 ⟨rfl, hb3⟩; have h3 := below_two h2 hb3; clear h2 cq2; have cq3 := hide (unhide jn _ _ (unhide cq) h3); clear hb3) | (go_at_call 111; go_fit (unhide K3 _ (unhide cq3)); rintro e w7 ⟨rfl, hb4⟩; have h4 := below_two h3 hb4; clear h3 cq3; clear hb4; obtain ⟨e0, e1, e2, e3, f0, f1, f2, f3⟩ := unhide k1 _ h4))
  all_goals
    go_wp2_with fail
    refine bodyPost_ret (v := .agg #[.int .i64 m0, .int .i64 m1, .int .i64 m2, .int .i64 m3]) (by simp [results, Tryz.results74, go_sem, e0, e1, e2, e3]) rfl ⟨rfl, ?_⟩
    exact below_put4 (below_two (unhide HB) h4) (unhide lz).1 _ _ _ _

theorem implThin1_any (q : Nat) (x n : Int) (hx : 0 ≤ x ∧ x ≤ 255) (hn : 0 ≤ n ∧ n ≤ 4) (w : World) (h : w.cell? ⟨q, 0, none⟩ = some (.int .i64 n)) :
    Calls Tryz.prog 80 #[.int .i64 x, .pointer (some ⟨q, 0, none⟩)] w fun e w' => e = .returned (.int .i64 (rdivI (x * n) 4)) ∧ Below w.heap.size w w' := by
  have z0 : 0 ≤ x * n ∧ x * n ≤ 255 * 4 := ⟨Int.mul_nonneg hx.1 hn.1, Int.mul_le_mul hx.2 hn.2 hn.1 (by decide)⟩
  have v0 : IntKind.i64.wrap (x * n) = x * n := IntWalk.i64_in _ (by omega)
  have E := hide (implRoundDiv_any (x * n) 4 (by omega) (by omega) (by omega))
  generalize rdivI (x * n) 4 = V at E ⊢
  clear z0 hx hn
  go_enter Tryz.func80, Tryz.ntmps80
  go_wp2_with fail
  go_fit (unhide E _)
  rintro e w1 ⟨rfl, hb⟩
  go_wp2_with fail
  go_ret
  exact ⟨rfl, hb⟩

theorem implLess1_thin (p q : Nat) (x y n : Int) (hx : 0 ≤ x ∧ x ≤ 255) (hn : 0 ≤ n ∧ n ≤ 4) (w : World) (hp : w.cell? ⟨p, 0, none⟩ = some (.func (.func 80) #[] #[.pointer (some ⟨q, 0, none⟩)])) (h : w.cell? ⟨q, 0, none⟩ = some (.int .i64 n)) :
    Calls Tryz.prog 111 #[.int .i64 x, .int .i64 y, .pointer (some ⟨p, 0, none⟩)] w fun e w' => e = .returned (.int .i64 (rdivI (x * n) 4)) ∧ Below w.heap.size w w' := by
  have E := hide (fun u h => implThin1_any q x n hx hn u h)
  generalize rdivI (x * n) 4 = V at E ⊢
  clear hx hn
  go_enter Tryz.func111, Tryz.ntmps111
  go_wp2_with fail
  go_fit (unhide E _ h)
  rintro e w1 ⟨rfl, hb⟩
  go_wp2_with fail
  go_ret
  exact ⟨rfl, hb⟩

set_option maxHeartbeats 4000000 in
set_option maxRecDepth 100000 in
theorem implLessened_thin (q : Nat) (r g b a n : Int) (h0 : 0 ≤ r ∧ r ≤ 255) (h1 : 0 ≤ g ∧ g ≤ 255) (h2 : 0 ≤ b ∧ b ≤ 255) (h3 : 0 ≤ a ∧ a ≤ 255) (hn : 0 ≤ n ∧ n ≤ 4) (w : World) (h : w.cell? ⟨q, 0, none⟩ = some (.int .i64 n)) :
    Calls Tryz.prog 77 #[.agg #[.int .i64 r, .int .i64 g, .int .i64 b, .int .i64 a], .func (.func 80) #[] #[.pointer (some ⟨q, 0, none⟩)]] w fun e w' => e = .returned (.agg #[.int .i64 (rdivI (r * n) 4), .int .i64 (rdivI (g * n) 4), .int .i64 (rdivI (b * n) 4), .int .i64 (rdivI (a * n) 4)]) ∧ Below w.heap.size w w' := by
  have EE := hide (fun p => implEachPart_less p r g b a (rdivI (r * n) 4) (rdivI (g * n) 4) (rdivI (b * n) 4) (rdivI (a * n) 4) (fun u => u.cell? ⟨p, 0, none⟩ = some (.func (.func 80) #[] #[.pointer (some ⟨q, 0, none⟩)]) ∧ u.cell? ⟨q, 0, none⟩ = some (.int .i64 n)) (fun u u' j hb => ⟨kc hb j.1, kc hb j.2⟩)
    (fun u j => implLess1_thin p q r r n h0 hn u j.1 j.2) (fun u j => implLess1_thin p q g g n h1 hn u j.1 j.2) (fun u j => implLess1_thin p q b b n h2 hn u j.1 j.2) (fun u j => implLess1_thin p q a a n h3 hn u j.1 j.2))
  generalize rdivI (r * n) 4 = m0 at EE ⊢
  generalize rdivI (g * n) 4 = m1 at EE ⊢
  generalize rdivI (b * n) 4 = m2 at EE ⊢
  generalize rdivI (a * n) 4 = m3 at EE ⊢
  clear h0 h1 h2 h3 hn
  go_enter Tryz.func77, Tryz.ntmps77
  go_upto_region 1 with fail
  have R1 := hide (al3_0 w (.cells #[.int .i64 r, .int .i64 g, .int .i64 b, .int .i64 a] 36) (.cells #[.func (.func 80) #[] #[.pointer (some ⟨q, 0, none⟩)]] 50) (.cells #[.int .i64 0, .int .i64 0, .int .i64 0, .int .i64 0] 36))
  have R2 := hide (al3_1 w (.cells #[.int .i64 r, .int .i64 g, .int .i64 b, .int .i64 a] 36) (.cells #[.func (.func 80) #[] #[.pointer (some ⟨q, 0, none⟩)]] 50) (.cells #[.int .i64 0, .int .i64 0, .int .i64 0, .int .i64 0] 36))
  have R3 := hide (al3_2 w (.cells #[.int .i64 r, .int .i64 g, .int .i64 b, .int .i64 a] 36) (.cells #[.func (.func 80) #[] #[.pointer (some ⟨q, 0, none⟩)]] 50) (.cells #[.int .i64 0, .int .i64 0, .int .i64 0, .int .i64 0] 36))
  have HB := hide (al3_below w (.cells #[.int .i64 r, .int .i64 g, .int .i64 b, .int .i64 a] 36) (.cells #[.func (.func 80) #[] #[.pointer (some ⟨q, 0, none⟩)]] 50) (.cells #[.int .i64 0, .int .i64 0, .int .i64 0, .int .i64 0] 36))
  have cq := hide (kc (unhide HB) h)
  obtain ⟨b3, hb3⟩ : ∃ b, Hid (b = w.heap.size + 1 + 1) := ⟨_, rfl⟩
  obtain ⟨b2, hb2⟩ : ∃ b, Hid (b = w.heap.size + 1) := ⟨_, rfl⟩
  obtain ⟨b1, hb1⟩ : ∃ b, Hid (b = w.heap.size) := ⟨_, rfl⟩
  have lz : Hid (w.heap.size ≤ b3 ∧ b1 < b3 ∧ b2 < b3) := by unfold Hid; rw [unhide hb3, unhide hb2, unhide hb1]; omega
  rw [← unhide hb3] at R3
  rw [← unhide hb2] at R2
  rw [← unhide hb1] at R1
  rw [← unhide hb3, ← unhide hb2, ← unhide hb1]
  generalize ((w.alloc (.cells #[.int .i64 r, .int .i64 g, .int .i64 b, .int .i64 a] 36)).alloc (.cells #[.func (.func 80) #[] #[.pointer (some ⟨q, 0, none⟩)]] 50)).alloc (.cells #[.int .i64 0, .int .i64 0, .int .i64 0, .int .i64 0] 36) = W at R1 R2 R3 HB cq ⊢
  clear hb3 hb2 hb1 h
  obtain ⟨c0, c1, c2, c3⟩ := row4 (unhide R1)
  go_wp2_with fail
  go_fit (unhide EE _ _ ⟨cell_lone (unhide R2), unhide cq⟩)
  rintro e w1 ⟨rfl, hb⟩
  replace R3 := hide (row_next hb (unhide R3))
  replace HB := hide (below_two (unhide HB) hb)
  clear hb c0 c1 c2 c3
  obtain ⟨e0, e1, e2, e3⟩ := row4 (unhide R3)
  obtain ⟨f0, f1, f2, f3⟩ := free4 (unhide R3)
  go_wp2_with fail
  refine bodyPost_ret (v := .agg #[.int .i64 m0, .int .i64 m1, .int .i64 m2, .int .i64 m3]) (by simp [results, Tryz.results77, go_sem, e0, e1, e2, e3]) rfl ⟨rfl, ?_⟩
  exact below_put4 (unhide HB) (unhide lz).1 _ _ _ _

set_option maxHeartbeats 8000000 in
set_option maxRecDepth 100000 in
theorem implThin_any (r g b a n : Int) (w : World) :
    Calls Tryz.prog 34 #[.agg #[.int .i64 r, .int .i64 g, .int .i64 b, .int .i64 a], .int .i64 n] w fun e w' => e = .returned (.agg #[.int .i64 ((thinC ⟨r, g, b, a⟩ n).x0), .int .i64 ((thinC ⟨r, g, b, a⟩ n).y0), .int .i64 ((thinC ⟨r, g, b, a⟩ n).x1), .int .i64 ((thinC ⟨r, g, b, a⟩ n).y1)]) ∧ Below w.heap.size w w' := by
  have E := hide (implLaidOk_any r g b a)
  have hH : Hid (thinC ⟨r, g, b, a⟩ n = if laidOkB ⟨r, g, b, a⟩ = true ∧ inB n 0 4 = true then ⟨rdivI (r * n) 4, rdivI (g * n) 4, rdivI (b * n) 4, rdivI (a * n) 4⟩ else ⟨0, 0, 0, 0⟩) := rfl
  have hok : Hid (laidOkB ⟨r, g, b, a⟩ = true → ((0 ≤ r ∧ r ≤ 255) ∧ (0 ≤ g ∧ g ≤ 255) ∧ (0 ≤ b ∧ b ≤ 255) ∧ (0 ≤ a ∧ a ≤ 255))) := fun h => by
    have h1 := laidOk_iff.1 h
    dsimp only at h1
    omega
  generalize laidOkB ⟨r, g, b, a⟩ = X at E hH hok
  generalize thinC ⟨r, g, b, a⟩ n = C at hH ⊢
  go_enter Tryz.func34, Tryz.ntmps34
  go_upto_region 1 with fail
  have R1 := hide (al3_0 w (.cells #[.int .i64 r, .int .i64 g, .int .i64 b, .int .i64 a] 36) (.cells #[.int .i64 n] 3) (.cells #[.int .i64 0, .int .i64 0, .int .i64 0, .int .i64 0] 36))
  have R2 := hide (al3_1 w (.cells #[.int .i64 r, .int .i64 g, .int .i64 b, .int .i64 a] 36) (.cells #[.int .i64 n] 3) (.cells #[.int .i64 0, .int .i64 0, .int .i64 0, .int .i64 0] 36))
  have R3 := hide (al3_2 w (.cells #[.int .i64 r, .int .i64 g, .int .i64 b, .int .i64 a] 36) (.cells #[.int .i64 n] 3) (.cells #[.int .i64 0, .int .i64 0, .int .i64 0, .int .i64 0] 36))
  have HB := hide (al3_below w (.cells #[.int .i64 r, .int .i64 g, .int .i64 b, .int .i64 a] 36) (.cells #[.int .i64 n] 3) (.cells #[.int .i64 0, .int .i64 0, .int .i64 0, .int .i64 0] 36))
  obtain ⟨b3, hb3⟩ : ∃ b, Hid (b = w.heap.size + 1 + 1) := ⟨_, rfl⟩
  obtain ⟨b2, hb2⟩ : ∃ b, Hid (b = w.heap.size + 1) := ⟨_, rfl⟩
  obtain ⟨b1, hb1⟩ : ∃ b, Hid (b = w.heap.size) := ⟨_, rfl⟩
  have lz : Hid (w.heap.size ≤ b3 ∧ b1 < b3 ∧ b2 < b3) := by unfold Hid; rw [unhide hb3, unhide hb2, unhide hb1]; omega
  rw [← unhide hb3] at R3
  rw [← unhide hb2] at R2
  rw [← unhide hb1] at R1
  rw [← unhide hb3, ← unhide hb2, ← unhide hb1]
  generalize ((w.alloc (.cells #[.int .i64 r, .int .i64 g, .int .i64 b, .int .i64 a] 36)).alloc (.cells #[.int .i64 n] 3)).alloc (.cells #[.int .i64 0, .int .i64 0, .int .i64 0, .int .i64 0] 36) = W at R1 R2 R3 HB ⊢
  clear hb3 hb2 hb1
  obtain ⟨q0, q1, q2, q3⟩ := row4 (unhide R1)
  go_wp2_with fail
  go_fit (unhide E _)
  rintro e w1 ⟨rfl, hb⟩
  replace R1 := hide (row_next hb (unhide R1))
  replace R2 := hide (row_next hb (unhide R2))
  replace R3 := hide (row_next hb (unhide R3))
  replace HB := hide (below_two (unhide HB) hb)
  clear hb q0 q1 q2 q3
  obtain ⟨q0, q1, q2, q3⟩ := row4 (unhide R1)
  have n0 := cell_lone (unhide R2)
  obtain ⟨e0, e1, e2, e3⟩ := row4 (unhide R3)
  obtain ⟨f0, f1, f2, f3⟩ := free4 (unhide R3)
  cases X with
  | false =>
    have hC := hide (show C = ⟨0, 0, 0, 0⟩ by rw [unhide hH]; exact if_neg (fun e => absurd e.1 (by decide)))
    go_wp2_with fail
    refine bodyPost_ret (v := .agg #[.int .i64 0, .int .i64 0, .int .i64 0, .int .i64 0]) (by simp [results, Tryz.results34, go_sem, e0, e1, e2, e3]) rfl ⟨by rw [unhide hC], ?_⟩
    exact below_put4 (unhide HB) (unhide lz).1 _ _ _ _
  | true =>
  by_cases l0 : n < 0
  · have hC := hide (show C = ⟨0, 0, 0, 0⟩ by rw [unhide hH]; exact if_neg (fun e => absurd (inB_true.1 e.2) (by omega)))
    go_wp2_with fail
    refine bodyPost_ret (v := .agg #[.int .i64 0, .int .i64 0, .int .i64 0, .int .i64 0]) (by simp [results, Tryz.results34, go_sem, e0, e1, e2, e3]) rfl ⟨by rw [unhide hC], ?_⟩
    exact below_put4 (unhide HB) (unhide lz).1 _ _ _ _
  by_cases l1 : 4 < n
  · have hC := hide (show C = ⟨0, 0, 0, 0⟩ by rw [unhide hH]; exact if_neg (fun e => absurd (inB_true.1 e.2) (by omega)))
    go_wp2_with fail
    refine bodyPost_ret (v := .agg #[.int .i64 0, .int .i64 0, .int .i64 0, .int .i64 0]) (by simp [results, Tryz.results34, go_sem, e0, e1, e2, e3]) rfl ⟨by rw [unhide hC], ?_⟩
    exact below_put4 (unhide HB) (unhide lz).1 _ _ _ _
  have hin : 0 ≤ n ∧ n ≤ 4 := by omega
  have hC := hide (show C = ⟨rdivI (r * n) 4, rdivI (g * n) 4, rdivI (b * n) 4, rdivI (a * n) 4⟩ by rw [unhide hH]; exact if_pos ⟨by trivial, inB_true.2 hin⟩)
  obtain ⟨p0, p1, p2, p3⟩ := unhide hok (by trivial)
  have EL := hide (fun q u h => implLessened_thin q r g b a n p0 p1 p2 p3 hin u h)
  generalize rdivI (r * n) 4 = m0 at EL hC
  generalize rdivI (g * n) 4 = m1 at EL hC
  generalize rdivI (b * n) 4 = m2 at EL hC
  generalize rdivI (a * n) 4 = m3 at EL hC
  clear p0 p1 p2 p3 hok hH E
  go_wp2_with fail
  go_fit (unhide EL _ _ n0)
  rintro e w2 ⟨rfl, hb⟩
  replace R3 := hide (row_next hb (unhide R3))
  replace HB := hide (below_two (unhide HB) hb)
  clear hb q0 q1 q2 q3 n0 e0 e1 e2 e3 f0 f1 f2 f3
  obtain ⟨e0, e1, e2, e3⟩ := row4 (unhide R3)
  obtain ⟨f0, f1, f2, f3⟩ := free4 (unhide R3)
  go_wp2_with fail
  refine bodyPost_ret (v := .agg #[.int .i64 m0, .int .i64 m1, .int .i64 m2, .int .i64 m3]) (by simp [results, Tryz.results34, go_sem, e0, e1, e2, e3]) rfl ⟨by rw [unhide hC], ?_⟩
  exact below_put4 (unhide HB) (unhide lz).1 _ _ _ _

theorem implFade1_any (q : Nat) (x n : Int) (hx : 0 ≤ x ∧ x ≤ 255) (hn : 0 ≤ n ∧ n ≤ 255) (w : World) (h : w.cell? ⟨q, 0, none⟩ = some (.int .i64 n)) :
    Calls Tryz.prog 78 #[.int .i64 x, .pointer (some ⟨q, 0, none⟩)] w fun e w' => e = .returned (.int .i64 (t255I x n)) ∧ Below w.heap.size w w' := by
  have E := hide (implTimes255_any x n)
  generalize t255I x n = V at E ⊢
  clear hx hn
  go_enter Tryz.func78, Tryz.ntmps78
  go_wp2_with fail
  go_fit (unhide E _)
  rintro e w1 ⟨rfl, hb⟩
  go_wp2_with fail
  go_ret
  exact ⟨rfl, hb⟩

theorem implLess1_fade (p q : Nat) (x y n : Int) (hx : 0 ≤ x ∧ x ≤ 255) (hn : 0 ≤ n ∧ n ≤ 255) (w : World) (hp : w.cell? ⟨p, 0, none⟩ = some (.func (.func 78) #[] #[.pointer (some ⟨q, 0, none⟩)])) (h : w.cell? ⟨q, 0, none⟩ = some (.int .i64 n)) :
    Calls Tryz.prog 111 #[.int .i64 x, .int .i64 y, .pointer (some ⟨p, 0, none⟩)] w fun e w' => e = .returned (.int .i64 (t255I x n)) ∧ Below w.heap.size w w' := by
  have E := hide (fun u h => implFade1_any q x n hx hn u h)
  generalize t255I x n = V at E ⊢
  clear hx hn
  go_enter Tryz.func111, Tryz.ntmps111
  go_wp2_with fail
  go_fit (unhide E _ h)
  rintro e w1 ⟨rfl, hb⟩
  go_wp2_with fail
  go_ret
  exact ⟨rfl, hb⟩

set_option maxHeartbeats 4000000 in
set_option maxRecDepth 100000 in
theorem implLessened_fade (q : Nat) (r g b a n : Int) (h0 : 0 ≤ r ∧ r ≤ 255) (h1 : 0 ≤ g ∧ g ≤ 255) (h2 : 0 ≤ b ∧ b ≤ 255) (h3 : 0 ≤ a ∧ a ≤ 255) (hn : 0 ≤ n ∧ n ≤ 255) (w : World) (h : w.cell? ⟨q, 0, none⟩ = some (.int .i64 n)) :
    Calls Tryz.prog 77 #[.agg #[.int .i64 r, .int .i64 g, .int .i64 b, .int .i64 a], .func (.func 78) #[] #[.pointer (some ⟨q, 0, none⟩)]] w fun e w' => e = .returned (.agg #[.int .i64 (t255I r n), .int .i64 (t255I g n), .int .i64 (t255I b n), .int .i64 (t255I a n)]) ∧ Below w.heap.size w w' := by
  have EE := hide (fun p => implEachPart_less p r g b a (t255I r n) (t255I g n) (t255I b n) (t255I a n) (fun u => u.cell? ⟨p, 0, none⟩ = some (.func (.func 78) #[] #[.pointer (some ⟨q, 0, none⟩)]) ∧ u.cell? ⟨q, 0, none⟩ = some (.int .i64 n)) (fun u u' j hb => ⟨kc hb j.1, kc hb j.2⟩)
    (fun u j => implLess1_fade p q r r n h0 hn u j.1 j.2) (fun u j => implLess1_fade p q g g n h1 hn u j.1 j.2) (fun u j => implLess1_fade p q b b n h2 hn u j.1 j.2) (fun u j => implLess1_fade p q a a n h3 hn u j.1 j.2))
  generalize t255I r n = m0 at EE ⊢
  generalize t255I g n = m1 at EE ⊢
  generalize t255I b n = m2 at EE ⊢
  generalize t255I a n = m3 at EE ⊢
  clear h0 h1 h2 h3 hn
  go_enter Tryz.func77, Tryz.ntmps77
  go_upto_region 1 with fail
  have R1 := hide (al3_0 w (.cells #[.int .i64 r, .int .i64 g, .int .i64 b, .int .i64 a] 36) (.cells #[.func (.func 78) #[] #[.pointer (some ⟨q, 0, none⟩)]] 50) (.cells #[.int .i64 0, .int .i64 0, .int .i64 0, .int .i64 0] 36))
  have R2 := hide (al3_1 w (.cells #[.int .i64 r, .int .i64 g, .int .i64 b, .int .i64 a] 36) (.cells #[.func (.func 78) #[] #[.pointer (some ⟨q, 0, none⟩)]] 50) (.cells #[.int .i64 0, .int .i64 0, .int .i64 0, .int .i64 0] 36))
  have R3 := hide (al3_2 w (.cells #[.int .i64 r, .int .i64 g, .int .i64 b, .int .i64 a] 36) (.cells #[.func (.func 78) #[] #[.pointer (some ⟨q, 0, none⟩)]] 50) (.cells #[.int .i64 0, .int .i64 0, .int .i64 0, .int .i64 0] 36))
  have HB := hide (al3_below w (.cells #[.int .i64 r, .int .i64 g, .int .i64 b, .int .i64 a] 36) (.cells #[.func (.func 78) #[] #[.pointer (some ⟨q, 0, none⟩)]] 50) (.cells #[.int .i64 0, .int .i64 0, .int .i64 0, .int .i64 0] 36))
  have cq := hide (kc (unhide HB) h)
  obtain ⟨b3, hb3⟩ : ∃ b, Hid (b = w.heap.size + 1 + 1) := ⟨_, rfl⟩
  obtain ⟨b2, hb2⟩ : ∃ b, Hid (b = w.heap.size + 1) := ⟨_, rfl⟩
  obtain ⟨b1, hb1⟩ : ∃ b, Hid (b = w.heap.size) := ⟨_, rfl⟩
  have lz : Hid (w.heap.size ≤ b3 ∧ b1 < b3 ∧ b2 < b3) := by unfold Hid; rw [unhide hb3, unhide hb2, unhide hb1]; omega
  rw [← unhide hb3] at R3
  rw [← unhide hb2] at R2
  rw [← unhide hb1] at R1
  rw [← unhide hb3, ← unhide hb2, ← unhide hb1]
  generalize ((w.alloc (.cells #[.int .i64 r, .int .i64 g, .int .i64 b, .int .i64 a] 36)).alloc (.cells #[.func (.func 78) #[] #[.pointer (some ⟨q, 0, none⟩)]] 50)).alloc (.cells #[.int .i64 0, .int .i64 0, .int .i64 0, .int .i64 0] 36) = W at R1 R2 R3 HB cq ⊢
  clear hb3 hb2 hb1 h
  obtain ⟨c0, c1, c2, c3⟩ := row4 (unhide R1)
  go_wp2_with fail
  go_fit (unhide EE _ _ ⟨cell_lone (unhide R2), unhide cq⟩)
  rintro e w1 ⟨rfl, hb⟩
  replace R3 := hide (row_next hb (unhide R3))
  replace HB := hide (below_two (unhide HB) hb)
  clear hb c0 c1 c2 c3
  obtain ⟨e0, e1, e2, e3⟩ := row4 (unhide R3)
  obtain ⟨f0, f1, f2, f3⟩ := free4 (unhide R3)
  go_wp2_with fail
  refine bodyPost_ret (v := .agg #[.int .i64 m0, .int .i64 m1, .int .i64 m2, .int .i64 m3]) (by simp [results, Tryz.results77, go_sem, e0, e1, e2, e3]) rfl ⟨rfl, ?_⟩
  exact below_put4 (unhide HB) (unhide lz).1 _ _ _ _

set_option maxHeartbeats 8000000 in
set_option maxRecDepth 100000 in
theorem implFade_any (r g b a n : Int) (w : World) :
    Calls Tryz.prog 33 #[.agg #[.int .i64 r, .int .i64 g, .int .i64 b, .int .i64 a], .int .i64 n] w fun e w' => e = .returned (.agg #[.int .i64 ((fadeC ⟨r, g, b, a⟩ n).x0), .int .i64 ((fadeC ⟨r, g, b, a⟩ n).y0), .int .i64 ((fadeC ⟨r, g, b, a⟩ n).x1), .int .i64 ((fadeC ⟨r, g, b, a⟩ n).y1)]) ∧ Below w.heap.size w w' := by
  have E := hide (implLaidOk_any r g b a)
  have hH : Hid (fadeC ⟨r, g, b, a⟩ n = if laidOkB ⟨r, g, b, a⟩ = true ∧ inB n 0 255 = true then ⟨t255I r n, t255I g n, t255I b n, t255I a n⟩ else ⟨0, 0, 0, 0⟩) := rfl
  have hok : Hid (laidOkB ⟨r, g, b, a⟩ = true → ((0 ≤ r ∧ r ≤ 255) ∧ (0 ≤ g ∧ g ≤ 255) ∧ (0 ≤ b ∧ b ≤ 255) ∧ (0 ≤ a ∧ a ≤ 255))) := fun h => by
    have h1 := laidOk_iff.1 h
    dsimp only at h1
    omega
  generalize laidOkB ⟨r, g, b, a⟩ = X at E hH hok
  generalize fadeC ⟨r, g, b, a⟩ n = C at hH ⊢
  go_enter Tryz.func33, Tryz.ntmps33
  go_upto_region 1 with fail
  have R1 := hide (al3_0 w (.cells #[.int .i64 r, .int .i64 g, .int .i64 b, .int .i64 a] 36) (.cells #[.int .i64 n] 3) (.cells #[.int .i64 0, .int .i64 0, .int .i64 0, .int .i64 0] 36))
  have R2 := hide (al3_1 w (.cells #[.int .i64 r, .int .i64 g, .int .i64 b, .int .i64 a] 36) (.cells #[.int .i64 n] 3) (.cells #[.int .i64 0, .int .i64 0, .int .i64 0, .int .i64 0] 36))
  have R3 := hide (al3_2 w (.cells #[.int .i64 r, .int .i64 g, .int .i64 b, .int .i64 a] 36) (.cells #[.int .i64 n] 3) (.cells #[.int .i64 0, .int .i64 0, .int .i64 0, .int .i64 0] 36))
  have HB := hide (al3_below w (.cells #[.int .i64 r, .int .i64 g, .int .i64 b, .int .i64 a] 36) (.cells #[.int .i64 n] 3) (.cells #[.int .i64 0, .int .i64 0, .int .i64 0, .int .i64 0] 36))
  obtain ⟨b3, hb3⟩ : ∃ b, Hid (b = w.heap.size + 1 + 1) := ⟨_, rfl⟩
  obtain ⟨b2, hb2⟩ : ∃ b, Hid (b = w.heap.size + 1) := ⟨_, rfl⟩
  obtain ⟨b1, hb1⟩ : ∃ b, Hid (b = w.heap.size) := ⟨_, rfl⟩
  have lz : Hid (w.heap.size ≤ b3 ∧ b1 < b3 ∧ b2 < b3) := by unfold Hid; rw [unhide hb3, unhide hb2, unhide hb1]; omega
  rw [← unhide hb3] at R3
  rw [← unhide hb2] at R2
  rw [← unhide hb1] at R1
  rw [← unhide hb3, ← unhide hb2, ← unhide hb1]
  generalize ((w.alloc (.cells #[.int .i64 r, .int .i64 g, .int .i64 b, .int .i64 a] 36)).alloc (.cells #[.int .i64 n] 3)).alloc (.cells #[.int .i64 0, .int .i64 0, .int .i64 0, .int .i64 0] 36) = W at R1 R2 R3 HB ⊢
  clear hb3 hb2 hb1
  obtain ⟨q0, q1, q2, q3⟩ := row4 (unhide R1)
  go_wp2_with fail
  go_fit (unhide E _)
  rintro e w1 ⟨rfl, hb⟩
  replace R1 := hide (row_next hb (unhide R1))
  replace R2 := hide (row_next hb (unhide R2))
  replace R3 := hide (row_next hb (unhide R3))
  replace HB := hide (below_two (unhide HB) hb)
  clear hb q0 q1 q2 q3
  obtain ⟨q0, q1, q2, q3⟩ := row4 (unhide R1)
  have n0 := cell_lone (unhide R2)
  obtain ⟨e0, e1, e2, e3⟩ := row4 (unhide R3)
  obtain ⟨f0, f1, f2, f3⟩ := free4 (unhide R3)
  cases X with
  | false =>
    have hC := hide (show C = ⟨0, 0, 0, 0⟩ by rw [unhide hH]; exact if_neg (fun e => absurd e.1 (by decide)))
    go_wp2_with fail
    refine bodyPost_ret (v := .agg #[.int .i64 0, .int .i64 0, .int .i64 0, .int .i64 0]) (by simp [results, Tryz.results33, go_sem, e0, e1, e2, e3]) rfl ⟨by rw [unhide hC], ?_⟩
    exact below_put4 (unhide HB) (unhide lz).1 _ _ _ _
  | true =>
  have EN := hide (implPartOk_any n)
  have hn1 : Hid (inB n 0 255 = true → (0 ≤ n ∧ n ≤ 255)) := fun h => inB_true.1 h
  generalize inB n 0 255 = Y at EN hH hn1
  go_wp2_with fail
  go_fit (unhide EN _)
  rintro e u2 ⟨rfl, rfl⟩
  cases Y with
  | false =>
    have hC := hide (show C = ⟨0, 0, 0, 0⟩ by rw [unhide hH]; exact if_neg (fun e => absurd e.2 (by decide)))
    go_wp2_with fail
    refine bodyPost_ret (v := .agg #[.int .i64 0, .int .i64 0, .int .i64 0, .int .i64 0]) (by simp [results, Tryz.results33, go_sem, e0, e1, e2, e3]) rfl ⟨by rw [unhide hC], ?_⟩
    exact below_put4 (unhide HB) (unhide lz).1 _ _ _ _
  | true =>
  have hin := unhide hn1 (by trivial)
  have hC := hide (show C = ⟨t255I r n, t255I g n, t255I b n, t255I a n⟩ by rw [unhide hH]; exact if_pos ⟨by trivial, by trivial⟩)
  obtain ⟨p0, p1, p2, p3⟩ := unhide hok (by trivial)
  have EL := hide (fun q u h => implLessened_fade q r g b a n p0 p1 p2 p3 hin u h)
  generalize t255I r n = m0 at EL hC
  generalize t255I g n = m1 at EL hC
  generalize t255I b n = m2 at EL hC
  generalize t255I a n = m3 at EL hC
  clear p0 p1 p2 p3 hok hH E
  go_wp2_with fail
  go_fit (unhide EL _ _ n0)
  rintro e w2 ⟨rfl, hb⟩
  replace R3 := hide (row_next hb (unhide R3))
  replace HB := hide (below_two (unhide HB) hb)
  clear hb q0 q1 q2 q3 n0 e0 e1 e2 e3 f0 f1 f2 f3
  obtain ⟨e0, e1, e2, e3⟩ := row4 (unhide R3)
  obtain ⟨f0, f1, f2, f3⟩ := free4 (unhide R3)
  go_wp2_with fail
  refine bodyPost_ret (v := .agg #[.int .i64 m0, .int .i64 m1, .int .i64 m2, .int .i64 m3]) (by simp [results, Tryz.results33, go_sem, e0, e1, e2, e3]) rfl ⟨by rw [unhide hC], ?_⟩
  exact below_put4 (unhide HB) (unhide lz).1 _ _ _ _

end Go.Proofs.YtngnleoggblinaaGreat

/-
  The walks of the program's chapter 5: boxes.
-/
namespace Go.Proofs.YtngnleoggblinaaGreat
open Go.RowKit

set_option maxHeartbeats 1000000 in
theorem implEmpty_any (a b c d : Int) (w : World) :
    Calls Tryz.prog 97 #[.agg #[.int .i64 a, .int .i64 b, .int .i64 c, .int .i64 d]] w fun r w' => r = .returned (.bool (emptyB a b c d)) ∧ Below w.heap.size w w' := by
  by_cases h1 : c ≤ a
  · have H : Hid (true = emptyB a b c d) := by unfold Hid emptyB; simp [h1]
    have d1 : decide (c ≤ a) = true := decide_eq_true h1
    go_enter Tryz.func97, Tryz.ntmps97
    go_wp2
    go_ret
    exact ⟨ret_bool' (unhide H), al1_below _ _⟩
  · have d1 : decide (c ≤ a) = false := decide_eq_false h1
    by_cases h2 : d ≤ b
    · have H : Hid (true = emptyB a b c d) := by unfold Hid emptyB; simp [h2]
      have d2 : decide (d ≤ b) = true := decide_eq_true h2
      go_enter Tryz.func97, Tryz.ntmps97
      go_wp2
      go_ret
      exact ⟨ret_bool' (unhide H), al1_below _ _⟩
    · have H : Hid (false = emptyB a b c d) := by unfold Hid emptyB; simp [h1, h2]
      have d2 : decide (d ≤ b) = false := decide_eq_false h2
      go_enter Tryz.func97, Tryz.ntmps97
      go_wp2
      go_ret
      exact ⟨ret_bool' (unhide H), al1_below _ _⟩

set_option maxHeartbeats 2000000 in
theorem implInBox_any (a b c d x y : Int) (w : World) :
    Calls Tryz.prog 40 #[.agg #[.int .i64 a, .int .i64 b, .int .i64 c, .int .i64 d], .agg #[.int .i64 x, .int .i64 y]] w fun r w' => r = .returned (.bool (inBoxB a b c d x y)) ∧ Below w.heap.size w w' := by
  by_cases n1 : a ≤ x
  · have d0 : decide (a ≤ x) = true := decide_eq_true n1
    by_cases n2 : x < c
    · have d1 : decide (x < c) = true := decide_eq_true n2
      by_cases n3 : b ≤ y
      · have d2 : decide (b ≤ y) = true := decide_eq_true n3
        by_cases n4 : y < d
        · have d3 : decide (y < d) = true := decide_eq_true n4
          have H : Hid (true = inBoxB a b c d x y) := by unfold Hid inBoxB; simp [n1, n2, n3, n4]
          go_enter Tryz.func40, Tryz.ntmps40
          go_wp2
          go_ret
          exact ⟨ret_bool' (unhide H), al2_below _ _ _⟩
        · have d3 : decide (y < d) = false := decide_eq_false n4
          have H : Hid (false = inBoxB a b c d x y) := by unfold Hid inBoxB; simp [n1, n2, n3, n4]
          go_enter Tryz.func40, Tryz.ntmps40
          go_wp2
          go_ret
          exact ⟨ret_bool' (unhide H), al2_below _ _ _⟩
      · have d2 : decide (b ≤ y) = false := decide_eq_false n3
        have H : Hid (false = inBoxB a b c d x y) := by unfold Hid inBoxB; simp [n1, n2, n3]
        go_enter Tryz.func40, Tryz.ntmps40
        go_wp2
        go_ret
        exact ⟨ret_bool' (unhide H), al2_below _ _ _⟩
    · have d1 : decide (x < c) = false := decide_eq_false n2
      have H : Hid (false = inBoxB a b c d x y) := by unfold Hid inBoxB; simp [n1, n2]
      go_enter Tryz.func40, Tryz.ntmps40
      go_wp2
      go_ret
      exact ⟨ret_bool' (unhide H), al2_below _ _ _⟩
  · have d0 : decide (a ≤ x) = false := decide_eq_false n1
    have H : Hid (false = inBoxB a b c d x y) := by unfold Hid inBoxB; simp [n1]
    go_enter Tryz.func40, Tryz.ntmps40
    go_wp2
    go_ret
    exact ⟨ret_bool' (unhide H), al2_below _ _ _⟩

set_option maxHeartbeats 1000000 in
set_option maxRecDepth 100000 in
theorem implBoxWithin_any (a b c d L : Int) (hL : 0 ≤ L ∧ L ≤ 41943040) (w : World) :
    Calls Tryz.prog 96 #[.agg #[.int .i64 a, .int .i64 b, .int .i64 c, .int .i64 d], .int .i64 L] w fun r w' => r = .returned (.agg #[.int .i64 (clampI a (-L) L), .int .i64 (clampI b (-L) L), .int .i64 (clampI c (-L) L), .int .i64 (clampI d (-L) L)]) ∧ Below w.heap.size w w' := by
  have K := hide (fun x => implClamp_any x (-L) L)
  have e0 : IntKind.i64.wrap (-L) = -L := IntWalk.i64_in _ (by omega)
  generalize clampI = cl at K ⊢
  clear hL
  go_enter Tryz.func96, Tryz.ntmps96
  go_wp2_with fail
  obtain ⟨W, hW⟩ : ∃ W, W = (w.alloc (.cells #[.int .i64 a, .int .i64 b, .int .i64 c, .int .i64 d] 29)).alloc (.cells #[.int .i64 0, .int .i64 0, .int .i64 0, .int .i64 0] 29) := ⟨_, rfl⟩
  obtain ⟨a0, a1, a2, a3⟩ := row4 (w1 := W) (b := w.heap.size) (by rw [hW]; exact al2_0 _ _ _)
  have R : W.heap[w.heap.size + 1]? = some (.cells #[.int .i64 0, .int .i64 0, .int .i64 0, .int .i64 0] 29 (0, 0)) := by rw [hW]; exact al2_1 _ _ _
  obtain ⟨r0, r1, r2, r3⟩ := row4 R
  obtain ⟨f0, f1, f2, f3⟩ := free4 R
  have HB := hide (show Below w.heap.size w W by rw [hW]; exact al2_below _ _ _)
  rw [← hW]
  clear hW R
  have ne1 : ¬ w.heap.size + 1 = w.heap.size := by omega
  have ne2 : ¬ w.heap.size = w.heap.size + 1 := by omega
  go_region_held3 (fun u => u.cell? ⟨w.heap.size, 0, none⟩ = some (.int .i64 a) ∧ u.cell? ⟨w.heap.size, 1, none⟩ = some (.int .i64 b) ∧ u.cell? ⟨w.heap.size, 2, none⟩ = some (.int .i64 c) ∧ u.cell? ⟨w.heap.size, 3, none⟩ = some (.int .i64 d)) (go_keep) (first | (go_at_call 102; go_fit (unhide K _ _); rintro r w4 ⟨rfl, rfl⟩))
  all_goals
    go_wp2_with fail
    refine bodyPost_ret (v := .agg #[.int .i64 (cl a (-L) L), .int .i64 (cl b (-L) L), .int .i64 (cl c (-L) L), .int .i64 (cl d (-L) L)]) (by simp [results, Tryz.results96, go_sem, r0, r1, r2, r3]) rfl ⟨rfl, ?_⟩
    exact below_put4 (below_drews (unhide HB) 1) (by omega) _ _ _ _

end Go.Proofs.YtngnleoggblinaaGreat

/-
  The program's surfaces: sides, places, right surfaces, new ones, their squares, copies.
-/
namespace Go.Proofs.YtngnleoggblinaaGreat
open Go.RowKit
set_option linter.unusedVariables false

theorem implSideOk_any (x : Int) (w : World) :
    Calls Tryz.prog 36 #[.int .i64 x] w fun e w' => e = .returned (.bool (inB x 1 12)) ∧ w' = w := by
  by_cases h1 : 1 ≤ x
  · by_cases h2 : x ≤ 12
    · have H : Hid (true = inB x 1 12) := (inB_true.2 ⟨h1, h2⟩).symm
      go_enter Tryz.func36, Tryz.ntmps36
      go_wp2_with fail
      go_ret
      exact ⟨ret_bool (unhide H), rfl⟩
    · have H : Hid (false = inB x 1 12) := by unfold Hid inB; simp [h1, h2]
      go_enter Tryz.func36, Tryz.ntmps36
      go_wp2_with fail
      go_ret
      exact ⟨ret_bool (unhide H), rfl⟩
  · have H : Hid (false = inB x 1 12) := by unfold Hid inB; simp [h1]
    go_enter Tryz.func36, Tryz.ntmps36
    go_wp2_with fail
    go_ret
    exact ⟨ret_bool (unhide H), rfl⟩

set_option maxHeartbeats 4000000 in
theorem implPixPlace_any (x y px py : Int) (v : Value) (h1 : IntKind.i64.wrap (py * x) = py * x) (h2 : IntKind.i64.wrap (py * x + px) = py * x + px) (w : World) :
    Calls Tryz.prog 42 #[.agg #[.int .i64 x, .int .i64 y, v], .int .i64 px, .int .i64 py] w fun r w' => r = .returned (.int .i64 (py * x + px)) ∧ Below w.heap.size w w' := by
  go_enter Tryz.func42, Tryz.ntmps42
  go_wp2_with fail
  go_ret
  exact ⟨rfl, al1_below _ _⟩

theorem notNilCols (w : World) (a : Addr) (n c : Nat) : (binOp .eql 24 (.slice (some a) n c) (.slice none 0 0)).run Tryz.prog w = .ok (.bool false) w := by kernel_rfl
theorem nilCols (w : World) : (binOp .eql 24 (.slice none 0 0) (.slice none 0 0)).run Tryz.prog w = .ok (.bool true) w := by kernel_rfl

attribute [local go_sem ↓] notNilCols nilCols in
set_option maxHeartbeats 4000000 in
theorem cloneCols_any (f : Nat → B4) (ao : Option Addr) (n c : Nat) (hn : n ≤ 1048576) (hc : n ≤ c) (hao : ao = none → c = 0) (w : World) (P : ∀ i, i < n → ClAt w ao i (f i)) :
    Calls Tryz.prog 66 #[.slice ao n c] w fun r w' => ∃ av cv, r = .returned (.slice av n cv) ∧ ColsV w' w.heap.size (.slice av n cv) n f ∧ Below w.heap.size w w' := by
  cases ao with
  | none =>
    obtain rfl := hao rfl
    obtain rfl : n = 0 := by omega
    go_enter Tryz.func66, Tryz.ntmps66
    go_wp2_with fail
    go_ret
    exact ⟨_, _, rfl, cols_none _ _ _, Below.refl _ _⟩
  | some ad =>
    obtain ⟨i1, hi1, hz1, hs1, hb1⟩ := info_parts infoColor
    have oE := hide (show (w.alloc (.cells #[] 36)).ownsRow w.heap.size 36 4 (.slice (some ⟨w.heap.size, 0, none⟩) 0 0) 0 [] from World.ownsRow_lit w #[] 0 (Nat.le_refl _) (by decide) rfl)
    have VE := hide (show ∀ j u, (colsL f n)[j]? = some u → (w.alloc (.cells #[] 36)).cell? (ad.add j) = some u from by
      rcases Nat.eq_zero_or_pos n with h0 | h0
      · subst h0; intro j u hu; simp [colsL, csV] at hu
      · obtain ⟨s0, o0, e, _⟩ := P 0 h0
        cases e
        exact colsL_cells (fun i hi => (P i hi).next (al1_below w (.cells #[] 36))))
    clear P
    go_enter Tryz.func66, Tryz.ntmps66
    go_wp2_with (at_builtin; go_must (refine wpList_append_own (w.alloc (.cells #[] 36)) rfl _ _ 24 rfl w.heap.size 36 i1 (.agg #[.int .i64 0, .int .i64 0, .int .i64 0, .int .i64 0]) 4 32 Tryz.underlying24 hi1 hz1 hs1 hb1 rfl (by decide) _ 0 [] (by rfl) (unhide oE) ad n c (colsL f n) (by rfl) (colsL_len f n) (unhide VE) (colsL_one f n) (by unfold maxLen; omega) (by omega) (by simp) ?_); intro v1 w3 ho hg _; rw [Nat.zero_add, List.nil_append] at ho; obtain ⟨av, cv, rfl⟩ := own_form ho; have O1 := hide ho; have G3 := hide hg; clear ho hg)
    replace G3 := hide (below_of_grown (B := w.heap.size) (unhide G3) (by simp) (fun k hk => by simp [Value.ownBlock] at hk; omega))
    replace G3 := hide ((al1_below w (.cells #[] 36)).trans (unhide G3))
    go_ret
    exact ⟨av, cv, rfl, ⟨_, unhide O1, colsL_at f n⟩, unhide G3⟩

set_option maxHeartbeats 8000000 in
set_option maxRecDepth 100000 in
theorem implSurfaceCopy_any (x y : Int) (f : Nat → B4) (ao : Option Addr) (n cp : Nat) (hn : n ≤ 1048576) (hc : n ≤ cp) (hao : ao = none → cp = 0) (w : World) (P : ∀ i, i < n → ClAt w ao i (f i)) :
    Calls Tryz.prog 27 #[.agg #[.int .i64 x, .int .i64 y, .slice ao n cp]] w fun r w' => SurfRes w r w' x y n f := by
  have EC := hide (fun u (hu : Below w.heap.size w u) => cloneCols_any f ao n cp hn hc hao u (fun i hi => (P i hi).next hu))
  clear P
  unfold SurfRes
  go_enter Tryz.func27, Tryz.ntmps27
  go_upto_region 1 with fail
  have R := hide (al2_0 w (.cells #[.int .i64 x, .int .i64 y, .slice ao n cp] 26) (.cells #[.int .i64 0, .int .i64 0, .slice none 0 0] 26))
  have R2 := hide (al2_1 w (.cells #[.int .i64 x, .int .i64 y, .slice ao n cp] 26) (.cells #[.int .i64 0, .int .i64 0, .slice none 0 0] 26))
  have HB := hide (al2_below w (.cells #[.int .i64 x, .int .i64 y, .slice ao n cp] 26) (.cells #[.int .i64 0, .int .i64 0, .slice none 0 0] 26))
  obtain ⟨b2, hb2⟩ : ∃ b, Hid (b = w.heap.size + 1) := ⟨_, rfl⟩
  obtain ⟨b1, hb1⟩ : ∃ b, Hid (b = w.heap.size) := ⟨_, rfl⟩
  have lz : Hid (w.heap.size ≤ b2 ∧ b1 < b2) := by unfold Hid; rw [unhide hb2, unhide hb1]; omega
  rw [← unhide hb2] at R2
  rw [← unhide hb1] at R
  rw [← unhide hb2, ← unhide hb1]
  generalize (w.alloc (.cells #[.int .i64 x, .int .i64 y, .slice ao n cp] 26)).alloc (.cells #[.int .i64 0, .int .i64 0, .slice none 0 0] 26) = W at R R2 HB ⊢
  clear hb2 hb1
  have l6 := hide (show b2 < W.heap.size from heap_lt (unhide R2))
  have ne1 : ¬ b2 = b1 := by have := unhide lz; omega
  have ne2 : ¬ b1 = b2 := by have := unhide lz; omega
  have k0 := hide (show ∀ u, Below b2 W u → (u.cell? ⟨b1, 0, none⟩ = some (.int .i64 x) ∧ u.cell? ⟨b1, 1, none⟩ = some (.int .i64 y) ∧ u.cell? ⟨b1, 2, none⟩ = some (.slice ao n cp) ∧ Below b2 W u) from fun u h => by
    obtain ⟨c0, c1, c2⟩ := row3 ((h.block b1 (unhide lz).2).trans (unhide R))
    exact ⟨c0, c1, c2, h⟩)
  have k00 := hide (unhide k0 _ (Below.refl _ _).drew)
  have EC0 := hide (unhide EC _ (unhide HB).drew)
  clear EC
  go_region_held3 (fun u => u.cell? ⟨b1, 0, none⟩ = some (.int .i64 x) ∧ u.cell? ⟨b1, 1, none⟩ = some (.int .i64 y) ∧ u.cell? ⟨b1, 2, none⟩ = some (.slice ao n cp) ∧ Below b2 W u) ((first | with_reducible exact unhide k00 | (with_reducible refine unhide k0 _ ?_; first | with_reducible assumption | with_reducible exact Below.mono (by assumption) (Nat.le_of_lt (unhide l6)) | (with_reducible refine below_put3 ?_ (Nat.le_refl _) _ _ _; with_reducible exact Below.mono (by assumption) (Nat.le_of_lt (unhide l6)))))) (first | (go_at_call 66; go_fit (unhide EC0); rintro r w6 ⟨p6, c6, rfl, hc6, hb6'⟩; have hb6 := below_undrew hb6'; clear hb6'; obtain ⟨e0, e1, e2⟩ := row3 (row_next hb6 (unhide R2)); obtain ⟨f0, f1, f2⟩ := frozen3 (row_next hb6 (unhide R2)); replace hc6 := hide hc6))
  all_goals
    go_wp2_with fail
    refine bodyPost_ret (v := .agg #[.int .i64 x, .int .i64 y, .slice p6 n c6]) (by simp [results, Tryz.results27, go_sem, e0, e1, e2]) rfl ⟨p6, c6, rfl, ?_, ?_⟩
    · obtain ⟨xs6, o6, x6⟩ := unhide hc6
      exact ⟨xs6, own_low (own_put3 o6 (fun k hk => by have h1 : W.heap.size ≤ k := (o6.lt k hk).1; have := unhide l6; omega) _ _ _) (unhide HB).size, x6⟩
    · exact below_put3 (below_two (unhide HB) hb6) (unhide lz).1 _ _ _

end Go.Proofs.YtngnleoggblinaaGreat

/-
  The specification's SameSurface.
-/
namespace Go.Proofs.YtngnleoggblinaaGreat
open Go.RowKit
set_option linter.unusedVariables false

theorem b4_eq {a b c d e f g h : Int} : (⟨a, b, c, d⟩ : B4) = ⟨e, f, g, h⟩ ↔ (decide (a = e) && (decide (b = f) && (decide (c = g) && decide (d = h)))) = true := by
  simp only [B4.mk.injEq, Bool.and_eq_true, decide_eq_true_eq]

end Go.Proofs.YtngnleoggblinaaGreat

/-
  The program's right surfaces, their squares, two surfaces held against each other.
-/
namespace Go.Proofs.YtngnleoggblinaaGreat
open Go.RowKit
set_option linter.unusedVariables false

set_option maxHeartbeats 4000000 in
set_option maxRecDepth 100000 in
theorem implSurfaceOk_any (x y : Int) (f : Nat → B4) (ao : Option Addr) (n cp : Nat) (hn : n ≤ 1048576) (hc : n ≤ cp) (hao : ao = none → cp = 0) (w : World) (P : ∀ i, i < n → ClAt w ao i (f i)) :
    Calls Tryz.prog 10 #[.agg #[.int .i64 x, .int .i64 y, .slice ao n cp]] w fun r w' => r = .returned (.bool (surfOkB x y n f)) ∧ Below w.heap.size w w' := by
  have EX := hide (implSideOk_any x)
  have EY := hide (implSideOk_any y)
  replace P := hide P
  have hyes : Hid (SOk x y n f → surfOkB x y n f = true) := fun h => surfOk_iff.2 h
  have hno : Hid (¬ SOk x y n f → surfOkB x y n f = false) := fun h => surfOk_no h
  generalize surfOkB x y n f = X at hyes hno ⊢
  have hS : Hid (SOk x y n f ↔ (inB x 1 12 = true) ∧ (inB y 1 12 = true) ∧ (n : Int) = x * y ∧ ∀ i, i < n → laidOkB (f i) = true) := by unfold Hid SOk; rw [inB_true, inB_true]
  have hpr : Hid (inB x 1 12 = true → inB y 1 12 = true → IntKind.i64.wrap (x * y) = x * y) := fun h1 h2 => IntWalk.i64_in _ (by have := side_prod (inB_true.1 h1) (inB_true.1 h2); omega)
  generalize SOk x y n f = M at hyes hno hS
  generalize inB x 1 12 = ix at EX hS hpr
  generalize inB y 1 12 = iy at EY hS hpr
  go_enter Tryz.func10, Tryz.ntmps10
  go_upto_region 1 with fail
  have R := hide (new_row w (.cells #[.int .i64 x, .int .i64 y, .slice ao n cp] 26))
  have HB := hide (al1_below w (.cells #[.int .i64 x, .int .i64 y, .slice ao n cp] 26))
  obtain ⟨b1, hb1⟩ : ∃ b, Hid (b = w.heap.size) := ⟨_, rfl⟩
  rw [← unhide hb1] at R
  rw [← unhide hb1]
  generalize w.alloc (.cells #[.int .i64 x, .int .i64 y, .slice ao n cp] 26) = W at R HB ⊢
  obtain ⟨r0, r1, r2⟩ := row3 (unhide R)
  go_wp2_with fail
  go_fit (unhide EX _)
  rintro r u1 ⟨rfl, rfl⟩
  cases ix with
  | false =>
    have hX := hide (unhide hno (fun h => by have := (unhide hS).1 h; cases this.1))
    go_wp2_with fail
    go_ret
    exact ⟨ret_bool (unhide hX).symm, unhide HB⟩
  | true =>
  go_wp2_with fail
  go_fit (unhide EY _)
  rintro r u1 ⟨rfl, rfl⟩
  cases iy with
  | false =>
    have hX := hide (unhide hno (fun h => by have := (unhide hS).1 h; cases this.2.1))
    go_wp2_with fail
    go_ret
    exact ⟨ret_bool (unhide hX).symm, unhide HB⟩
  | true =>
    have w3 := unhide hpr (by trivial) (by trivial)
    by_cases hq : (n : Int) = x * y
    · have hq1 := hide hq
      have w4 : IntKind.i64.wrap (x * y) = (n : Int) := by rw [w3, hq]
      clear w3 hq
      go_upto_region 4 with fail
      go_wp2_with fail
      clear r0 r1 r2 w4
      go_loopw [29] (fun i u => ∃ k : Nat, k ≤ n ∧ i = .int .i64 k ∧ Hid (∀ j, j < k → laidOkB (f j) = true) ∧ Hid (Below w.heap.size w u)) (fun i _ => n - (intOf i).toNat)
      case atStart => exact ⟨0, Nat.zero_le _, rfl, fun j hj => absurd hj (by omega), HB⟩
      case round =>
        clear HB R
        obtain ⟨k, hk, rfl, HK, HB⟩ := hrel
        by_cases hlt : k < n
        · have HP := (unhide P k hlt).next (unhide HB)
          obtain ⟨z, hz⟩ : ∃ z, Hid (f k = z) := ⟨_, rfl⟩
          rw [unhide hz] at HP
          obtain ⟨z0, z1, z2, z3⟩ := z
          obtain ⟨s0, o0, rfl, g0, g1, g2, g3⟩ := HP
          dsimp only at g0 g1 g2 g3
          have EI := hide (implLaidOk_any z0 z1 z2 z3)
          have hki : (k : Int) < (n : Int) := by omega
          cases hi : laidOkB ⟨z0, z1, z2, z3⟩ with
          | false =>
            rw [hi] at EI
            have hX := hide (unhide hno (fun h => by have := ((unhide hS).1 h).2.2.2 k hlt; rw [unhide hz, hi] at this; cases this))
            clear hi
            go_wp2_with fail
            go_fit (unhide EI _)
            rintro r u2 ⟨rfl, hb⟩
            replace HB := hide (below_two (unhide HB) (below_two (al1_below _ _) hb))
            go_wp2_with fail
            go_ret
            exact ⟨ret_bool (unhide hX).symm, unhide HB⟩
          | true =>
            rw [hi] at EI
            have HK2 : Hid (∀ j, j < k + 1 → laidOkB (f j) = true) := cols_more (unhide HK) (by rw [unhide hz]; exact hi)
            clear hi
            go_wp2_with fail
            go_fit (unhide EI _)
            rintro r u2 ⟨rfl, hb⟩
            replace HB := hide (below_two (unhide HB) (below_two (al1_below _ _) hb))
            clear hb g0 g1 g2 g3
            go_wp2_with fail
            go_roundw
            case rel => exact ⟨k + 1, by omega, by go_num, HK2, HB⟩
            case measure => simp [intOf]; omega
        · have hke : k = n := by omega
          subst hke
          have hki : ¬ (k : Int) < (k : Int) := by omega
          have hX := hide (unhide hyes ((unhide hS).2 ⟨by trivial, by trivial, unhide hq1, unhide HK⟩))
          go_wp2_with fail
          go_ret
          exact ⟨ret_bool (unhide hX).symm, unhide HB⟩
    · have hX := hide (unhide hno (fun h => hq ((unhide hS).1 h).2.2.1))
      have hqb : ((n : Int) == x * y) = false := beq_eq_false_iff_ne.2 hq
      go_wp2_with fail
      go_ret
      exact ⟨ret_bool (unhide hX).symm, unhide HB⟩

set_option maxHeartbeats 4000000 in
set_option maxRecDepth 100000 in
theorem equalCols_any (G H : Nat → B4) (ao : Option Addr) (n ca : Nat) (bo : Option Addr) (m cb : Nat) (X : Bool) (hX : X = true ↔ n = m ∧ ∀ i, i < n → G i = H i) (hn : n ≤ 1048576) (hm : m ≤ 1048576) (w : World) (PA : ∀ i, i < n → ClAt w ao i (G i)) (PB : ∀ i, i < m → ClAt w bo i (H i)) :
    Calls Tryz.prog 52 #[.slice ao n ca, .slice bo m cb] w fun r w' => r = .returned (.bool X) ∧ Below w.heap.size w w' := by
  replace hX := hide hX
  replace PA := hide PA
  replace PB := hide PB
  by_cases hnm : n = m
  · subst hnm
    have hX2 : Hid (X = true ↔ ∀ i, i < n → G i = H i) := by unfold Hid; rw [unhide hX]; simp
    clear hX
    go_enter Tryz.func52, Tryz.ntmps52
    go_upto_region 4 with fail
    go_loopw [13] (fun i u => ∃ k : Nat, k ≤ n ∧ i = .int .i64 (k : Int) ∧ Hid (∀ j, j < k → G j = H j) ∧ Hid (Below w.heap.size w u)) (fun i _ => n - (intOf i).toNat)
    case atStart => exact ⟨0, Nat.zero_le _, rfl, fun j hj => absurd hj (by omega), Below.refl _ _⟩
    case round =>
      obtain ⟨k, hk, rfl, HK, HB⟩ := hrel
      by_cases hlt : k < n
      · have hki : (k : Int) < (n : Int) := by omega
        obtain ⟨s, o, rfl, g0, g1, g2, g3⟩ := (unhide PA k hlt).next (unhide HB)
        obtain ⟨s', o', rfl, p0, p1, p2, p3⟩ := (unhide PB k hlt).next (unhide HB)
        have hne : Hid (G k = H k ↔ G k = H k) := Iff.rfl
        obtain ⟨r, hr⟩ : ∃ r, Hid (G k = r) := ⟨_, rfl⟩
        obtain ⟨q, hq⟩ : ∃ q, Hid (H k = q) := ⟨_, rfl⟩
        rw [unhide hr] at g0 g1 g2 g3
        rw [unhide hq] at p0 p1 p2 p3
        obtain ⟨r0, r1, r2, r3⟩ := r
        obtain ⟨q0, q1, q2, q3⟩ := q
        dsimp only at g0 g1 g2 g3 p0 p1 p2 p3
        by_cases he : r0 = q0 ∧ r1 = q1 ∧ r2 = q2 ∧ r3 = q3
        · obtain ⟨rfl, rfl, rfl, rfl⟩ := he
          have eq1 : ∀ u, (Op.equalIn 10000 36 (.agg #[.int .i64 r0, .int .i64 r1, .int .i64 r2, .int .i64 r3]) (.agg #[.int .i64 r0, .int .i64 r1, .int .i64 r2, .int .i64 r3])).run Tryz.prog u = .ok true u := fun u => by rw [eqlColor]; simp
          have HK2 : Hid (∀ j, j < k + 1 → G j = H j) := fun j hj => by
            by_cases e : j = k
            · rw [e, unhide hr, unhide hq]
            · exact unhide HK j (by omega)
          go_upto_region 6 with fail
          go_quiet (fail)
          have HB2 := hide (below_drews (unhide HB) nq)
          go_wp2_with fail
          go_roundw
          case rel => exact ⟨k + 1, by omega, by go_num, HK2, HB2⟩
          case measure => simp [intOf]; omega
        · have hf : (decide (r0 = q0) && (decide (r1 = q1) && (decide (r2 = q2) && decide (r3 = q3)))) = false := by
            rw [Bool.eq_false_iff]; intro h; simp only [Bool.and_eq_true, decide_eq_true_eq] at h; exact he h
          have eq1 : ∀ u, (Op.equalIn 10000 36 (.agg #[.int .i64 r0, .int .i64 r1, .int .i64 r2, .int .i64 r3]) (.agg #[.int .i64 q0, .int .i64 q1, .int .i64 q2, .int .i64 q3])).run Tryz.prog u = .ok false u := fun u => by rw [eqlColor, hf]
          have hX3 : Hid (false = X) := by
            cases X with
            | false => rfl
            | true =>
              exfalso
              have := (unhide hX2).1 rfl k hlt
              rw [unhide hr, unhide hq] at this
              cases this
              exact he ⟨rfl, rfl, rfl, rfl⟩
          clear hf he
          go_upto_region 6 with fail
          go_quiet (fail)
          have HB2 := hide (below_drews (unhide HB) nq)
          go_wp2_with fail
          go_ret
          exact ⟨ret_bool (unhide hX3), unhide HB2⟩
      · obtain rfl : k = n := by omega
        have hki : ¬ (k : Int) < (k : Int) := by omega
        have hX3 : Hid (true = X) := ((unhide hX2).2 (unhide HK)).symm
        go_wp2_with fail
        go_ret
        exact ⟨ret_bool (unhide hX3), unhide HB⟩
  · have hX3 : Hid (false = X) := by
      cases X with
      | false => rfl
      | true => exact absurd ((unhide hX).1 rfl).1 hnm
    have hnb : ((n : Int) == (m : Int)) = false := beq_eq_false_iff_ne.2 (by omega)
    go_enter Tryz.func52, Tryz.ntmps52
    go_wp2_with fail
    go_ret
    exact ⟨ret_bool (unhide hX3), Below.refl _ _⟩

set_option maxHeartbeats 4000000 in
set_option maxRecDepth 100000 in
theorem implSameSurface_any (x y : Int) (f : Nat → B4) (ao : Option Addr) (n ca : Nat) (hn : n ≤ 1048576) (hca : n ≤ ca) (hao : ao = none → ca = 0) (x' y' : Int) (f' : Nat → B4) (bo : Option Addr) (m cb : Nat) (hm : m ≤ 1048576) (hcb : m ≤ cb) (hbo : bo = none → cb = 0) (w : World) (PA : ∀ i, i < n → ClAt w ao i (f i)) (PB : ∀ i, i < m → ClAt w bo i (f' i)) :
    Calls Tryz.prog 18 #[.agg #[.int .i64 x, .int .i64 y, .slice ao n ca], .agg #[.int .i64 x', .int .i64 y', .slice bo m cb]] w fun r w' => r = .returned (.bool (sameSB x y n f x' y' m f')) ∧ Below w.heap.size w w' := by
  obtain ⟨Z, hZ⟩ : ∃ Z : Bool, Hid (Z = true ↔ n = m ∧ ∀ i, i < n → f i = f' i) := by
    by_cases h : n = m ∧ ∀ i, i < n → f i = f' i
    · exact ⟨true, by unfold Hid; exact ⟨fun _ => h, fun _ => rfl⟩⟩
    · exact ⟨false, by unfold Hid; exact ⟨fun e => (by cases e), fun e => absurd e h⟩⟩
  have EQ := hide (fun u (hu : Below w.heap.size w u) => equalCols_any f f' ao n ca bo m cb Z (unhide hZ) hn hm u (fun i hi => (PA i hi).next hu) (fun i hi => (PB i hi).next hu))
  clear PA PB
  have hyes : Hid (SameS x y n f x' y' m f' → sameSB x y n f x' y' m f' = true) := fun h => sameS_iff.2 h
  have hno : Hid (¬ SameS x y n f x' y' m f' → sameSB x y n f x' y' m f' = false) := fun h => sameS_no h
  generalize sameSB x y n f x' y' m f' = X at hyes hno ⊢
  go_enter Tryz.func18, Tryz.ntmps18
  go_upto_region 1 with fail
  have R2 := hide (al2_0 w (.cells #[.int .i64 x, .int .i64 y, .slice ao n ca] 26) (.cells #[.int .i64 x', .int .i64 y', .slice bo m cb] 26))
  have R3 := hide (al2_1 w (.cells #[.int .i64 x, .int .i64 y, .slice ao n ca] 26) (.cells #[.int .i64 x', .int .i64 y', .slice bo m cb] 26))
  have HB := hide (al2_below w (.cells #[.int .i64 x, .int .i64 y, .slice ao n ca] 26) (.cells #[.int .i64 x', .int .i64 y', .slice bo m cb] 26))
  obtain ⟨b3, hb3⟩ : ∃ b, Hid (b = w.heap.size + 1) := ⟨_, rfl⟩
  obtain ⟨b2, hb2⟩ : ∃ b, Hid (b = w.heap.size) := ⟨_, rfl⟩
  rw [← unhide hb3] at R3
  rw [← unhide hb2] at R2
  rw [← unhide hb3, ← unhide hb2]
  generalize (w.alloc (.cells #[.int .i64 x, .int .i64 y, .slice ao n ca] 26)).alloc (.cells #[.int .i64 x', .int .i64 y', .slice bo m cb] 26) = W at R2 R3 HB ⊢
  clear hb3 hb2
  obtain ⟨r0, r1, r2⟩ := row3 (unhide R2)
  obtain ⟨s0, s1, s2⟩ := row3 (unhide R3)
  by_cases hx : x = x'
  · by_cases hy : y = y'
    · subst hx hy
      have EQ0 := hide (unhide EQ _ (unhide HB))
      go_wp2_with fail
      go_fit (unhide EQ0)
      rintro r u ⟨rfl, hb⟩
      replace HB := hide (below_two (unhide HB) hb)
      have hX : Hid (Z = X) := by
        unfold Hid
        cases Z with
        | true => exact (unhide hyes ⟨rfl, rfl, ((unhide hZ).1 rfl).1, ((unhide hZ).1 rfl).2⟩).symm
        | false => exact (unhide hno (fun h => by have := (unhide hZ).2 ⟨h.2.2.1, h.2.2.2⟩; cases this)).symm
      clear hyes hno hZ EQ EQ0 hb r0 r1 r2 s0 s1 s2
      go_wp2_with fail
      go_ret
      exact ⟨ret_bool (unhide hX), unhide HB⟩
    · have hX := hide (unhide hno (fun h => hy h.2.1))
      have hyb : (y == y') = false := beq_eq_false_iff_ne.2 hy
      subst hx
      go_wp2_with fail
      go_ret
      exact ⟨ret_bool (unhide hX).symm, unhide HB⟩
  · have hX := hide (unhide hno (fun h => hx h.1))
    have hxb : (x == x') = false := beq_eq_false_iff_ne.2 hx
    go_wp2_with fail
    go_ret
    exact ⟨ret_bool (unhide hX).symm, unhide HB⟩

set_option maxHeartbeats 4000000 in
set_option maxRecDepth 100000 in
theorem implSquaresOf_any (x y : Int) (ao : Option Addr) (n cp : Nat) (w : World) :
    Calls Tryz.prog 41 #[.agg #[.int .i64 x, .int .i64 y, .slice ao n cp]] w fun r w' => r = .returned (.agg #[.int .i64 0, .int .i64 0, .int .i64 x, .int .i64 y]) ∧ Below w.heap.size w w' := by
  go_enter Tryz.func41, Tryz.ntmps41
  go_upto_region 1 with fail
  have R := al2_0 w (.cells #[.int .i64 x, .int .i64 y, .slice ao n cp] 26) (.cells #[.int .i64 0, .int .i64 0, .int .i64 0, .int .i64 0] 29)
  have R2 := al2_1 w (.cells #[.int .i64 x, .int .i64 y, .slice ao n cp] 26) (.cells #[.int .i64 0, .int .i64 0, .int .i64 0, .int .i64 0] 29)
  have HB := hide (al2_below w (.cells #[.int .i64 x, .int .i64 y, .slice ao n cp] 26) (.cells #[.int .i64 0, .int .i64 0, .int .i64 0, .int .i64 0] 29))
  generalize (w.alloc (.cells #[.int .i64 x, .int .i64 y, .slice ao n cp] 26)).alloc (.cells #[.int .i64 0, .int .i64 0, .int .i64 0, .int .i64 0] 29) = W at R R2 HB ⊢
  obtain ⟨b2, hb2⟩ : ∃ b, Hid (b = w.heap.size + 1) := ⟨_, rfl⟩
  have lz : Hid (w.heap.size ≤ b2) := by unfold Hid; rw [unhide hb2]; omega
  rw [← unhide hb2] at R2 ⊢
  obtain ⟨p0, p1, p2⟩ := row3 R
  obtain ⟨r0, r1, r2, r3⟩ := row4 R2
  obtain ⟨f0, f1, f2, f3⟩ := free4 R2
  clear R R2 hb2
  go_wp2_with fail
  refine bodyPost_ret (v := .agg #[.int .i64 0, .int .i64 0, .int .i64 x, .int .i64 y]) (by simp [results, Tryz.results41, go_sem, r0, r1, r2, r3]) rfl ⟨rfl, ?_⟩
  exact below_put4 (unhide HB) (unhide lz) _ _ _ _

set_option maxHeartbeats 4000000 in
set_option maxRecDepth 100000 in
theorem implPixelAt_any (x y : Int) (f : Nat → B4) (ao : Option Addr) (n cp : Nat) (hn : n ≤ 1048576) (hc : n ≤ cp) (hao : ao = none → cp = 0) (px py : Int) (w : World) (P : ∀ i, i < n → ClAt w ao i (f i)) :
    Calls Tryz.prog 12 #[.agg #[.int .i64 x, .int .i64 y, .slice ao n cp], .int .i64 px, .int .i64 py] w fun r w' => r = .returned (.agg #[.int .i64 ((pixC x y n f px py).x0), .int .i64 ((pixC x y n f px py).y0), .int .i64 ((pixC x y n f px py).x1), .int .i64 ((pixC x y n f px py).y1)]) ∧ Below w.heap.size w w' := by
  have ES := hide (fun u => implSurfaceOk_any x y f ao n cp hn hc hao u)
  have EB := hide (implInBox_any 0 0 x y px py)
  have EQ := hide (fun u => implSquaresOf_any x y ao n cp u)
  replace P := hide P
  obtain ⟨C, hC⟩ : ∃ C, Hid (pixC x y n f px py = C) := ⟨_, rfl⟩
  rw [unhide hC]
  have hin : inBoxB 0 0 x y px py = true ↔ (0 ≤ px ∧ px ≤ x - 1) ∧ (0 ≤ py ∧ py ≤ y - 1) := by
    simp only [inBoxB, Bool.and_eq_true, decide_eq_true_eq]
    omega
  have hno : Hid (¬ (surfOkB x y n f = true ∧ inBoxB 0 0 x y px py = true) → C = ⟨0, 0, 0, 0⟩) := fun h => by
    rw [← unhide hC]; unfold pixC; rw [if_neg (fun h' => h ⟨h'.1, hin.2 h'.2⟩)]
  have hyes : Hid (surfOkB x y n f = true → inBoxB 0 0 x y px py = true → ∃ k : Nat, k < n ∧ py * x + px = (k : Int) ∧ f k = C ∧ IntKind.i64.wrap (py * x) = py * x ∧ IntKind.i64.wrap (py * x + px) = py * x + px) := fun h1 h2 => by
    have hs := surfOk_iff.1 h1
    have a2 := (hin.1 h2).1
    have a3 := (hin.1 h2).2
    have hp := pix_place (y := y) hs.1.1 a2.1 a2.2 a3.1 a3.2
    have hl := hs.le
    have e := hs.2.2.1
    refine ⟨(py * x + px).toNat, by omega, by omega, ?_, IntWalk.i64_in _ (by omega), IntWalk.i64_in _ (by omega)⟩
    rw [← unhide hC]; unfold pixC; rw [if_pos ⟨h1, a2, a3⟩]
  clear hC hin
  generalize surfOkB x y n f = X at ES hno hyes
  generalize inBoxB 0 0 x y px py = ib at EB hno hyes
  go_enter Tryz.func12, Tryz.ntmps12
  go_upto_region 1 with fail
  have R := hide (al2_0 w (.cells #[.int .i64 x, .int .i64 y, .slice ao n cp] 26) (.cells #[.int .i64 0, .int .i64 0, .int .i64 0, .int .i64 0] 36))
  have R6 := hide (al2_1 w (.cells #[.int .i64 x, .int .i64 y, .slice ao n cp] 26) (.cells #[.int .i64 0, .int .i64 0, .int .i64 0, .int .i64 0] 36))
  have HB := hide (al2_below w (.cells #[.int .i64 x, .int .i64 y, .slice ao n cp] 26) (.cells #[.int .i64 0, .int .i64 0, .int .i64 0, .int .i64 0] 36))
  obtain ⟨b6, hb6⟩ : ∃ b, Hid (b = w.heap.size + 1) := ⟨_, rfl⟩
  obtain ⟨b3, hb3⟩ : ∃ b, Hid (b = w.heap.size) := ⟨_, rfl⟩
  have lz : Hid (w.heap.size ≤ b6 ∧ b3 < b6) := by unfold Hid; rw [unhide hb6, unhide hb3]; omega
  rw [← unhide hb6] at R6
  rw [← unhide hb3] at R
  rw [← unhide hb6, ← unhide hb3]
  generalize (w.alloc (.cells #[.int .i64 x, .int .i64 y, .slice ao n cp] 26)).alloc (.cells #[.int .i64 0, .int .i64 0, .int .i64 0, .int .i64 0] 36) = W at R R6 HB ⊢
  clear hb6 hb3
  have E2 := hide (unhide ES W (fun i hi => (unhide P i hi).next (unhide HB)))
  obtain ⟨p0, p1, p2⟩ := row3 (unhide R)
  go_wp2_with fail
  go_fit (unhide E2)
  rintro r w1 ⟨rfl, hb⟩
  replace R := hide (row_next hb (unhide R))
  replace R6 := hide (row_next hb (unhide R6))
  replace HB := hide (below_two (unhide HB) hb)
  clear hb p0 p1 p2 E2 ES
  obtain ⟨p0, p1, p2⟩ := row3 (unhide R)
  cases X with
  | false =>
    have hCz := hide (unhide hno (fun h => by cases h.1))
    obtain ⟨e0, e1, e2, e3⟩ := row4 (unhide R6)
    obtain ⟨f0, f1, f2, f3⟩ := free4 (unhide R6)
    go_wp2_with fail
    refine bodyPost_ret (v := .agg #[.int .i64 0, .int .i64 0, .int .i64 0, .int .i64 0]) (by simp [results, Tryz.results12, go_sem, e0, e1, e2, e3]) rfl ⟨by rw [unhide hCz], ?_⟩
    exact below_put4 (unhide HB) (unhide lz).1 _ _ _ _
  | true =>
    go_wp2_with fail
    go_fit (unhide EQ _)
    rintro r wq ⟨rfl, hb⟩
    replace R := hide (row_next hb (unhide R))
    replace R6 := hide (row_next hb (unhide R6))
    replace HB := hide (below_two (unhide HB) hb)
    clear hb p0 p1 p2 EQ
    go_wp2_with fail
    go_fit (unhide EB _)
    rintro r w2 ⟨rfl, hb⟩
    replace R := hide (row_next hb (unhide R))
    replace R6 := hide (row_next hb (unhide R6))
    replace HB := hide (below_two (unhide HB) hb)
    clear hb EB
    cases ib with
    | false =>
      have hCz := hide (unhide hno (fun h => by cases h.2))
      obtain ⟨e0, e1, e2, e3⟩ := row4 (unhide R6)
      obtain ⟨f0, f1, f2, f3⟩ := free4 (unhide R6)
      go_wp2_with fail
      refine bodyPost_ret (v := .agg #[.int .i64 0, .int .i64 0, .int .i64 0, .int .i64 0]) (by simp [results, Tryz.results12, go_sem, e0, e1, e2, e3]) rfl ⟨by rw [unhide hCz], ?_⟩
      exact below_put4 (unhide HB) (unhide lz).1 _ _ _ _
    | true =>
      obtain ⟨k, hkn, hkk, hfk, v1, v2⟩ := unhide hyes (by trivial) (by trivial)
      have EPL := hide (implPixPlace_any x y px py (.slice ao n cp) v1 v2)
      rw [hkk] at EPL
      have HP0 := unhide P k hkn
      rw [hfk] at HP0
      have HP := HP0.next (unhide HB)
      obtain ⟨C0, C1, C2, C3⟩ := C
      obtain ⟨s0, o0, rfl, g0, g1, g2, g3⟩ := HP
      obtain ⟨s0', o0', ee, g0', _⟩ := HP0
      cases ee
      have ls0 := hide (show s0 < w.heap.size from block_lt_of_cell g0')
      clear g0' v1 v2 hkk hfk hyes hno P
      dsimp only at g0 g1 g2 g3 ⊢
      have hkn' : (k : Int) < (n : Int) := by omega
      have hkn0 : ¬ (k : Int) < 0 := by omega
      replace g0 := hide g0
      replace g1 := hide g1
      replace g2 := hide g2
      replace g3 := hide g3
      have lb := hide (show b6 < w2.heap.size from heap_lt (unhide R6))
      have ne1 : ¬ b6 = b3 := by have := unhide lz; omega
      have ne2 : ¬ b3 = b6 := by have := unhide lz; omega
      have ne3 : ¬ b6 = s0 := by have := unhide lz; have := unhide ls0; omega
      have ne4 : ¬ s0 = b6 := by have := unhide lz; have := unhide ls0; omega
      go_upto_region 3 with fail
      have k0 := hide (show ∀ u, Below b6 w2 u → (u.cell? ⟨b3, 0, none⟩ = some (.int .i64 x) ∧ u.cell? ⟨b3, 1, none⟩ = some (.int .i64 y) ∧ u.cell? ⟨b3, 2, none⟩ = some (.slice (some ⟨s0, o0, none⟩) n cp) ∧ u.cell? ⟨s0, o0 + k * 4, none⟩ = some (.int .i64 C0) ∧ u.cell? ⟨s0, o0 + k * 4 + 1, none⟩ = some (.int .i64 C1) ∧ u.cell? ⟨s0, o0 + k * 4 + 2, none⟩ = some (.int .i64 C2) ∧ u.cell? ⟨s0, o0 + k * 4 + 3, none⟩ = some (.int .i64 C3) ∧ Below b6 w2 u) from fun u h => by
        obtain ⟨c0, c1, c2⟩ := row3 ((h.block b3 (unhide lz).2).trans (unhide R))
        have l : s0 < b6 := by have := unhide lz; have := unhide ls0; omega
        exact ⟨c0, c1, c2, (h.cell l).trans (unhide g0), (h.cell l).trans (unhide g1), (h.cell l).trans (unhide g2), (h.cell l).trans (unhide g3), h⟩)
      have k00 := hide (unhide k0 _ (Below.refl _ _).drew)
      go_region_held3 (fun u => u.cell? ⟨b3, 0, none⟩ = some (.int .i64 x) ∧ u.cell? ⟨b3, 1, none⟩ = some (.int .i64 y) ∧ u.cell? ⟨b3, 2, none⟩ = some (.slice (some ⟨s0, o0, none⟩) n cp) ∧ u.cell? ⟨s0, o0 + k * 4, none⟩ = some (.int .i64 C0) ∧ u.cell? ⟨s0, o0 + k * 4 + 1, none⟩ = some (.int .i64 C1) ∧ u.cell? ⟨s0, o0 + k * 4 + 2, none⟩ = some (.int .i64 C2) ∧ u.cell? ⟨s0, o0 + k * 4 + 3, none⟩ = some (.int .i64 C3) ∧ Below b6 w2 u) ((first | with_reducible exact unhide k00 | (with_reducible refine unhide k0 _ ?_; first | with_reducible assumption | with_reducible exact Below.mono (by assumption) (Nat.le_of_lt (unhide lb)) | (with_reducible refine below_put4 ?_ (Nat.le_refl _) _ _ _ _; with_reducible exact Below.mono (by assumption) (Nat.le_of_lt (unhide lb)))))) (first | (go_at_call 42; go_fit (unhide EPL _); rintro r w6 ⟨rfl, hb6'⟩; have hb6 := below_undrew hb6'; clear hb6'; obtain ⟨e0, e1, e2, e3⟩ := row4 (row_next hb6 (unhide R6)); obtain ⟨f0, f1, f2, f3⟩ := free4 (row_next hb6 (unhide R6))))
      all_goals
        go_wp2_with fail
        refine bodyPost_ret (v := .agg #[.int .i64 C0, .int .i64 C1, .int .i64 C2, .int .i64 C3]) (by simp [results, Tryz.results12, go_sem, e0, e1, e2, e3]) rfl ⟨rfl, ?_⟩
        exact below_put4 (below_two (unhide HB) hb6) (unhide lz).1 _ _ _ _
end Go.Proofs.YtngnleoggblinaaGreat

/-
  The specification's LayOver.
-/
namespace Go.Proofs.YtngnleoggblinaaGreat
open Go.RowKit
set_option linter.unusedVariables false

theorem grown_put4' {a w : World} {g : Nat} (h : a.grownBy w (some g)) (o0 o1 o2 o3 : Nat) (x y z u : Value) : a.grownBy ((((w.setCell ⟨g, o0, none⟩ x).setCell ⟨g, o1, none⟩ y).setCell ⟨g, o2, none⟩ z).setCell ⟨g, o3, none⟩ u) (some g) := by
  refine ⟨h.os, h.tape, h.output, ?_, fun k hk hne => ?_⟩
  · rw [setc_size, setc_size, setc_size, setc_size]; exact h.size
  · have hne' : k ≠ g := fun e => hne (by rw [e])
    rw [← h.block k hk hne]
    simp [World.setCell, Array.getElem?_modify, Ne.symm hne']
theorem row_grown' {u v : World} {b g : Nat} {o : Obj} (hg : u.grownBy v (some g)) (hne : b ≠ g) (h : u.heap[b]? = some o) : v.heap[b]? = some o := (hg.block b (heap_lt h) (fun e => hne (Option.some.inj e))).trans h
theorem cell_grown' {u v : World} {g : Nat} {p : Addr} {x : Value} (hg : u.grownBy v (some g)) (hne : p.block ≠ g) (h : u.cell? p = some x) : v.cell? p = some x := hg.cell h (fun e => hne (Option.some.inj e))

end Go.Proofs.YtngnleoggblinaaGreat

/-
  The program's modeOk.
-/
namespace Go.Proofs.YtngnleoggblinaaGreat
open Go.RowKit
set_option linter.unusedVariables false

theorem implModeOk_any (x : Int) (w : World) :
    Calls Tryz.prog 105 #[.int .i64 x] w fun e w' => e = .returned (.bool (inB x 1 5)) ∧ w' = w := by
  by_cases h1 : 1 ≤ x
  · by_cases h2 : x ≤ 5
    · have H : Hid (true = inB x 1 5) := (inB_true.2 ⟨h1, h2⟩).symm
      go_enter Tryz.func105, Tryz.ntmps105
      go_wp2_with fail
      go_ret
      exact ⟨ret_bool (unhide H), rfl⟩
    · have H : Hid (false = inB x 1 5) := by unfold Hid inB; simp [h1, h2]
      go_enter Tryz.func105, Tryz.ntmps105
      go_wp2_with fail
      go_ret
      exact ⟨ret_bool (unhide H), rfl⟩
  · have H : Hid (false = inB x 1 5) := by unfold Hid inB; simp [h1]
    go_enter Tryz.func105, Tryz.ntmps105
    go_wp2_with fail
    go_ret
    exact ⟨ret_bool (unhide H), rfl⟩
end Go.Proofs.YtngnleoggblinaaGreat
