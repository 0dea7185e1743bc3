/-
  DrawNd · DrawA · DrawAny · SameI · TreesS · DrawAn · DrawSp · DrawP: texts of one claim, in one.
-/
import Derived.Test.YtmafopckplpajaaGreatDoorFnSetsM11
import Derived.Maps.OwnIn
import Derived.Test.YtmafopckplpajaaGreatDoorFnSetsM2
import Derived.Deep.RegionLaw
import Derived.HandedShaped
import Derived.Deep.DeepCutAuto
import Derived.Deep.DeepFit
import Derived.Test.YtmafopckplpajaaGreatDoorFnSetsM4
import Derived.Test.YtmafopckplpajaaGreatDoorFnSetsM3
import Derived.Test.YtmafopckplpajaaGreatDoorFnSetsM8
import Derived.Test.YtmafopckplpajaaGreatDoorFnSetsM7
import Derived.Deep.AppendLies

/-
  A node that is drawn. (By drawnd.py.)
-/
namespace Go.Proofs.YtmafopckplpajaaGreatDoor
open Go.RowKit
set_option linter.unusedVariables false

structure Pre (x : Nd) (id par : Int) : Prop where
  id : x.id = id
  par : x.par = par
  gr : x.gr = false
  mat : matOkB x.m0 x.m1 x.m2 x.m3 x.m4 x.m5 = true
  nv : x.nv = 0
  np : x.np = 0
  ev : x.ev = false
  wd : x.wd = 0
  nd : x.nd = 0
  pt : x.pt = ⟨0, ⟨0, 0, 0, 0⟩, ⟨0, 0, 0, 0⟩, 0, 0, 0, 0⟩
  md : 1 ≤ x.md ∧ x.md ≤ 5
  fd : 0 ≤ x.fd ∧ x.fd ≤ 255
  clip : Right x.wf x.mv x.qf x.mp
theorem right_nil (vf : Nat → Int) (pf : Nat → Int × Int) : Right vf 0 pf 0 := ⟨by omega, by omega, fun i hi => absurd hi (by omega), fun i hi => absurd hi (by omega), rfl⟩
theorem pre0 {id par md fd : Int} (hm : 1 ≤ md ∧ md ≤ 5) (hf : 0 ≤ fd ∧ fd ≤ 255) : Pre (nd0 id par md fd) id par := ⟨rfl, rfl, rfl, rfl, rfl, rfl, rfl, rfl, rfl, rfl, hm, hf, right_nil _ _⟩
theorem group_ok {x : Nd} {id par : Int} (h : Pre x id par) (hid : 1 ≤ id ∧ id ≤ 99) (hp : 0 ≤ par ∧ par ≤ 99) (hne : id ≠ par) : nodeOkB { x with gr := true } = true := by
  unfold nodeOkB
  dsimp only
  have e1 : inB x.id 1 99 = true := inB_true.2 (by rw [h.id]; exact hid)
  have e2 : inB x.par 0 99 = true := inB_true.2 (by rw [h.par]; exact hp)
  have e3 : decide (x.id = x.par) = false := decide_eq_false (by rw [h.id, h.par]; exact hne)
  have e5 : rightB x.vf x.nv x.pf x.np = true := rightB_iff.2 (by rw [h.nv, h.np]; exact right_nil _ _)
  have e6 : rightB x.wf x.mv x.qf x.mp = true := rightB_iff.2 h.clip
  have e7 : inB x.wd 0 2048 = true := inB_true.2 (by rw [h.wd]; omega)
  have e8 : dashOkB x.nd x.df = true := by unfold dashOkB; rw [h.nd]; simp
  have e9 : inB x.md 1 5 = true := inB_true.2 h.md
  have e10 : inB x.fd 0 255 = true := inB_true.2 h.fd
  rw [e1, e2, e3, h.mat, e5, e6, e7, e8, e9, e10, if_pos rfl, h.nv, h.np, h.pt, h.wd, h.nd, h.ev]
  decide
/-- A node that is no group, but for its width and dashes. -/
structure Full (x : Nd) (id par : Int) : Prop where
  id : x.id = id
  par : x.par = par
  gr : x.gr = false
  mat : matOkB x.m0 x.m1 x.m2 x.m3 x.m4 x.m5 = true
  path : Right x.vf x.nv x.pf x.np
  wd : 0 ≤ x.wd ∧ x.wd ≤ 2048
  nd : dashOkB x.nd x.df = true
  pt : paintOkB x.pt = true
  md : 1 ≤ x.md ∧ x.md ≤ 5
  fd : 0 ≤ x.fd ∧ x.fd ≤ 255
  clip : Right x.wf x.mv x.qf x.mp
theorem full_ok {x : Nd} {id par : Int} (h : Full x id par) (hid : 1 ≤ id ∧ id ≤ 99) (hp : 0 ≤ par ∧ par ≤ 99) (hne : id ≠ par) : nodeOkB x = true := by
  unfold nodeOkB
  have e1 : inB x.id 1 99 = true := inB_true.2 (by rw [h.id]; exact hid)
  have e2 : inB x.par 0 99 = true := inB_true.2 (by rw [h.par]; exact hp)
  have e3 : decide (x.id = x.par) = false := decide_eq_false (by rw [h.id, h.par]; exact hne)
  rw [e1, e2, e3, h.mat, rightB_iff.2 h.path, rightB_iff.2 h.clip, inB_true.2 h.wd, h.nd, inB_true.2 h.md, inB_true.2 h.fd, if_neg (by rw [h.gr]; decide), h.pt]
  rfl
def OneNode (w : World) (e : Ending) (w' : World) (id par : Int) : Prop := ∃ x s, e = .returned (.agg (ndC x s)) ∧ NdW w' w.heap.size x s ∧ nodeOkB x = true ∧ x.id = id ∧ x.par = par
theorem seven {w : World} {t : TypeId} {b : Nat} (h : w.heap[b]? = some (.cells #[.int .i64 1, .int .i64 1, .int .i64 1, .int .i64 2, .int .i64 3, .int .i64 4, .int .i64 5] t (0, 0))) : ∀ j, j < 7 → w.cell? ⟨b, j, none⟩ = some (.int .i64 ([1, 1, 1, 2, 3, 4, 5].getD j 0)) := by
  intro j hj
  rcases j with _ | _ | _ | _ | _ | _ | _ | j <;> first | (simp [World.cell?, h]; done) | omega
theorem five5 {w : World} {t : TypeId} {b : Nat} (h : w.heap[b]? = some (.cells #[.int .i64 255, .int .i64 255, .int .i64 255, .int .i64 128, .int .i64 0] t (0, 0))) : ∀ j, j < 5 → w.cell? ⟨b, j, none⟩ = some (.int .i64 ([255, 255, 255, 128, 0].getD j 0)) := by
  intro j hj
  rcases j with _ | _ | _ | _ | _ | j <;> first | (simp [World.cell?, h]; done) | omega
theorem seven_bd : ∀ j, j < 7 → (1 : Int) ≤ [1, 1, 1, 2, 3, 4, 5].getD j 0 ∧ [1, 1, 1, 2, 3, 4, 5].getD j 0 ≤ (5 : Int) := by
  intro j hj
  rcases j with _ | _ | _ | _ | _ | _ | _ | j <;> first | decide | omega
theorem five_bd : ∀ j, j < 5 → (0 : Int) ≤ [255, 255, 255, 128, 0].getD j 0 ∧ [255, 255, 255, 128, 0].getD j 0 ≤ (255 : Int) := by
  intro j hj
  rcases j with _ | _ | _ | _ | _ | j <;> first | decide | omega

set_option maxHeartbeats 16000000 in
set_option maxRecDepth 100000 in
theorem l15Node_any (g B : Nat) (a : Option Addr) (len cap : Nat) (id par : Int) (hid : 1 ≤ id ∧ id ≤ 99) (hp : 0 ≤ par ∧ par ≤ 99) (hne : id ≠ par) (w : World) (hl : len ≤ 1048576) (h : DS w w g B a len cap) :
    Calls Tryz.prog 39 #[.pointer (some ⟨g, 0, none⟩), .int .i64 id, .int .i64 par] w fun e w' => OneNode w e w' id par ∧ DS w w' g B a len cap := by
  have hg1 := hide (fun x (hx : Pre x id par) => group_ok hx hid hp hne)
  have hg2 := hide (fun x (hx : Full x id par) => full_ok hx hid hp hne)
  clear hid hp hne
  go_enter Tryz.func39, Tryz.ntmps39
  go_upto_region 1 with fail
  have D := hide (h.alloc (.cells ndZ 41))
  have R6 := hide (new_row w (.cells ndZ 41))
  have lw := hide (show w.heap.size ≤ w.heap.size from Nat.le_refl _)
  have lg := hide h.lt
  change Code.wp _ _ _ _ (w.alloc (.cells ndZ 41))
  generalize w.alloc (.cells ndZ 41) = W at D R6 ⊢
  obtain ⟨b6, hb6⟩ : ∃ b, Hid (b = w.heap.size) := ⟨_, rfl⟩
  rw [← unhide hb6] at R6 ⊢
  rw [show Hid (w.heap.size ≤ w.heap.size) = Hid (w.heap.size ≤ b6) by rw [unhide hb6]] at lw
  clear h hb6
  go_wp2_with fail
  go_fit (specStill_any _)
  rintro e u1 ⟨rfl, hb⟩
  replace R6 := hide (row_next hb (unhide R6))
  replace D := hide ((unhide D).calls hb)
  clear hb
  go_wp2_with fail
  have DA := hide ((unhide D).alloc (.cells #[.int .i64 1, .int .i64 1, .int .i64 1, .int .i64 2, .int .i64 3, .int .i64 4, .int .i64 5] 3))
  have RN := hide (new_row u1 (.cells #[.int .i64 1, .int .i64 1, .int .i64 1, .int .i64 2, .int .i64 3, .int .i64 4, .int .i64 5] 3))
  have RO := hide (old_row (.cells #[.int .i64 1, .int .i64 1, .int .i64 1, .int .i64 2, .int .i64 3, .int .i64 4, .int .i64 5] 3) (unhide R6))
  go_fit (pick_of g B a len cap u1.heap.size 7 (fun j => [1, 1, 1, 2, 3, 4, 5].getD j 0) (by omega) (by omega) (u1.alloc (.cells #[.int .i64 1, .int .i64 1, .int .i64 1, .int .i64 2, .int .i64 3, .int .i64 4, .int .i64 5] 3)) hl (unhide DA).lg (unhide DA).le (unhide DA).inb (unhide DA).cur (by have := unhide lg; have := (unhide D).size; omega) (by simp) (seven (unhide RN)))
  rintro e u2 ⟨x2, hx, rfl, hc, hg⟩
  have hmd := hide (seven_bd x2 hx)
  dsimp only
  generalize ([1, 1, 1, 2, 3, 4, 5] : List Int).getD x2 0 = md at hmd ⊢
  replace R6 := hide ((unhide DA).heap hg (unhide lw) (unhide RO))
  replace D := hide ((unhide DA).next hc hg)
  clear hx hc hg DA RN RO x2
  go_wp2_with fail
  have DA := hide ((unhide D).alloc (.cells #[.int .i64 255, .int .i64 255, .int .i64 255, .int .i64 128, .int .i64 0] 3))
  have RN := hide (new_row u2 (.cells #[.int .i64 255, .int .i64 255, .int .i64 255, .int .i64 128, .int .i64 0] 3))
  have RO := hide (old_row (.cells #[.int .i64 255, .int .i64 255, .int .i64 255, .int .i64 128, .int .i64 0] 3) (unhide R6))
  go_fit (pick_of g B a len cap u2.heap.size 5 (fun j => [255, 255, 255, 128, 0].getD j 0) (by omega) (by omega) (u2.alloc (.cells #[.int .i64 255, .int .i64 255, .int .i64 255, .int .i64 128, .int .i64 0] 3)) hl (unhide DA).lg (unhide DA).le (unhide DA).inb (unhide DA).cur (by have := unhide lg; have := (unhide D).size; omega) (by simp) (five5 (unhide RN)))
  rintro e u3 ⟨x3, hx, rfl, hc, hg⟩
  have hfd := hide (five_bd x3 hx)
  dsimp only
  generalize ([255, 255, 255, 128, 0] : List Int).getD x3 0 = fd at hfd ⊢
  replace R6 := hide ((unhide DA).heap hg (unhide lw) (unhide RO))
  replace D := hide ((unhide DA).next hc hg)
  clear hx hc hg DA RN RO x3
  go_upto_region 2 with (refine store_new rfl _ _ rfl _ (nd0 id par md fd) na0 rfl rfl rfl ?_)
  have N := hide (show NS w (u3.alloc (.cells (ndC (nd0 id par md fd) na0) 41)) g B a len cap b6 u3.heap.size (nd0 id par md fd) na0 from ⟨(unhide D).alloc _, ⟨ndZ, old_row _ (unhide R6), rfl⟩, new_row u3 _, ndW0 _ _ _ _ _ _, ⟨unhide lw, heap_lt (unhide R6)⟩⟩)
  have HP := hide (pre0 (id := id) (par := par) (unhide hmd) (unhide hfd))
  clear D R6 lw lg
  generalize u3.alloc (.cells (ndC (nd0 id par md fd) na0) 41) = W2 at N ⊢
  generalize u3.heap.size = b7 at N ⊢
  generalize nd0 id par md fd = x at N HP
  generalize na0 = s at N
  clear hmd hfd
  go_wp2_with fail
  go_fit (once_any (unhide N).ds hl 3 (by omega) (by omega))
  rintro e v10 ⟨o10, rfl, d, hg⟩
  replace N := hide ((unhide N).draw d.cur hg)
  clear d hg
  go_upto_if 19 with fail
  go_cut [22] (fun _ u => ∃ x s, Hid (NS w u g B a len cap b6 b7 x s) ∧ Hid (Pre x id par))
  case first =>
    cases o10 with
    | false =>
      go_wp2_with fail
      go_meet
      exact ⟨x, s, N, HP⟩
    | true =>
      go_wp2_with fail
      go_fit (l04Mat_any g B a len cap _ hl (unhide N).ds.again)
      rintro e v11 ⟨m0, m1, m2, m3, m4, m5, hm, rfl, d⟩
      replace N := hide ((unhide N).draw d.cur d.gb)
      clear d
      have hmat := hide (show matOkB m0 m1 m2 m3 m4 m5 = true by unfold matOkB; simp only [Bool.and_eq_true, inB_true]; omega)
      clear hm
      obtain ⟨M, hM⟩ : ∃ A : Array Value, Hid (#[.int .i64 m0, .int .i64 m1, .int .i64 m2, .int .i64 m3, .int .i64 m4, .int .i64 m5] = A) := ⟨_, rfl⟩
      have hms : M.size = 6 := by rw [← unhide hM]; rfl
      have hmo : M.all (·.oneCell') = true := by rw [← unhide hM]; simp [Value.oneCell']
      have hth := hide (thereC (unhide N).r7 3 6 (by rw [ndC_size]; omega))
      have hin : (Tryz.prog.info? 29).map (·.size) = some 6 := by kernel_rfl
      go_wp2_with (refine wpList_store_mid rfl 29 _ _ rfl b7 3 M rfl (by rw [← unhide hM]; rfl) (by rw [hms]; exact unhide hth) (by rw [hms]; exact hin) hmo ?_)
      go_meet
      have hN := (unhide N).own.sets (o := 3) (Nat.lt_succ_self b7) M.toList
      have hq := unhide HP
      exact ⟨{ x with m0 := m0, m1 := m1, m2 := m2, m3 := m3, m4 := m4, m5 := m5 }, s, (unhide N).puts M.toList (by rw [← unhide hM]; exact set_mat x s m0 m1 m2 m3 m4 m5) ⟨hN.v, hN.p, hN.d, hN.cv, hN.cp⟩, ⟨hq.id, hq.par, hq.gr, unhide hmat, hq.nv, hq.np, hq.ev, hq.wd, hq.nd, hq.pt, hq.md, hq.fd, hq.clip⟩⟩
  case rest =>
  clear N HP
  obtain ⟨x, s, N, HP⟩ := hcut
  go_wp2_with fail
  go_fit (once_any (unhide N).ds hl 4 (by omega) (by omega))
  rintro e v20 ⟨o20, rfl, d, hg⟩
  replace N := hide ((unhide N).draw d.cur hg)
  clear d hg
  go_upto_if 24 with fail
  go_cut [27] (fun _ u => ∃ x s, Hid (NS w u g B a len cap b6 b7 x s) ∧ Hid (Pre x id par))
  case first =>
    cases o20 with
    | false =>
      go_wp2_with fail
      go_meet
      exact ⟨x, s, N, HP⟩
    | true =>
      go_wp2_with fail
      go_fit (l06Path_any g B a len cap _ hl (unhide N).ds.again)
      rintro e v21 ⟨v1, v2, rfl, ⟨n1, n2, vf, pf, ⟨xs, ys, hop, ix, iy⟩, hR, _⟩, d⟩
      have hbs := heap_lt (unhide N).r7
      replace N := hide ((unhide N).draw d.cur d.gb)
      obtain ⟨a1, k1, a2, k2, rfl, rfl⟩ := hop.form
      have hx0 := hide (own_low hop.one (show b7 + 1 ≤ _ from hbs))
      have hy0 := hide (own_low hop.two (show b7 + 1 ≤ _ from hbs))
      replace ix := hide ix
      replace iy := hide iy
      replace hR := hide hR
      clear d hop hbs
      have q1 := cellC (unhide N).r7 29 (by rw [ndC_size]; omega)
      have q2 := cellC (unhide N).r7 30 (by rw [ndC_size]; omega)
      have z1 := frozen_of_row v21 b7 29 _ _ (unhide N).r7
      have z2 := frozen_of_row v21 b7 30 _ _ (unhide N).r7
      go_wp2_with fail
      go_meet
      clear q1 q2 z1 z2
      have hN := (unhide N).own.setc (j := 29) (v := .slice a1 n1 k1) (Nat.lt_succ_self b7)
      have hx := own_setc (j := 29) (u := .slice a1 n1 k1) (unhide hx0) (Nat.lt_succ_self b7)
      have hy := own_setc (j := 29) (u := .slice a1 n1 k1) (unhide hy0) (Nat.lt_succ_self b7)
      replace ix := unhide ix
      replace iy := unhide iy
      replace N := hide ((unhide N).put (set_wf _ _ a1 n1 k1 vf) ⟨hN.v, hN.p, hN.d, ⟨xs, hx, ix⟩, hN.cp⟩)
      replace hN := (unhide N).own.setc (j := 30) (v := .slice a2 n2 k2) (Nat.lt_succ_self b7)
      replace hy := own_setc (j := 30) (u := .slice a2 n2 k2) hy (Nat.lt_succ_self b7)
      replace N := hide ((unhide N).put (set_qf _ _ a2 n2 k2 pf) ⟨hN.v, hN.p, hN.d, hN.cv, ⟨ys, hy, iy⟩⟩)
      clear hN hx hy ix iy hx0 hy0
      have hq := unhide HP
      exact ⟨_, _, N, ⟨hq.id, hq.par, hq.gr, hq.mat, hq.nv, hq.np, hq.ev, hq.wd, hq.nd, hq.pt, hq.md, hq.fd, unhide hR⟩⟩
  case rest =>
  clear N HP
  obtain ⟨x, s, N, HP⟩ := hcut
  go_wp2_with fail
  go_fit (once_any (unhide N).ds hl 3 (by omega) (by omega))
  rintro e v30 ⟨o30, rfl, d, hg⟩
  replace N := hide ((unhide N).draw d.cur hg)
  clear d hg
  cases o30 with
  | true =>
    have q1 := cellC (unhide N).r7 2 (by rw [ndC_size]; omega)
    have z1 := frozen_of_row v30 b7 2 _ _ (unhide N).r7
    go_upto_region 8 with fail
    clear q1 z1
    have hN := (unhide N).own.setc (j := 2) (v := .bool true) (Nat.lt_succ_self b7)
    replace N := hide ((unhide N).put (set_gr _ _ true) ⟨hN.v, hN.p, hN.d, hN.cv, hN.cp⟩)
    clear hN
    obtain ⟨y, hy⟩ : ∃ y : Nd, Hid ({ x with gr := true } = y) := ⟨_, rfl⟩
    have hok := hide (unhide hg1 _ (unhide HP))
    have hi1 := hide (show y.id = id by rw [← unhide hy]; exact (unhide HP).id)
    have hi2 := hide (show y.par = par by rw [← unhide hy]; exact (unhide HP).par)
    rw [unhide hy] at N hok
    clear hy HP
    generalize s = t at N
    obtain ⟨C6, r6, z6⟩ := (unhide N).r6
    replace r6 := hide r6
    have hlo := hide (unhide N).lo
    go_wp2_with (first | with_reducible refine load_own rfl _ rfl b7 rfl y t 41 (unhide N).r7 ?_ | with_reducible refine wpList_store_row rfl 41 _ _ rfl b6 (ndC y t) rfl rfl 41 _ (unhide r6) (ndC_info y t) (z6.trans (ndC_size y t).symm) (ndC_one y t) ?_)
    have r6' := hide (setRow_heap _ _ _ (ndC y t) _ _ (unhide r6))
    refine bodyPost_ret (v := .agg (ndC y t)) (results_cell_row rfl _ _ b6 41 _ (0, 0) _ rfl (unhide r6') Tryz.underlying41 rfl (ndC_info y t)) rfl ?_
    exact ⟨⟨y, t, rfl, (((unhide N).own.kept (setRow_grown _ b6 _) (by have := unhide hlo; omega)).low (by have := unhide hlo; omega)), unhide hok, unhide hi1, unhide hi2⟩, (unhide N).ds.setRow (unhide hlo).1⟩
  | false =>
  go_wp2_with fail
  go_fit (l06Path_any g B a len cap _ hl (unhide N).ds.again)
  rintro e v40 ⟨v1, v2, rfl, ⟨n1, n2, vf, pf, ⟨xs, ys, hop, ix, iy⟩, hR, _⟩, d⟩
  have hbs := heap_lt (unhide N).r7
  replace N := hide ((unhide N).draw d.cur d.gb)
  obtain ⟨a1, k1, a2, k2, rfl, rfl⟩ := hop.form
  have hx0 := hide (own_low hop.one (show b7 + 1 ≤ _ from hbs))
  have hy0 := hide (own_low hop.two (show b7 + 1 ≤ _ from hbs))
  replace ix := hide ix
  replace iy := hide iy
  replace hR := hide hR
  clear d hop hbs
  have q1 := cellC (unhide N).r7 9 (by rw [ndC_size]; omega)
  have q2 := cellC (unhide N).r7 10 (by rw [ndC_size]; omega)
  have z1 := frozen_of_row v40 b7 9 _ _ (unhide N).r7
  have z2 := frozen_of_row v40 b7 10 _ _ (unhide N).r7
  go_upto_region 10 with fail
  clear q1 q2 z1 z2
  have hN := (unhide N).own.setc (j := 9) (v := .slice a1 n1 k1) (Nat.lt_succ_self b7)
  have hx := own_setc (j := 9) (u := .slice a1 n1 k1) (unhide hx0) (Nat.lt_succ_self b7)
  have hy := own_setc (j := 9) (u := .slice a1 n1 k1) (unhide hy0) (Nat.lt_succ_self b7)
  replace ix := unhide ix
  replace iy := unhide iy
  replace N := hide ((unhide N).put (set_vf _ _ a1 n1 k1 vf) ⟨⟨xs, hx, ix⟩, hN.p, hN.d, hN.cv, hN.cp⟩)
  replace hN := (unhide N).own.setc (j := 10) (v := .slice a2 n2 k2) (Nat.lt_succ_self b7)
  replace hy := own_setc (j := 10) (u := .slice a2 n2 k2) hy (Nat.lt_succ_self b7)
  replace N := hide ((unhide N).put (set_pf _ _ a2 n2 k2 pf) ⟨hN.v, ⟨ys, hy, iy⟩, hN.d, hN.cv, hN.cp⟩)
  clear hN hx hy ix iy hx0 hy0
  obtain ⟨y, hy⟩ : ∃ y : Nd, Hid ({ x with nv := n1, vf := vf, np := n2, pf := pf } = y) := ⟨_, rfl⟩
  have HF := hide (show y.id = id ∧ y.par = par ∧ y.gr = false ∧ matOkB y.m0 y.m1 y.m2 y.m3 y.m4 y.m5 = true ∧ Right y.vf y.nv y.pf y.np ∧ y.wd = 0 ∧ y.nd = 0 ∧ (1 ≤ y.md ∧ y.md ≤ 5) ∧ (0 ≤ y.fd ∧ y.fd ≤ 255) ∧ Right y.wf y.mv y.qf y.mp by
    have hq := unhide HP
    rw [← unhide hy]
    exact ⟨hq.id, hq.par, hq.gr, hq.mat, unhide hR, hq.wd, hq.nd, hq.md, hq.fd, hq.clip⟩)
  change Hid (NS _ _ _ _ _ _ _ _ _ { x with nv := n1, vf := vf, np := n2, pf := pf } _) at N
  rw [unhide hy] at N
  clear hy HP hR
  generalize (v40.setCell ⟨b7, 9, none⟩ (.slice a1 n1 k1)).setCell ⟨b7, 10, none⟩ (.slice a2 n2 k2) = W4 at N ⊢
  generalize ({ s with av := a1, cv := k1, ap := a2, cp := k2 } : Na) = t at N
  go_wp2_with fail
  go_fit (once_any (unhide N).ds hl 3 (by omega) (by omega))
  rintro e v50 ⟨o50, rfl, d, hg⟩
  replace N := hide ((unhide N).draw d.cur hg)
  clear d hg
  have q1 := cellC (unhide N).r7 11 (by rw [ndC_size]; omega)
  have z1 := frozen_of_row v50 b7 11 _ _ (unhide N).r7
  go_upto_region 11 with fail
  clear q1 z1
  have hN := (unhide N).own.setc (j := 11) (v := .bool o50) (Nat.lt_succ_self b7)
  replace N := hide ((unhide N).put (set_ev _ _ o50) ⟨hN.v, hN.p, hN.d, hN.cv, hN.cp⟩)
  clear hN
  go_wp2_with fail
  go_fit (l12Paint_any g B a len cap _ hl (unhide N).ds.again)
  rintro e v60 ⟨⟨k, r, g3, b, a3, r2, g2, b2, a2, fx, fy, tx, ty, rfl, hpt, _⟩, d⟩
  replace N := hide ((unhide N).draw d.cur d.gb)
  replace hpt := hide hpt
  clear d
  obtain ⟨M, hM⟩ : ∃ A : Array Value, Hid (#[.int .i64 k, .int .i64 r, .int .i64 g3, .int .i64 b, .int .i64 a3, .int .i64 r2, .int .i64 g2, .int .i64 b2, .int .i64 a2, .int .i64 fx, .int .i64 fy, .int .i64 tx, .int .i64 ty] = A) := ⟨_, rfl⟩
  have hms : M.size = 13 := by rw [← unhide hM]; rfl
  have hmo : M.all (·.oneCell') = true := by rw [← unhide hM]; simp [Value.oneCell']
  have hth := hide (thereC (unhide N).r7 14 13 (by rw [ndC_size]; omega))
  have hin : (Tryz.prog.info? 39).map (·.size) = some 13 := by kernel_rfl
  go_upto_region 12 with (refine wpList_store_mid rfl 39 _ _ rfl b7 14 M rfl (by rw [← unhide hM]; rfl) (by rw [hms]; exact unhide hth) (by rw [hms]; exact hin) hmo ?_)
  have hN := (unhide N).own.sets (o := 14) (Nat.lt_succ_self b7) M.toList
  replace N := hide ((unhide N).puts M.toList (x' := { y with ev := o50, pt := ⟨k, ⟨r, g3, b, a3⟩, ⟨r2, g2, b2, a2⟩, fx, fy, tx, ty⟩ }) (s' := t) (by rw [← unhide hM]; exact set_paint _ _ k r g3 b a3 r2 g2 b2 a2 fx fy tx ty) ⟨hN.v, hN.p, hN.d, hN.cv, hN.cp⟩)
  have HU := hide (show Full { y with ev := o50, pt := ⟨k, ⟨r, g3, b, a3⟩, ⟨r2, g2, b2, a2⟩, fx, fy, tx, ty⟩ } id par from ⟨(unhide HF).1, (unhide HF).2.1, (unhide HF).2.2.1, (unhide HF).2.2.2.1, (unhide HF).2.2.2.2.1, by show 0 ≤ y.wd ∧ y.wd ≤ 2048; rw [(unhide HF).2.2.2.2.2.1]; omega, by show dashOkB y.nd y.df = true; unfold dashOkB; rw [(unhide HF).2.2.2.2.2.2.1]; simp, unhide hpt, (unhide HF).2.2.2.2.2.2.2.1, (unhide HF).2.2.2.2.2.2.2.2.1, (unhide HF).2.2.2.2.2.2.2.2.2⟩)
  clear hN hms hmo hth hin hM HF hpt
  generalize v60.setCells b7 14 M.toList = W6 at N ⊢
  generalize ({ y with ev := o50, pt := ⟨k, ⟨r, g3, b, a3⟩, ⟨r2, g2, b2, a2⟩, fx, fy, tx, ty⟩ } : Nd) = z at N HU
  clear x s
  generalize t = s at N
  go_wp2_with fail
  go_fit (once_any (unhide N).ds hl 3 (by omega) (by omega))
  rintro e v70 ⟨o70, rfl, d, hg⟩
  replace N := hide ((unhide N).draw d.cur hg)
  clear d hg
  go_upto_if 42 with fail
  go_cut [45] (fun _ u => ∃ y s, Hid (NS w u g B a len cap b6 b7 y s) ∧ Hid (Full y id par))
  case first =>
    cases o70 with
    | false =>
      go_wp2_with fail
      go_meet
      exact ⟨z, s, N, HU⟩
    | true =>
      go_wp2_with fail
      go_fit (l01Below_any g B a len cap 600 (by omega) (by omega) _ hl (unhide N).ds.lg (unhide N).ds.le (unhide N).ds.inb (unhide N).ds.cur)
      rintro e v71 ⟨x1, hx1, rfl, hc, hg⟩
      replace N := hide ((unhide N).draw hc hg)
      clear hc hg
      have hw1 : IntKind.i64.wrap (1 + (x1 : Int)) = 1 + (x1 : Int) := IntWalk.i64_in _ (by omega)
      have q1 := cellC (unhide N).r7 12 (by rw [ndC_size]; omega)
      have z1 := frozen_of_row v71 b7 12 _ _ (unhide N).r7
      go_upto_region 14 with fail
      clear q1 z1 hw1
      have hN := (unhide N).own.setc (j := 12) (v := .int .i64 (1 + (x1 : Int))) (Nat.lt_succ_self b7)
      replace N := hide ((unhide N).put (set_wd _ _ (1 + (x1 : Int))) ⟨hN.v, hN.p, hN.d, hN.cv, hN.cp⟩)
      clear hN
      have HU2 := hide (show Full { z with wd := 1 + (x1 : Int) } id par from let h := unhide HU; ⟨h.id, h.par, h.gr, h.mat, h.path, ⟨by show 0 ≤ 1 + (x1 : Int); omega, by show 1 + (x1 : Int) ≤ 2048; omega⟩, h.nd, h.pt, h.md, h.fd, h.clip⟩)
      generalize ({ z with wd := 1 + (x1 : Int) } : Nd) = z2 at N HU2
      generalize v71.setCell ⟨b7, 12, none⟩ (.int .i64 (1 + (x1 : Int))) = W7 at N ⊢
      clear HU hx1
      go_wp2_with fail
      go_fit (once_any (unhide N).ds hl 2 (by omega) (by omega))
      rintro e v72 ⟨o72, rfl, d, hg⟩
      replace N := hide ((unhide N).draw d.cur hg)
      clear d hg
      cases o72 with
      | false =>
        go_wp2_with fail
        go_meet
        exact ⟨z2, s, N, HU2⟩
      | true =>
        go_wp2_with fail
        go_fit (l01Below_any g B a len cap 500 (by omega) (by omega) _ hl (unhide N).ds.lg (unhide N).ds.le (unhide N).ds.inb (unhide N).ds.cur)
        rintro e v73 ⟨y1, hy1, rfl, hc, hg⟩
        replace N := hide ((unhide N).draw hc hg)
        clear hc hg
        have hw1 : IntKind.i64.wrap (100 + (y1 : Int)) = 100 + (y1 : Int) := IntWalk.i64_in _ (by omega)
        go_wp2_with fail
        go_fit (l01Below_any g B a len cap 500 (by omega) (by omega) _ hl (unhide N).ds.lg (unhide N).ds.le (unhide N).ds.inb (unhide N).ds.cur)
        rintro e v74 ⟨y2, hy2, rfl, hc, hg⟩
        replace N := hide ((unhide N).draw hc hg)
        clear hc hg
        have hw2 : IntKind.i64.wrap (50 + (y2 : Int)) = 50 + (y2 : Int) := IntWalk.i64_in _ (by omega)
        have NA := hide ((unhide N).calls (al1_below v74 (.cells #[.int .i64 (100 + (y1 : Int)), .int .i64 (50 + (y2 : Int))] 3)))
        have hbs := hide (heap_lt (unhide N).r7)
        have hown := hide (World.ownsRow_lit (base := b7 + 1) (e := 3) (size := 1) v74 #[.int .i64 (100 + (y1 : Int)), .int .i64 (50 + (y2 : Int))] 2 (unhide hbs) (by decide) rfl)
        have q1 := cellC (unhide NA).r7 13 (by rw [ndC_size]; omega)
        have z1 := frozen_of_row _ b7 13 _ _ (unhide NA).r7
        have n1 : ¬ b7 = v74.heap.size := by have := unhide hbs; omega
        have n2 : ¬ v74.heap.size = b7 := by have := unhide hbs; omega
        go_wp2_with fail
        go_meet
        have hN := (unhide NA).own.setc (j := 13) (v := .slice (some ⟨v74.heap.size, 0, none⟩) 2 2) (Nat.lt_succ_self b7)
        have ho := own_setc (j := 13) (u := .slice (some ⟨v74.heap.size, 0, none⟩) 2 2) (unhide hown) (Nat.lt_succ_self b7)
        have hq := unhide HU2
        refine ⟨_, _, (unhide NA).put (set_ds z2 s (some ⟨v74.heap.size, 0, none⟩) 2 2 (fun j => if j = 0 then 100 + (y1 : Int) else 50 + (y2 : Int))) ⟨hN.v, hN.p, ⟨_, ho, fun j hj => ?_⟩, hN.cv, hN.cp⟩, ⟨hq.id, hq.par, hq.gr, hq.mat, hq.path, hq.wd, ?_, hq.pt, hq.md, hq.fd, hq.clip⟩⟩
        · change j < 2 at hj
          rcases j with _ | _ | j
          · rfl
          · rfl
          · omega
        · show dashOkB 2 (fun j => if j = 0 then 100 + (y1 : Int) else 50 + (y2 : Int)) = true
          unfold dashOkB
          refine decide_eq_true ⟨by omega, by omega, fun i hi => ?_⟩
          by_cases e : i = 0 <;> simp only [e, if_true, if_false] <;> omega
  case rest =>
  clear N HU
  obtain ⟨y, t, N, HU⟩ := hcut
  have hok := hide (unhide hg2 _ (unhide HU))
  have hi1 := hide (unhide HU).id
  have hi2 := hide (unhide HU).par
  obtain ⟨C6, r6, z6⟩ := (unhide N).r6
  replace r6 := hide r6
  have hlo := hide (unhide N).lo
  go_wp2_with (first | with_reducible refine load_own rfl _ rfl b7 rfl y t 41 (unhide N).r7 ?_ | with_reducible refine wpList_store_row rfl 41 _ _ rfl b6 (ndC y t) rfl rfl 41 _ (unhide r6) (ndC_info y t) (z6.trans (ndC_size y t).symm) (ndC_one y t) ?_)
  have r6' := hide (setRow_heap _ _ _ (ndC y t) _ _ (unhide r6))
  refine bodyPost_ret (v := .agg (ndC y t)) (results_cell_row rfl _ _ b6 41 _ (0, 0) _ rfl (unhide r6') Tryz.underlying41 rfl (ndC_info y t)) rfl ?_
  exact ⟨⟨y, t, rfl, (((unhide N).own.kept (setRow_grown _ b6 _) (by have := unhide hlo; omega)).low (by have := unhide hlo; omega)), unhide hok, unhide hi1, unhide hi2⟩, (unhide N).ds.setRow (unhide hlo).1⟩
end Go.Proofs.YtmafopckplpajaaGreatDoor

/-
  Drawn points and paths of any kind.
-/
namespace Go.Proofs.YtmafopckplpajaaGreatDoor
open Go.RowKit
set_option linter.unusedVariables false

theorem any_lit (w : World) (L : List Int) (t : TypeId) : ∀ j, j < L.length → ∃ z, True ∧ (w.alloc (.cells (L.map (fun z => Value.int .i64 z)).toArray t)).cell? ⟨w.heap.size, j, none⟩ = some (.int .i64 z) := fun j hj => by
  refine ⟨L[j], trivial, ?_⟩
  rw [World.cell?_alloc_mark w _ t (0, 0) j]
  simp [hj]

set_option maxHeartbeats 4000000 in
set_option maxRecDepth 100000 in
theorem l04AnyPoint_any (g B : Nat) (a : Option Addr) (len cap : Nat) (w : World) (hl : len ≤ 1048576) (h : DS w w g B a len cap) :
    Calls Tryz.prog 158 #[.pointer (some ⟨g, 0, none⟩)] w fun e w' => ∃ x y : Int, e = .returned (.agg #[.int .i64 x, .int .i64 y]) ∧ DS w w' g B a len cap := by
  have D := hide h
  clear h
  go_enter Tryz.func158, Tryz.ntmps158
  go_wp2_with fail
  obtain ⟨W, hW⟩ : ∃ W, W = w.alloc (.cells #[.int .i64 0, .int .i64 0] 37) := ⟨_, rfl⟩
  have R := hide (show W.heap[w.heap.size]? = some (.cells #[.int .i64 0, .int .i64 0] 37 (0, 0)) by rw [hW]; exact new_row _ _)
  replace D := hide (show DS w W g B a len cap by rw [hW]; exact (unhide D).alloc _)
  rw [← hW]
  clear hW
  refine (l04Point_any g B a len cap _ hl (unhide D).again).mono ?_
  rintro e w1 ⟨x, y, _, _, rfl, d1⟩
  replace R := hide ((unhide D).heap d1.gb (Nat.le_refl _) (unhide R))
  replace D := hide ((unhide D).next d1.cur d1.gb)
  clear d1
  have lp := hide (show w.heap.size < w1.heap.size from heap_lt (unhide R))
  go_wp2_with fail
  obtain ⟨W1, hW⟩ : ∃ W, W = w1.alloc (.cells #[.int .i64 x, .int .i64 y] 37) := ⟨_, rfl⟩
  have P := hide (show W1.heap[w1.heap.size]? = some (.cells #[.int .i64 x, .int .i64 y] 37 (0, 0)) by rw [hW]; exact new_row _ _)
  replace R := hide (show W1.heap[w.heap.size]? = some (.cells #[.int .i64 0, .int .i64 0] 37 (0, 0)) by rw [hW]; exact old_row _ (unhide R))
  replace D := hide (show DS w W1 g B a len cap by rw [hW]; exact (unhide D).alloc _)
  rw [← hW]
  clear hW
  refine (once_ds (unhide D) hl 12 (by omega) (by omega)).mono ?_
  rintro e u1 ⟨b1, rfl, d1, g1⟩
  replace R := hide ((unhide D).heap g1 (Nat.le_refl _) (unhide R))
  replace P := hide ((unhide D).heap g1 (Nat.le_of_lt (unhide lp)) (unhide P))
  replace D := hide d1
  clear d1 g1
  cases b1 with
  | false =>
    go_wp2_with fail
    refine (once_ds (unhide D) hl 16 (by omega) (by omega)).mono ?_
    rintro e u2 ⟨b2, rfl, d1, g1⟩
    replace R := hide ((unhide D).heap g1 (Nat.le_refl _) (unhide R))
    replace P := hide ((unhide D).heap g1 (Nat.le_of_lt (unhide lp)) (unhide P))
    replace D := hide d1
    clear d1 g1
    cases b2 with
    | false =>
      obtain ⟨q0, q1⟩ := row2 (unhide P)
      obtain ⟨r0, r1⟩ := row2 (unhide R)
      obtain ⟨f0, f1⟩ := free2 (unhide R)
      go_wp2_with fail
      refine bodyPost_ret (v := .agg #[.int .i64 x, .int .i64 y]) (by simp [results, Tryz.results158, go_sem, r0, r1]) rfl ?_
      exact ⟨_, _, rfl, ((unhide D).put _ _ (Nat.le_refl _)).put _ _ (Nat.le_refl _)⟩
    | true =>
      go_wp2_with fail
      obtain ⟨V2, hV⟩ : ∃ V, V = u2.alloc (.cells #[.int .i64 (-8388608), .int .i64 8388608, .int .i64 8388609] 3) := ⟨_, rfl⟩
      have hrow := hide (show ∀ j, j < 3 → ∃ z, True ∧ V2.cell? ⟨u2.heap.size, j, none⟩ = some (.int .i64 z) by rw [hV]; exact any_lit u2 [(-8388608), 8388608, 8388609] 3)
      have hlt := hide (show u2.heap.size < V2.heap.size by rw [hV]; exact new_lt _ _)
      have hle := hide (show w.heap.size ≤ u2.heap.size from (unhide D).size)
      replace R := hide (show V2.heap[w.heap.size]? = some (.cells #[.int .i64 0, .int .i64 0] 37 (0, 0)) by rw [hV]; exact old_row _ (unhide R))
      replace P := hide (show V2.heap[w1.heap.size]? = some (.cells #[.int .i64 x, .int .i64 y] 37 (0, 0)) by rw [hV]; exact old_row _ (unhide P))
      replace D := hide (show DS w V2 g B a len cap by rw [hV]; exact (unhide D).alloc _)
      rw [← hV]
      clear hV
      refine (pick_ds (fun _ => True) (unhide D) hl u2.heap.size 3 (by omega) (by omega) (unhide hle) (unhide hlt) (unhide hrow)).mono ?_
      rintro e t2 ⟨z2, _, rfl, d1, g1⟩
      clear hrow hlt hle
      replace R := hide ((unhide D).heap g1 (Nat.le_refl _) (unhide R))
      replace P := hide ((unhide D).heap g1 (Nat.le_of_lt (unhide lp)) (unhide P))
      replace D := hide d1
      clear d1 g1
      obtain ⟨q0, q1⟩ := row2 (unhide P)
      obtain ⟨f0, f1⟩ := free2 (unhide P)
      go_upto_region 6 with fail
      obtain ⟨X2, hX⟩ : ∃ X, X = t2.setCell ⟨w1.heap.size, 1, none⟩ (.int .i64 z2) := ⟨_, rfl⟩
      replace P := hide (show X2.heap[w1.heap.size]? = some (.cells #[.int .i64 x, .int .i64 z2] 37 (0, 0)) by rw [hX]; exact set2_1 (unhide P))
      replace R := hide (show X2.heap[w.heap.size]? = some (.cells #[.int .i64 0, .int .i64 0] 37 (0, 0)) by rw [hX]; exact setc_other (Nat.ne_of_lt (unhide lp)) (unhide R))
      replace D := hide (show DS w X2 g B a len cap by rw [hX]; exact (unhide D).put _ _ (Nat.le_of_lt (unhide lp)))
      rw [← hX]
      clear hX q0 q1 f0 f1
      obtain ⟨q0, q1⟩ := row2 (unhide P)
      obtain ⟨r0, r1⟩ := row2 (unhide R)
      obtain ⟨f0, f1⟩ := free2 (unhide R)
      go_wp2_with fail
      refine bodyPost_ret (v := .agg #[.int .i64 x, .int .i64 z2]) (by simp [results, Tryz.results158, go_sem, r0, r1]) rfl ?_
      exact ⟨_, _, rfl, ((unhide D).put _ _ (Nat.le_refl _)).put _ _ (Nat.le_refl _)⟩
  | true =>
    go_wp2_with fail
    obtain ⟨V1, hV⟩ : ∃ V, V = u1.alloc (.cells #[.int .i64 (-8388608), .int .i64 8388608, .int .i64 8388609, .int .i64 (-8388609), .int .i64 9223372036854775807, .int .i64 (-9223372036854775808)] 3) := ⟨_, rfl⟩
    have hrow := hide (show ∀ j, j < 6 → ∃ z, True ∧ V1.cell? ⟨u1.heap.size, j, none⟩ = some (.int .i64 z) by rw [hV]; exact any_lit u1 [(-8388608), 8388608, 8388609, (-8388609), 9223372036854775807, (-9223372036854775808)] 3)
    have hlt := hide (show u1.heap.size < V1.heap.size by rw [hV]; exact new_lt _ _)
    have hle := hide (show w.heap.size ≤ u1.heap.size from (unhide D).size)
    replace R := hide (show V1.heap[w.heap.size]? = some (.cells #[.int .i64 0, .int .i64 0] 37 (0, 0)) by rw [hV]; exact old_row _ (unhide R))
    replace P := hide (show V1.heap[w1.heap.size]? = some (.cells #[.int .i64 x, .int .i64 y] 37 (0, 0)) by rw [hV]; exact old_row _ (unhide P))
    replace D := hide (show DS w V1 g B a len cap by rw [hV]; exact (unhide D).alloc _)
    rw [← hV]
    clear hV
    refine (pick_ds (fun _ => True) (unhide D) hl u1.heap.size 6 (by omega) (by omega) (unhide hle) (unhide hlt) (unhide hrow)).mono ?_
    rintro e t1 ⟨z, _, rfl, d1, g1⟩
    clear hrow hlt hle
    replace R := hide ((unhide D).heap g1 (Nat.le_refl _) (unhide R))
    replace P := hide ((unhide D).heap g1 (Nat.le_of_lt (unhide lp)) (unhide P))
    replace D := hide d1
    clear d1 g1
    obtain ⟨q0, q1⟩ := row2 (unhide P)
    obtain ⟨f0, f1⟩ := free2 (unhide P)
    go_wp2_with fail
    obtain ⟨X1, hX⟩ : ∃ X, X = t1.setCell ⟨w1.heap.size, 0, none⟩ (.int .i64 z) := ⟨_, rfl⟩
    replace P := hide (show X1.heap[w1.heap.size]? = some (.cells #[.int .i64 z, .int .i64 y] 37 (0, 0)) by rw [hX]; exact set2_0 (unhide P))
    replace R := hide (show X1.heap[w.heap.size]? = some (.cells #[.int .i64 0, .int .i64 0] 37 (0, 0)) by rw [hX]; exact setc_other (Nat.ne_of_lt (unhide lp)) (unhide R))
    replace D := hide (show DS w X1 g B a len cap by rw [hX]; exact (unhide D).put _ _ (Nat.le_of_lt (unhide lp)))
    rw [← hX]
    clear hX q0 q1 f0 f1
    refine (once_ds (unhide D) hl 16 (by omega) (by omega)).mono ?_
    rintro e u2 ⟨b2, rfl, d1, g1⟩
    replace R := hide ((unhide D).heap g1 (Nat.le_refl _) (unhide R))
    replace P := hide ((unhide D).heap g1 (Nat.le_of_lt (unhide lp)) (unhide P))
    replace D := hide d1
    clear d1 g1
    cases b2 with
    | false =>
      obtain ⟨q0, q1⟩ := row2 (unhide P)
      obtain ⟨r0, r1⟩ := row2 (unhide R)
      obtain ⟨f0, f1⟩ := free2 (unhide R)
      go_wp2_with fail
      refine bodyPost_ret (v := .agg #[.int .i64 z, .int .i64 y]) (by simp [results, Tryz.results158, go_sem, r0, r1]) rfl ?_
      exact ⟨_, _, rfl, ((unhide D).put _ _ (Nat.le_refl _)).put _ _ (Nat.le_refl _)⟩
    | true =>
      go_wp2_with fail
      obtain ⟨V2, hV⟩ : ∃ V, V = u2.alloc (.cells #[.int .i64 (-8388608), .int .i64 8388608, .int .i64 8388609] 3) := ⟨_, rfl⟩
      have hrow := hide (show ∀ j, j < 3 → ∃ z, True ∧ V2.cell? ⟨u2.heap.size, j, none⟩ = some (.int .i64 z) by rw [hV]; exact any_lit u2 [(-8388608), 8388608, 8388609] 3)
      have hlt := hide (show u2.heap.size < V2.heap.size by rw [hV]; exact new_lt _ _)
      have hle := hide (show w.heap.size ≤ u2.heap.size from (unhide D).size)
      replace R := hide (show V2.heap[w.heap.size]? = some (.cells #[.int .i64 0, .int .i64 0] 37 (0, 0)) by rw [hV]; exact old_row _ (unhide R))
      replace P := hide (show V2.heap[w1.heap.size]? = some (.cells #[.int .i64 z, .int .i64 y] 37 (0, 0)) by rw [hV]; exact old_row _ (unhide P))
      replace D := hide (show DS w V2 g B a len cap by rw [hV]; exact (unhide D).alloc _)
      rw [← hV]
      clear hV
      refine (pick_ds (fun _ => True) (unhide D) hl u2.heap.size 3 (by omega) (by omega) (unhide hle) (unhide hlt) (unhide hrow)).mono ?_
      rintro e t2 ⟨z2, _, rfl, d1, g1⟩
      clear hrow hlt hle
      replace R := hide ((unhide D).heap g1 (Nat.le_refl _) (unhide R))
      replace P := hide ((unhide D).heap g1 (Nat.le_of_lt (unhide lp)) (unhide P))
      replace D := hide d1
      clear d1 g1
      obtain ⟨q0, q1⟩ := row2 (unhide P)
      obtain ⟨f0, f1⟩ := free2 (unhide P)
      go_upto_region 6 with fail
      obtain ⟨X2, hX⟩ : ∃ X, X = t2.setCell ⟨w1.heap.size, 1, none⟩ (.int .i64 z2) := ⟨_, rfl⟩
      replace P := hide (show X2.heap[w1.heap.size]? = some (.cells #[.int .i64 z, .int .i64 z2] 37 (0, 0)) by rw [hX]; exact set2_1 (unhide P))
      replace R := hide (show X2.heap[w.heap.size]? = some (.cells #[.int .i64 0, .int .i64 0] 37 (0, 0)) by rw [hX]; exact setc_other (Nat.ne_of_lt (unhide lp)) (unhide R))
      replace D := hide (show DS w X2 g B a len cap by rw [hX]; exact (unhide D).put _ _ (Nat.le_of_lt (unhide lp)))
      rw [← hX]
      clear hX q0 q1 f0 f1
      obtain ⟨q0, q1⟩ := row2 (unhide P)
      obtain ⟨r0, r1⟩ := row2 (unhide R)
      obtain ⟨f0, f1⟩ := free2 (unhide R)
      go_wp2_with fail
      refine bodyPost_ret (v := .agg #[.int .i64 z, .int .i64 z2]) (by simp [results, Tryz.results158, go_sem, r0, r1]) rfl ?_
      exact ⟨_, _, rfl, ((unhide D).put _ _ (Nat.le_refl _)).put _ _ (Nat.le_refl _)⟩

def AnyI (u : World) (a : Option Addr) (n : Nat) : Prop := ∀ i, i < n → ∃ z, IntAt u a i z
def AnyPt (u : World) (b : Option Addr) (m : Nat) : Prop := ∀ i, i < m → ∃ p, PtArg u b i p
def AnyP (v1 v2 : Value) (u : World) : Prop := ∃ a n c b m d, v1 = .slice a n c ∧ v2 = .slice b m d ∧ n ≤ 24 ∧ m ≤ 24 ∧ m ≤ d ∧ AnyI u a n ∧ AnyPt u b m
theorem own_news {u : World} {base e size g n cap : Nat} {xs : List Value} (h : u.ownsRow base e size (.slice (some ⟨g, 0, none⟩) n cap) n xs) : ∀ j v, xs[j]? = some v → u.cell? ((⟨g, 0, none⟩ : Addr).add j) = some v := by
  intro j v hj
  have hadd : (⟨g, 0, none⟩ : Addr).add j = ⟨g, j, none⟩ := by unfold Addr.add; split <;> simp_all
  have hl : j < n * size := by rw [← h.1]; exact (List.getElem?_eq_some_iff.1 hj).1
  rw [hadd, h.cellAt j hl, hj]
theorem ix_one {xs : List Value} {vf : Nat → Int} {n : Nat} (hl : xs.length = n * 1) (h : IxAt xs vf n) : ∀ u ∈ xs, u.oneCell' = true := by
  intro u hu
  obtain ⟨j, hj, rfl⟩ := List.mem_iff_getElem.1 hu
  have h0 := h j (by omega)
  rw [List.getElem?_eq_getElem hj] at h0
  injection h0 with h0; rw [h0]; rfl
theorem px_one {ys : List Value} {pf : Nat → Int × Int} {m : Nat} (hl : ys.length = m * 2) (h : PxAt ys pf m) : ∀ u ∈ ys, u.oneCell' = true := by
  intro u hu
  obtain ⟨j, hj, rfl⟩ := List.mem_iff_getElem.1 hu
  obtain ⟨h0, h1⟩ := h (j / 2) (by omega)
  rcases Nat.mod_two_eq_zero_or_one j with e | e
  · rw [show j / 2 * 2 = j by omega, List.getElem?_eq_getElem hj] at h0
    injection h0 with h0; rw [h0]; rfl
  · rw [show j / 2 * 2 + 1 = j by omega, List.getElem?_eq_getElem hj] at h1
    injection h1 with h1; rw [h1]; rfl
theorem step_append_bl {P : Program} {ops : Array Oper} {o : Oper} {a : Act} {w W0 : World} {K : Act → World → Prop} {Q : Exit → Act → World → Prop} {E : Prop} (hg : o.guard = none) (s x : Operand) (t e : TypeId)
    (hop : o.op = .call { callee := .builtin .append, args := #[s, x], argTypes := #[t, t] })
    (i : TypeInfo) (z : Value) (size bytes : Nat) (ht : P.underlying t = some (.slice e)) (hi : P.info? e = some i) (hz : i.zero = some z) (hsize : i.size = size) (hby : i.bytes = bytes) (hzs : z.cells.size = size) (hsz : 0 < size)
    (v : Value) (hs : a.eval s = v) (hown : w.ownsRow W0.heap.size e size v 0 [])
    (ad : Addr) (m c : Nat) (news : List Value) (hx : a.eval x = .slice (some ad) m c) (hl : news.length = m * size) (hnews : ∀ j u, news[j]? = some u → w.cell? (ad.add j) = some u) (h1 : ∀ u ∈ news, u.oneCell' = true)
    (h63 : m ≤ maxLen) (hbytes : m * bytes ≤ 140737488355328) (hb : Below W0.heap.size W0 w)
    (hK : ∀ v' w', w'.ownsRow W0.heap.size e size v' m news → w.grownBy w' v.ownBlock → Below W0.heap.size W0 w' → (∀ (b' e' s' n' : Nat) (x' : Value) (xs' : List Value), w.ownsRow b' e' s' x' n' xs' → e' ≠ e → w'.ownsRow b' e' s' x' n' xs') → K (a.put o.dst v') w') :
    if Region.wanted o (yielded ops a.tmps) = true then Oper.wp P o a w K Q else E := by
  refine step_append_gr hg s x t e hop W0.heap.size i z size bytes ht hi hz hsize hby hzs hsz v 0 [] hs hown ad m c news hx hl hnews h1 (by omega) (by rw [Nat.zero_add]; exact hbytes) hb.size ?_
  intro v' w' ho hg'
  rw [Nat.zero_add, List.nil_append] at ho
  exact hK v' w' ho hg' (hb.grown hg' hb.size (fun k hk => (hown.lt k hk).1)) (fun b' e' s' n' x' xs' h1 h2 => h1.kept hg' (rows_apart h1 hown h2))
theorem own_any {u : World} {base e size b : Nat} (h : u.heap[b]? = some (.cells #[] e (0, 0))) (hb : base ≤ b) : u.ownsRow base e size (.slice (some ⟨b, 0, none⟩) 0 0) 0 [] :=
  ⟨by simp, .inr ⟨b, 0, #[], rfl, hb, h, Nat.le_refl _, by decide, by simp, by simp⟩⟩
theorem anyI_own {u : World} {base n c : Nat} {a : Option Addr} {xs : List Value} {vf : Nat → Int} (h : u.ownsRow base 3 1 (.slice a n c) n xs) (hx : IxAt xs vf n) : AnyI u a n := fun i hi => ⟨_, own_ix h hx i hi⟩
theorem anyP_own {u : World} {base t n c : Nat} {a : Option Addr} {xs : List Value} {pf : Nat → Int × Int} (h : u.ownsRow base t 2 (.slice a n c) n xs) (hx : PxAt xs pf n) : AnyPt u a n := fun i hi => ⟨_, own_pxa h hx i hi⟩
/-- Where an int is written, ints stay. -/
theorem int_set {u : World} {p q : Addr} {z x : Int} (h : u.cell? q = some (.int .i64 x)) : ∃ y, (u.setCell p (.int .i64 z)).cell? q = some (.int .i64 y) := by
  exact someInt_setCell ⟨x, h⟩ p z
end Go.Proofs.YtmafopckplpajaaGreatDoor

/-
  Drawn paths of any kind.
-/
namespace Go.Proofs.YtmafopckplpajaaGreatDoor
open Go.RowKit
set_option linter.unusedVariables false

theorem own_cap {u : World} {base e s n c : Nat} {a : Option Addr} {xs : List Value} (h : u.ownsRow base e s (.slice a n c) n xs) : n ≤ c := by
  rcases h.2 with ⟨h2, h3⟩ | ⟨g, cap, cur, h2, _, _, h4, _⟩
  · omega
  · injection h2 with _ _ h5; omega
theorem own_put {u : World} {base e s n q : Nat} {v : Value} {xs : List Value} (h : u.ownsRow base e s v n xs) (hq : q < base) (x y : Value) : ((u.setCell ⟨q, 0, none⟩ x).setCell ⟨q, 1, none⟩ y).ownsRow base e s v n xs :=
  own_setc_ne (own_setc_ne h (fun k hk e => by have := (h.lt k hk).1; omega)) (fun k hk e => by have := (h.lt k hk).1; omega)
theorem anyI_put {u : World} {a : Option Addr} {n : Nat} (h : AnyI u a n) (p : Addr) (z : Int) : AnyI (u.setCell p (.int .i64 z)) a n := fun i hi => by
  obtain ⟨x, s, o, e, hx⟩ := h i hi
  obtain ⟨y, hy⟩ := int_set (p := p) (z := z) hx
  exact ⟨y, s, o, e, hy⟩
theorem anyPt_put {u : World} {b : Option Addr} {m : Nat} (h : AnyPt u b m) (p : Addr) (z : Int) : AnyPt (u.setCell p (.int .i64 z)) b m := fun i hi => by
  obtain ⟨q, s, o, e, h0, h1⟩ := h i hi
  obtain ⟨y0, k0⟩ := int_set (p := p) (z := z) h0
  obtain ⟨y1, k1⟩ := int_set (p := p) (z := z) h1
  exact ⟨(y0, y1), s, o, e, k0, k1⟩
theorem set2_far {u : World} {q : Nat} {p : Addr} (h : q ≠ p.block) (x y : Value) : ((u.setCell ⟨q, 0, none⟩ x).setCell ⟨q, 1, none⟩ y).cell? p = u.cell? p := by
  rw [World.cell?_setCell_far _ _ _ _ h, World.cell?_setCell_far _ _ _ _ h]
theorem anyI_far {u : World} {n q g o : Nat} {x y : Value} (h : AnyI u (some ⟨g, o, none⟩) n) (hq : q ≠ g) : AnyI ((u.setCell ⟨q, 0, none⟩ x).setCell ⟨q, 1, none⟩ y) (some ⟨g, o, none⟩) n := fun i hi => by
  obtain ⟨z, s, o', e, h1⟩ := h i hi
  cases e
  exact ⟨z, g, o, rfl, by rw [set2_far hq]; exact h1⟩
theorem anyPt_far {u : World} {n q g o : Nat} {x y : Value} (h : AnyPt u (some ⟨g, o, none⟩) n) (hq : q ≠ g) : AnyPt ((u.setCell ⟨q, 0, none⟩ x).setCell ⟨q, 1, none⟩ y) (some ⟨g, o, none⟩) n := fun i hi => by
  obtain ⟨z, s, o', e, h1, h2⟩ := h i hi
  cases e
  exact ⟨z, g, o, rfl, by rw [set2_far hq]; exact h1, by rw [set2_far hq]; exact h2⟩
theorem own_drew {u : World} {base e s n : Nat} {v : Value} {xs : List Value} (h : u.ownsRow base e s v n xs) : u.drew.ownsRow base e s v n xs := h
theorem anyI_next {u v : World} {a : Option Addr} {n : Nat} (h : AnyI u a n) (hb : Below u.heap.size u v) : AnyI v a n := fun i hi => let ⟨z, hz⟩ := h i hi; ⟨z, hz.next hb⟩
theorem anyPt_next {u v : World} {a : Option Addr} {n : Nat} (h : AnyPt u a n) (hb : Below u.heap.size u v) : AnyPt v a n := fun i hi => let ⟨z, hz⟩ := h i hi; ⟨z, hz.next hb⟩
theorem AnyP.next {v1 v2 : Value} {u v : World} (h : AnyP v1 v2 u) (hb : Below u.heap.size u v) : AnyP v1 v2 v := by
  obtain ⟨a, n, c, b, m, d, h1, h2, h3, h4, h5, h6, h7⟩ := h
  exact ⟨a, n, c, b, m, d, h1, h2, h3, h4, h5, anyI_next h6 hb, anyPt_next h7 hb⟩

/-- A path's lists: their capacities, and where they lie. -/
def CapP (base : Nat) (v1 v2 : Value) : Prop := ∃ a n c b m d, v1 = .slice a n c ∧ v2 = .slice b m d ∧ (n ≤ c ∧ (a = none → c = 0)) ∧ (m ≤ d ∧ (b = none → d = 0)) ∧ (∀ q, a = some q → base ≤ q.block) ∧ ∀ q, b = some q → base ≤ q.block
theorem caps2 {base q1 q2 o1 o2 n c m d : Nat} (h1 : n ≤ c) (h2 : m ≤ d) (h3 : base ≤ q1) (h4 : base ≤ q2) : CapP base (.slice (some ⟨q1, o1, none⟩) n c) (.slice (some ⟨q2, o2, none⟩) m d) :=
  ⟨_, _, _, _, _, _, rfl, rfl, ⟨h1, fun h => by cases h⟩, ⟨h2, fun h => by cases h⟩, fun q h => by cases h; exact h3, fun q h => by cases h; exact h4⟩
theorem caps0 (base : Nat) : CapP base (.slice none 0 0) (.slice none 0 0) :=
  ⟨_, _, _, _, _, _, rfl, rfl, ⟨Nat.le_refl _, fun _ => rfl⟩, ⟨Nat.le_refl _, fun _ => rfl⟩, fun q h => (by cases h), fun q h => (by cases h)⟩

set_option maxHeartbeats 16000000 in
set_option maxRecDepth 100000 in
theorem l06Any_cap (g B : Nat) (a : Option Addr) (len cap : Nat) (w : World) (hl : len ≤ 1048576) (h : DS w w g B a len cap) :
    Calls Tryz.prog 128 #[.pointer (some ⟨g, 0, none⟩)] w fun e w' => ∃ v1 v2, e = .returned (.agg #[v1, v2]) ∧ (AnyP v1 v2 w' ∧ CapP w.heap.size v1 v2) ∧ DS w w' g B a len cap := by
  obtain ⟨i1, hi1, hz1, hs1, hb1⟩ := info_parts Tryz.info3
  obtain ⟨i2, hi2, hz2, hs2, hb2⟩ := info_parts infoPoint
  have D := hide h
  clear h
  go_enter Tryz.func128, Tryz.ntmps128
  go_wp2_with fail
  obtain ⟨W, hW⟩ : ∃ W, W = w.alloc (.cells #[.slice none 0 0, .slice none 0 0] 33) := ⟨_, rfl⟩
  have R := hide (show W.heap[w.heap.size]? = some (.cells #[.slice none 0 0, .slice none 0 0] 33 (0, 0)) by rw [hW]; exact new_row _ _)
  replace D := hide (show DS w W g B a len cap by rw [hW]; exact (unhide D).alloc _)
  rw [← hW]
  clear hW
  refine (l06Path_any g B a len cap _ hl (unhide D).again).mono ?_
  rintro e w1 ⟨v1, v2, rfl, hd, d1⟩
  replace R := hide ((unhide D).heap d1.gb (Nat.le_refl _) (unhide R))
  have lW := hide (show w.heap.size ≤ W.heap.size from (unhide D).size)
  replace D := hide ((unhide D).next d1.cur d1.gb)
  clear d1
  have lp := hide (show w.heap.size < w1.heap.size from heap_lt (unhide R))
  obtain ⟨n, m, vf, pf, ⟨xs, ys, ho, hix, hpx⟩, hr, hnear, hn0, hm0⟩ := hd
  have hn24 := hr.nv24
  have hm24 := hr.np24
  obtain ⟨s1, c1, rfl, hs1w, hs1l⟩ := own_at ho.one hn0
  obtain ⟨s2, c2, rfl, hs2w, hs2l⟩ := own_at ho.two hm0
  have hxl := hide ho.one.1
  have hyl := hide ho.two.1
  have hx1 := hide (ix_one ho.one.1 hix)
  have hy1 := hide (px_one ho.two.1 hpx)
  replace hix := hide hix
  replace hpx := hide hpx
  have O := hide ho
  clear ho hr hnear hs1w hs1l hs2w hs2l
  go_upto_region 2 with fail
  obtain ⟨W3, hW⟩ : ∃ V, V = w1.alloc (.cells #[.slice (some ⟨s1, 0, none⟩) n c1, .slice (some ⟨s2, 0, none⟩) m c2] 33) := ⟨_, rfl⟩
  have P := hide (show W3.heap[w1.heap.size]? = some (.cells #[.slice (some ⟨s1, 0, none⟩) n c1, .slice (some ⟨s2, 0, none⟩) m c2] 33 (0, 0)) by rw [hW]; exact new_row _ _)
  replace R := hide (show W3.heap[w.heap.size]? = some (.cells #[.slice none 0 0, .slice none 0 0] 33 (0, 0)) by rw [hW]; exact old_row _ (unhide R))
  replace D := hide (show DS w W3 g B a len cap by rw [hW]; exact (unhide D).alloc _)
  replace O := hide (show OwnPath W3 W.heap.size (.slice (some ⟨s1, 0, none⟩) n c1) (.slice (some ⟨s2, 0, none⟩) m c2) n m xs ys by rw [hW]; exact (unhide O).next (al1_below _ _))
  rw [← hW]
  clear hW
  go_cut [14] (fun s u => ∃ b1 d1 b2 d2, u.heap[w1.heap.size]? = some (.cells #[.slice b1 n d1, .slice b2 m d2] 33 (0, 0)) ∧ u.ownsRow W3.heap.size 3 1 (.slice b1 n d1) n xs ∧ u.ownsRow W3.heap.size 37 2 (.slice b2 m d2) m ys ∧ Below w1.heap.size W3 u ∧ u.heap[w.heap.size]? = some (.cells #[.slice none 0 0, .slice none 0 0] 33 (0, 0)))
  case first =>
    have BZ := hide (Below.refl W3.heap.size W3)
    obtain ⟨c0, c1'⟩ := row2 (unhide P)
    have n0 := fun o => kn o c0
    have n1 := fun o => kn o c1'
    have m0 := fun o o' => kn o' (kn o c0)
    have m1 := fun o o' => kn o' (kn o c1')
    go_region_law (first | (refine step_append_bl (W0 := W3) rfl _ _ 30 3 rfl i1 (.int .i64 0) 1 8 Tryz.underlying30 hi1 hz1 hs1 hb1 rfl (by decide) _ (by rfl) (own_any (by first | exact al1_0 _ _ | exact al2_0 _ _ _ | exact al2_1 _ _ _) (by first | exact Nat.le_refl _ | exact Nat.le_succ _)) ⟨s1, 0, none⟩ n c1 xs (by rfl) (unhide hxl) (own_news ((unhide O).next (by first | exact below_new _ (unhide BZ).drew (Nat.le_refl _) | exact below_new _ (below_new _ (unhide BZ).drew (Nat.le_refl _)) (Nat.le_refl _))).one) (unhide hx1) (by unfold maxLen; omega) (by omega) (by first | exact below_new _ (unhide BZ).drew (Nat.le_refl _) | exact below_new _ (below_new _ (unhide BZ).drew (Nat.le_refl _)) (Nat.le_refl _)) ?_; intro v' wA ho hg hb _; obtain ⟨bA, dA, rfl⟩ := own_form ho; have OA := hide ho; have gA := hide (show World.grownBy _ _ (some _) from hg); have BA := hide hb; clear ho hg hb; obtain ⟨h0, h1⟩ := row2 ((unhide BA).block _ (heap_lt (unhide P)) |>.trans (unhide P)); have k0 := fun o => kn o h0; have k1 := fun o => kn o h1; obtain ⟨f0, f1⟩ := free2 ((unhide BA).block _ (heap_lt (unhide P)) |>.trans (unhide P))) | (refine step_append_bl (W0 := W3) rfl _ _ 31 37 rfl i2 (.agg #[.int .i64 0, .int .i64 0]) 2 16 Tryz.underlying31 hi2 hz2 hs2 hb2 rfl (by decide) _ (by rfl) (own_any (by first | exact new_row _ _ | exact ((unhide gA).block _ (heap_lt (al2_1 _ _ _)) (fun e => by injection e with e; (try dsimp only at e); omega)).trans (al2_1 _ _ _) | exact ((unhide gA).block _ (heap_lt (al2_0 _ _ _)) (fun e => by injection e with e; (try dsimp only at e); omega)).trans (al2_0 _ _ _)) (by first | exact Nat.le_refl _ | exact Nat.le_succ _ | exact (unhide BA).size)) ⟨s2, 0, none⟩ m c2 ys (by rfl) (unhide hyl) (own_news ((unhide O).next (by first | exact unhide BA | exact below_new _ (unhide BA) (Nat.le_refl _))).two) (unhide hy1) (by unfold maxLen; omega) (by omega) (by first | exact unhide BA | exact below_new _ (unhide BA) (Nat.le_refl _)) ?_; intro v' wB ho hg hb hk; obtain ⟨bB, dB, rfl⟩ := own_form ho; have OB := hide ho; have OA2 := hide (by first | exact hk _ _ _ _ _ _ (unhide OA) (by decide) | exact hk _ _ _ _ _ _ ((unhide OA).alloc _) (by decide)); clear hk; have BB := hide hb; clear ho hg hb; obtain ⟨h0, h1⟩ := row2 ((unhide BB).block _ (heap_lt (unhide P)) |>.trans (unhide P)); have k0 := fun o => kn o h0; have k1 := fun o => kn o h1; obtain ⟨f0, f1⟩ := free2 ((unhide BB).block _ (heap_lt (unhide P)) |>.trans (unhide P))))
    all_goals
      clear h0 h1 k0 k1 f0 f1 c0 c1' n0 n1 m0 m1
      go_wp2_with fail
      go_meet
      have OB2 := own_setc_ne (g := w1.heap.size) (j := 1) (u := .slice bB m dB) (own_setc_ne (g := w1.heap.size) (j := 0) (u := .slice bA n dA) (unhide OB) (fun k hk e => by have := ((unhide OB).lt k hk).1; have := heap_lt (unhide P); omega)) (fun k hk e => by have := ((unhide OB).lt k hk).1; have := heap_lt (unhide P); omega)
      have OA3 := own_setc_ne (g := w1.heap.size) (j := 1) (u := .slice bB m dB) (own_setc_ne (g := w1.heap.size) (j := 0) (u := .slice bA n dA) (unhide OA2) (fun k hk e => by have := ((unhide OA2).lt k hk).1; have := heap_lt (unhide P); omega)) (fun k hk e => by have := ((unhide OA2).lt k hk).1; have := heap_lt (unhide P); omega)
      exact ⟨bA, dA, bB, dB, set2_1 (set2_0 (((unhide BB).block _ (heap_lt (unhide P))).trans (unhide P))), OA3, OB2, below_put2 ((unhide BB).mono (Nat.le_of_lt (heap_lt (unhide P)))) (Nat.le_refl _) _ _, setc_other (Nat.ne_of_lt (unhide lp)) (setc_other (Nat.ne_of_lt (unhide lp)) (((unhide BB).block _ (heap_lt (unhide R))).trans (unhide R)))⟩
  case rest =>
    obtain ⟨b1, d1, b2, d2, hP, ho1, ho2, hbc, hR⟩ := hcut
    have lw := hide (show w.heap.size ≤ w1.heap.size from Nat.le_of_lt (unhide lp))
    have lW3 := hide (show w1.heap.size < W3.heap.size from heap_lt (unhide P))
    replace D := hide ((unhide D).part hbc (unhide lw))
    replace P := hide hP
    replace R := hide hR
    obtain ⟨q1, e1', hq1⟩ : ∃ g c, (b1 = some ⟨g, 0, none⟩ ∧ d1 = c) ∧ W3.heap.size ≤ g := by
      obtain ⟨g, c, e, h, _⟩ := own_at ho1 hn0
      cases e; exact ⟨g, _, ⟨rfl, rfl⟩, h⟩
    obtain ⟨q2, e2', hq2⟩ : ∃ g c, (b2 = some ⟨g, 0, none⟩ ∧ d2 = c) ∧ W3.heap.size ≤ g := by
      obtain ⟨g, c, e, h, _⟩ := own_at ho2 hm0
      cases e; exact ⟨g, _, ⟨rfl, rfl⟩, h⟩
    obtain ⟨⟨rfl, rfl⟩, hq1⟩ := hq1
    obtain ⟨⟨rfl, rfl⟩, hq2⟩ := hq2
    have hmd : m ≤ d2 := own_cap ho2
    have hnd : n ≤ d1 := own_cap ho1
    have lq1 : w.heap.size ≤ q1 := by have := unhide lW3; have := unhide lw; omega
    have lq2 : w.heap.size ≤ q2 := by have := unhide lW3; have := unhide lw; omega
    have O1 := hide ho1
    have O2 := hide ho2
    clear hP ho1 ho2 hbc hR O hx1 hy1 hxl hyl
    have lg := hide (show g < W3.heap.size from Nat.lt_of_lt_of_le (unhide D).lt (Nat.le_trans (unhide lw) (Nat.le_of_lt (unhide lW3))))
    go_wp2_with fail
    refine (draw_any (unhide D) hl 16 (by omega) (by omega)).mono ?_
    rintro e w5 ⟨x, hx, rfl, dd, gg⟩
    replace R := hide ((unhide D).heap gg (Nat.le_refl _) (unhide R))
    replace P := hide ((unhide D).heap gg (unhide lw) (unhide P))
    replace O1 := hide (own_grown (unhide O1) gg (unhide lg))
    replace O2 := hide (own_grown (unhide O2) gg (unhide lg))
    replace D := hide dd
    clear dd gg
    have FIN : Hid (∀ (u : World) (v1 v2 : Value), DS w u g B a len cap → u.heap[w.heap.size]? = some (.cells #[.slice none 0 0, .slice none 0 0] 33 (0, 0)) → (∀ y1 y2, AnyP v1 v2 ((u.setCell ⟨w.heap.size, 0, none⟩ y1).setCell ⟨w.heap.size, 1, none⟩ y2)) → AnyP v1 v2 ((u.setCell ⟨w.heap.size, 0, none⟩ v1).setCell ⟨w.heap.size, 1, none⟩ v2) ∧ DS w ((u.setCell ⟨w.heap.size, 0, none⟩ v1).setCell ⟨w.heap.size, 1, none⟩ v2) g B a len cap) := fun u v1 v2 h1 _ h3 => ⟨h3 _ _, (h1.put 0 _ (Nat.le_refl _)).put 1 _ (Nat.le_refl _)⟩
    have h16 : x = 0 ∨ x = 1 ∨ x = 2 ∨ x = 3 ∨ 4 ≤ x := by omega
    rcases h16 with rfl | rfl | rfl | rfl | h4
    · obtain ⟨p0, p1⟩ := row2 (unhide P)
      have E1 := hide (draw_any (unhide D).drew hl n hn0 (by omega))
      go_upto_region 5 with fail
      go_region_law (first | (refine step_call rfl 40 _ (by go_simp) (unhide E1) ?_; clear E1; rintro r8 w8 ⟨yy, hyy, rfl, d8, g8⟩; refine ⟨_, rfl, ?_⟩; have G8 := hide (own_grown (own_drew (unhide O2)) g8 (unhide lg)); have H8 := hide (own_grown (own_drew (unhide O1)) g8 (unhide lg)); have P8 := hide ((unhide D).drew.heap g8 (unhide lw) (row_drew (unhide P))); have R8 := hide ((unhide D).drew.heap g8 (Nat.le_refl _) (row_drew (unhide R))); have D8 := hide d8; have E2 := hide (draw_any d8 hl 7 (by omega) (by omega)); clear d8 g8; obtain ⟨y0, y1⟩ := row2 (unhide P8); have by1 : (yy : Int) < (n : Int) := (by omega)) | (refine step_call rfl 40 _ (by go_simp) (unhide E2) ?_; clear E2; rintro r6 w6 ⟨x, hxx, rfl, d6, g6⟩; refine ⟨_, rfl, ?_⟩; have G6 := hide (own_grown (unhide G8) g6 (unhide lg)); have H6 := hide (own_grown (unhide H8) g6 (unhide lg)); have P6 := hide ((unhide D8).heap g6 (unhide lw) (unhide P8)); have R6 := hide ((unhide D8).heap g6 (Nat.le_refl _) (unhide R8)); have D6 := hide d6; clear d6 g6; obtain ⟨y2, y3⟩ := row2 (unhide P6); have fz0 := (unhide H6).frozenAt yy; obtain ⟨s', o', e9, h8⟩ := own_ix (unhide H6) (unhide hix) yy hyy; cases e9; have h8' : w6.cell? ⟨q1, yy, none⟩ = some (.int .i64 (vf yy)) := (by simpa using h8); clear h8))
      all_goals
        clear y0 y1 y2 y3 fz0 h8' p0 p1
        obtain ⟨U, hU⟩ : ∃ U, U = w6.setCell ⟨q1, yy, none⟩ (.int .i64 (x : Int)) := ⟨_, rfl⟩
        have nq1 := hide (show w1.heap.size ≠ q1 by have := unhide lW3; omega)
        have nq2 := hide (show w.heap.size ≠ q1 by have := unhide lW3; have := unhide lw; omega)
        have P7 := hide (show U.heap[w1.heap.size]? = some (.cells #[.slice (some ⟨q1, 0, none⟩) n d1, .slice (some ⟨q2, 0, none⟩) m d2] 33 (0, 0)) by rw [hU]; exact setc_other (unhide nq1) (unhide P6))
        have R7 := hide (show U.heap[w.heap.size]? = some (.cells #[.slice none 0 0, .slice none 0 0] 33 (0, 0)) by rw [hU]; exact setc_other (unhide nq2) (unhide R6))
        have D7 := hide (show DS w U g B a len cap by rw [hU]; exact (unhide D6).put _ _ (by have := unhide lW3; have := unhide lw; omega))
        have I7 := hide (show ∀ y1 y2 : Value, AnyI ((U.setCell ⟨w.heap.size, 0, none⟩ y1).setCell ⟨w.heap.size, 1, none⟩ y2) (some ⟨q1, 0, none⟩) n from fun y1 y2 => by
          rw [hU]
          exact anyI_far (anyI_put (anyI_own (unhide H6) (unhide hix)) _ _) (by have := unhide lW3; have := unhide lw; omega))
        have J7 := hide (show ∀ y1 y2 : Value, AnyPt ((U.setCell ⟨w.heap.size, 0, none⟩ y1).setCell ⟨w.heap.size, 1, none⟩ y2) (some ⟨q2, 0, none⟩) m from fun y1 y2 => by
          rw [hU]
          exact anyPt_far (anyPt_put (anyP_own (unhide G6) (unhide hpx)) _ _) (by have := unhide lW3; have := unhide lw; omega))
        rw [← hU]
        clear hU
        obtain ⟨p0, p1⟩ := row2 (unhide P7)
        obtain ⟨r0, r1⟩ := row2 (unhide R7)
        obtain ⟨r2, r3⟩ := free2 (unhide R7)
        go_wp2_with fail
        refine bodyPost_ret (v := .agg #[.slice (some ⟨q1, 0, none⟩) n d1, .slice (some ⟨q2, 0, none⟩) m d2]) (by simp [results, Tryz.results128, go_sem, r0, r1]) rfl ?_
        exact ⟨_, _, rfl, ⟨⟨_, _, _, _, _, _, rfl, rfl, hn24, hm24, hmd, unhide I7 _ _, unhide J7 _ _⟩, caps2 hnd hmd lq1 lq2⟩, ((unhide D7).put 0 _ (Nat.le_refl _)).put 1 _ (Nat.le_refl _)⟩
    · by_cases hd1 : d2 = 1
      · obtain rfl : d2 = 1 := hd1
        obtain rfl : m = 1 := by omega
        obtain ⟨p0, p1⟩ := row2 (unhide P)
        obtain ⟨p2, p3⟩ := free2 (unhide P)
        go_upto_region 12 with fail
        clear p0 p1 p2 p3
        obtain ⟨U, hU⟩ : ∃ U, U = w5.setCell ⟨w1.heap.size, 1, none⟩ (.slice (some ⟨q2, 0, none⟩) 0 0) := ⟨_, rfl⟩
        replace P := hide (show U.heap[w1.heap.size]? = some (.cells #[.slice (some ⟨q1, 0, none⟩) n d1, .slice (some ⟨q2, 0, none⟩) 0 0] 33 (0, 0)) by rw [hU]; exact set2_1 (unhide P))
        replace R := hide (show U.heap[w.heap.size]? = some (.cells #[.slice none 0 0, .slice none 0 0] 33 (0, 0)) by rw [hU]; exact setc_other (Nat.ne_of_lt (unhide lp)) (unhide R))
        replace D := hide (show DS w U g B a len cap by rw [hU]; exact (unhide D).put _ _ (unhide lw))
        replace O1 := hide (show U.ownsRow W3.heap.size 3 1 (.slice (some ⟨q1, 0, none⟩) n d1) n xs by rw [hU]; exact own_setc_ne (unhide O1) (fun k hk e => by have := ((unhide O1).lt k hk).1; have := unhide lW3; omega))
        replace O2 := hide (show U.ownsRow W3.heap.size 37 2 (.slice (some ⟨q2, 0, none⟩) 1 1) 1 ys by rw [hU]; exact own_setc_ne (unhide O2) (fun k hk e => by have := ((unhide O2).lt k hk).1; have := unhide lW3; omega))
        first | rw [← hU] | (rw [show some (⟨q2, 0 + 1 * 2, none⟩ : Addr) = some ⟨q2, 2, none⟩ from rfl, ← hU])
        clear hU
        obtain ⟨p0, p1⟩ := row2 (unhide P)
        obtain ⟨r0, r1⟩ := row2 (unhide R)
        obtain ⟨r2, r3⟩ := free2 (unhide R)
        go_wp2_with fail
        refine bodyPost_ret (v := .agg #[.slice (some ⟨q1, 0, none⟩) n d1, .slice (some ⟨q2, 0, none⟩) 0 0]) (by simp [results, Tryz.results128, go_sem, r0, r1]) rfl ?_
        have kk1 := own_put (unhide O1) (q := w.heap.size) (by have := unhide lw; have := unhide lW3; omega) (.slice (some ⟨q1, 0, none⟩) n d1) (.slice (some ⟨q2, 0, none⟩) 0 0)
        have kk2 := own_put (unhide O2) (q := w.heap.size) (by have := unhide lw; have := unhide lW3; omega) (.slice (some ⟨q1, 0, none⟩) n d1) (.slice (some ⟨q2, 0, none⟩) 0 0)
        exact ⟨_, _, rfl, ⟨⟨_, _, _, _, 0, 0, rfl, rfl, hn24, by omega, by omega, anyI_own kk1 (unhide hix), fun i hi => absurd hi (by omega)⟩, caps2 hnd (Nat.le_refl 0) lq1 lq2⟩, ((unhide D).put 0 _ (Nat.le_refl _)).put 1 _ (Nat.le_refl _)⟩
      · have b1 : (1 : Int) ≤ (m : Int) := by omega
        have b2 : (m : Int) ≤ (d2 : Int) := by omega
        obtain ⟨p0, p1⟩ := row2 (unhide P)
        obtain ⟨p2, p3⟩ := free2 (unhide P)
        go_upto_region 12 with fail
        clear p0 p1 p2 p3
        obtain ⟨U, hU⟩ : ∃ U, U = w5.setCell ⟨w1.heap.size, 1, none⟩ (.slice (some ⟨q2, 2, none⟩) (m - 1) (d2 - 1)) := ⟨_, rfl⟩
        replace P := hide (show U.heap[w1.heap.size]? = some (.cells #[.slice (some ⟨q1, 0, none⟩) n d1, .slice (some ⟨q2, 2, none⟩) (m - 1) (d2 - 1)] 33 (0, 0)) by rw [hU]; exact set2_1 (unhide P))
        replace R := hide (show U.heap[w.heap.size]? = some (.cells #[.slice none 0 0, .slice none 0 0] 33 (0, 0)) by rw [hU]; exact setc_other (Nat.ne_of_lt (unhide lp)) (unhide R))
        replace D := hide (show DS w U g B a len cap by rw [hU]; exact (unhide D).put _ _ (unhide lw))
        replace O1 := hide (show U.ownsRow W3.heap.size 3 1 (.slice (some ⟨q1, 0, none⟩) n d1) n xs by rw [hU]; exact own_setc_ne (unhide O1) (fun k hk e => by have := ((unhide O1).lt k hk).1; have := unhide lW3; omega))
        replace O2 := hide (show U.ownsRow W3.heap.size 37 2 (.slice (some ⟨q2, 0, none⟩) m d2) m ys by rw [hU]; exact own_setc_ne (unhide O2) (fun k hk e => by have := ((unhide O2).lt k hk).1; have := unhide lW3; omega))
        first | rw [← hU] | (rw [show some (⟨q2, 0 + 1 * 2, none⟩ : Addr) = some ⟨q2, 2, none⟩ from rfl, ← hU])
        clear hU
        obtain ⟨p0, p1⟩ := row2 (unhide P)
        obtain ⟨r0, r1⟩ := row2 (unhide R)
        obtain ⟨r2, r3⟩ := free2 (unhide R)
        go_wp2_with fail
        refine bodyPost_ret (v := .agg #[.slice (some ⟨q1, 0, none⟩) n d1, .slice (some ⟨q2, 2, none⟩) (m - 1) (d2 - 1)]) (by simp [results, Tryz.results128, go_sem, r0, r1]) rfl ?_
        have kk1 := own_put (unhide O1) (q := w.heap.size) (by have := unhide lw; have := unhide lW3; omega) (.slice (some ⟨q1, 0, none⟩) n d1) (.slice (some ⟨q2, 2, none⟩) (m - 1) (d2 - 1))
        have kk2 := own_put (unhide O2) (q := w.heap.size) (by have := unhide lw; have := unhide lW3; omega) (.slice (some ⟨q1, 0, none⟩) n d1) (.slice (some ⟨q2, 2, none⟩) (m - 1) (d2 - 1))
        refine ⟨_, _, rfl, ⟨⟨_, _, _, _, _, _, rfl, rfl, hn24, by omega, by omega, anyI_own kk1 (unhide hix), fun i hi => ?_⟩, caps2 hnd (by omega) lq1 lq2⟩, ((unhide D).put 0 _ (Nat.le_refl _)).put 1 _ (Nat.le_refl _)⟩
        obtain ⟨s', o', e9, h8, h9⟩ := own_pxa kk2 (unhide hpx) (i + 1) (by omega)
        cases e9
        exact ⟨_, q2, 2, rfl, by rw [show 2 + i * 2 = 0 + (i + 1) * 2 by omega]; exact h8, by rw [show 2 + i * 2 + 1 = 0 + (i + 1) * 2 + 1 by omega]; exact h9⟩
    · obtain ⟨p0, p1⟩ := row2 (unhide P)
      have E := hide (l04AnyPoint_any g B a len cap _ hl (unhide D).drew.again)
      have bm : (0 : Int) < (m : Int) := by omega
      go_upto_region 9 with fail
      go_region_law (refine step_call rfl 158 _ (by go_simp) (unhide E) ?_; rintro r6 w6 ⟨x, y, rfl, d6⟩; refine ⟨_, rfl, ?_⟩; have G6 := hide (own_grown (own_drew (unhide O2)) d6.gb (unhide lg)); have H6 := hide (own_grown (own_drew (unhide O1)) d6.gb (unhide lg)); have P6 := hide ((unhide D).drew.heap d6.gb (unhide lw) (row_drew (unhide P))); have R6 := hide ((unhide D).drew.heap d6.gb (Nat.le_refl _) (row_drew (unhide R))); have D6 := hide ((unhide D).drew.next d6.cur d6.gb); clear d6; obtain ⟨y0, y1⟩ := row2 (unhide P6); have fz0 := (unhide G6).frozenAt 0; have fz1 := (unhide G6).frozenAt 1; obtain ⟨s', o', e9, h8, h9⟩ := own_pxa (unhide G6) (unhide hpx) 0 hm0; cases e9; have h8' : w6.cell? ⟨q2, 0, none⟩ = some (.int .i64 (pf 0).1) := (by simpa using h8); have h9' : w6.cell? ⟨q2, 1, none⟩ = some (.int .i64 (pf 0).2) := (by simpa using h9); clear h8 h9)
      all_goals
        clear y0 y1 fz0 fz1 h8' h9' p0 p1
        obtain ⟨U, hU⟩ : ∃ U, U = (w6.setCell ⟨q2, 0, none⟩ (.int .i64 x)).setCell ⟨q2, 1, none⟩ (.int .i64 y) := ⟨_, rfl⟩
        have nq1 := hide (show w1.heap.size ≠ q2 by have := unhide lW3; omega)
        have nq2 := hide (show w.heap.size ≠ q2 by have := unhide lW3; have := unhide lw; omega)
        have P7 := hide (show U.heap[w1.heap.size]? = some (.cells #[.slice (some ⟨q1, 0, none⟩) n d1, .slice (some ⟨q2, 0, none⟩) m d2] 33 (0, 0)) by rw [hU]; exact setc_other (unhide nq1) (setc_other (unhide nq1) (unhide P6)))
        have R7 := hide (show U.heap[w.heap.size]? = some (.cells #[.slice none 0 0, .slice none 0 0] 33 (0, 0)) by rw [hU]; exact setc_other (unhide nq2) (setc_other (unhide nq2) (unhide R6)))
        have D7 := hide (show DS w U g B a len cap by rw [hU]; exact ((unhide D6).put _ _ (by have := unhide lW3; have := unhide lw; omega)).put _ _ (by have := unhide lW3; have := unhide lw; omega))
        have I7 := hide (show ∀ y1 y2 : Value, AnyI ((U.setCell ⟨w.heap.size, 0, none⟩ y1).setCell ⟨w.heap.size, 1, none⟩ y2) (some ⟨q1, 0, none⟩) n from fun y1 y2 => by
          rw [hU]
          exact anyI_far (anyI_put (anyI_put (anyI_own (unhide H6) (unhide hix)) _ _) _ _) (by have := unhide lW3; have := unhide lw; omega))
        have J7 := hide (show ∀ y1 y2 : Value, AnyPt ((U.setCell ⟨w.heap.size, 0, none⟩ y1).setCell ⟨w.heap.size, 1, none⟩ y2) (some ⟨q2, 0, none⟩) m from fun y1 y2 => by
          rw [hU]
          exact anyPt_far (anyPt_put (anyPt_put (anyP_own (unhide G6) (unhide hpx)) _ _) _ _) (by have := unhide lW3; have := unhide lw; omega))
        rw [← hU]
        clear hU
        obtain ⟨p0, p1⟩ := row2 (unhide P7)
        obtain ⟨r0, r1⟩ := row2 (unhide R7)
        obtain ⟨r2, r3⟩ := free2 (unhide R7)
        go_wp2_with fail
        refine bodyPost_ret (v := .agg #[.slice (some ⟨q1, 0, none⟩) n d1, .slice (some ⟨q2, 0, none⟩) m d2]) (by simp [results, Tryz.results128, go_sem, r0, r1]) rfl ?_
        exact ⟨_, _, rfl, ⟨⟨_, _, _, _, _, _, rfl, rfl, hn24, hm24, hmd, unhide I7 _ _, unhide J7 _ _⟩, caps2 hnd hmd lq1 lq2⟩, ((unhide D7).put 0 _ (Nat.le_refl _)).put 1 _ (Nat.le_refl _)⟩
    · obtain ⟨p0, p1⟩ := row2 (unhide P)
      obtain ⟨p2, p3⟩ := free2 (unhide P)
      go_upto_region 12 with fail
      clear p0 p1 p2 p3
      obtain ⟨U, hU⟩ : ∃ U, U = (w5.setCell ⟨w1.heap.size, 0, none⟩ (.slice none 0 0)).setCell ⟨w1.heap.size, 1, none⟩ (.slice none 0 0) := ⟨_, rfl⟩
      replace P := hide (show U.heap[w1.heap.size]? = some (.cells #[.slice none 0 0, .slice none 0 0] 33 (0, 0)) by rw [hU]; exact set2_1 (set2_0 (unhide P)))
      replace R := hide (show U.heap[w.heap.size]? = some (.cells #[.slice none 0 0, .slice none 0 0] 33 (0, 0)) by rw [hU]; exact setc_other (Nat.ne_of_lt (unhide lp)) (setc_other (Nat.ne_of_lt (unhide lp)) (unhide R)))
      replace D := hide (show DS w U g B a len cap by rw [hU]; exact ((unhide D).put _ _ (unhide lw)).put _ _ (unhide lw))
      rw [← hU]
      clear hU
      obtain ⟨p0, p1⟩ := row2 (unhide P)
      obtain ⟨r0, r1⟩ := row2 (unhide R)
      obtain ⟨r2, r3⟩ := free2 (unhide R)
      go_wp2_with fail
      refine bodyPost_ret (v := .agg #[.slice none 0 0, .slice none 0 0]) (by simp [results, Tryz.results128, go_sem, r0, r1]) rfl ?_
      exact ⟨_, _, rfl, ⟨⟨none, 0, 0, none, 0, 0, rfl, rfl, by omega, by omega, by omega, fun i hi => absurd hi (by omega), fun i hi => absurd hi (by omega)⟩, caps0 _⟩, ((unhide D).put 0 _ (Nat.le_refl _)).put 1 _ (Nat.le_refl _)⟩
    · have e0 : ((x : Int) == 0) = false := by simp; omega
      have e1 : ((x : Int) == 1) = false := by simp; omega
      have e2 : ((x : Int) == 2) = false := by simp; omega
      have e3 : ((x : Int) == 3) = false := by simp; omega
      obtain ⟨p0, p1⟩ := row2 (unhide P)
      obtain ⟨r0, r1⟩ := row2 (unhide R)
      obtain ⟨r2, r3⟩ := free2 (unhide R)
      go_wp2_with fail
      refine bodyPost_ret (v := .agg #[.slice (some ⟨q1, 0, none⟩) n d1, .slice (some ⟨q2, 0, none⟩) m d2]) (by simp [results, Tryz.results128, go_sem, r0, r1]) rfl ?_
      have k1 := own_put (unhide O1) (q := w.heap.size) (by have := unhide lw; have := unhide lW3; omega) (.slice (some ⟨q1, 0, none⟩) n d1) (.slice (some ⟨q2, 0, none⟩) m d2)
      have k2 := own_put (unhide O2) (q := w.heap.size) (by have := unhide lw; have := unhide lW3; omega) (.slice (some ⟨q1, 0, none⟩) n d1) (.slice (some ⟨q2, 0, none⟩) m d2)
      exact ⟨_, _, rfl, ⟨⟨_, _, _, _, _, _, rfl, rfl, hn24, hm24, hmd, anyI_own k1 (unhide hix), anyP_own k2 (unhide hpx)⟩, caps2 hnd hmd lq1 lq2⟩, ((unhide D).put 0 _ (Nat.le_refl _)).put 1 _ (Nat.le_refl _)⟩
end Go.Proofs.YtmafopckplpajaaGreatDoor

/-
  Lists of numbers held against each other.
-/
namespace Go.Proofs.YtmafopckplpajaaGreatDoor
open Go.RowKit
set_option linter.unusedVariables false

set_option maxHeartbeats 4000000 in
set_option maxRecDepth 100000 in
theorem sameInts_any (f : Nat → Int) (ao bo : Option Addr) (n cap cap' : Nat) (hn : n ≤ 1048576) (w : World) (HA : ∀ i, i < n → IntAt w ao i (f i)) (HB : ∀ i, i < n → IntAt w bo i (f i)) :
    Calls Tryz.prog 61 #[.slice ao n cap, .slice bo n cap'] w fun r w' => r = .returned (.bool true) ∧ Below w.heap.size w w' := by
  replace HA := hide HA
  replace HB := hide HB
  go_enter Tryz.func61, Tryz.ntmps61
  go_wp2_with fail
  go_loopw [5] (fun i u => ∃ k : Nat, k ≤ n ∧ i = .int .i64 k ∧ Below w.heap.size w u) (fun i _ => n - (intOf i).toNat)
  case atStart => exact ⟨0, Nat.zero_le _, rfl, Below.refl _ _⟩
  case round =>
    obtain ⟨k, hk, rfl, hb⟩ := hrel
    by_cases hlt : k < n
    · have HP := (unhide HA k hlt).next hb
      have HQ := (unhide HB k hlt).next hb
      generalize f k = z at HP HQ
      obtain ⟨s, o, rfl, g0⟩ := HP
      obtain ⟨s', o', rfl, h0⟩ := HQ
      replace hb := hide hb
      go_wp2_with fail
      obtain ⟨I, F, hI, F1, F2⟩ := kept_worlds wr
      have a0 : ∀ i, (F i).cell? ⟨s, o + k, none⟩ = some (.int .i64 z) := fun i => kc (F2 i) g0
      have b0 : ∀ i, (F i).cell? ⟨s', o' + k, none⟩ = some (.int .i64 z) := fun i => kc (F2 i) h0
      clear g0 h0
      replace F1 := hide F1
      replace F2 := hide F2
      refine wp_region_quiet_in (unhide F1) (by kernel_rfl) (by kernel_rfl) ?_
      repeat (go_big_quiet_step (fail))
      refine wpQuiet_nil ?_
      rintro _ ⟨i, rfl⟩
      have hF := unhide F2 i
      clear F1 a0 b0
      go_wp2_with fail
      go_roundw
      case rel => exact ⟨k + 1, by omega, by go_num, below_two (unhide hb) hF⟩
      case measure => simp [intOf]; omega
    · have hke : k = n := by omega
      subst hke
      go_wp2_with fail
      go_ret
      exact ⟨rfl, hb⟩
end Go.Proofs.YtmafopckplpajaaGreatDoor

/-
  Whether a number is in a list; lists of Ids as FnTrees reads them; a node's alloc. (By treeslaw.py.)
-/
namespace Go.Proofs.YtmafopckplpajaaGreatDoor
open Go.RowKit
set_option linter.unusedVariables false

theorem node_small {x : Nd} (h : nodeOkB x = true) : x.Small := by
  unfold nodeOkB at h
  simp only [Bool.and_eq_true] at h
  obtain ⟨_, _, _, _, h5, h6, _, h8, _⟩ := h
  have r1 := rightB_iff.1 h5
  have r2 := rightB_iff.1 h6
  have r3 := dashOk_iff.1 h8
  have := r1.nv24; have := r1.np24; have := r2.nv24; have := r2.np24; have := r3.2.1
  exact ⟨by omega, by omega, by omega, by omega, by omega⟩
theorem step_store_node {ops : Array Oper} {oo : Oper} {a : Act} {K : Act → World → Prop} {Q : Exit → Act → World → Prop} {E : Prop} {V : World} {z : Nat} {Z : Array Value} {x : Nd} {s : Na} (hg : oo.guard = none) (y y' : Operand) (hop : oo.op = .store 41 y y')
    (hx : a.eval y = .pointer (some ⟨z, 0, none⟩)) (hy : a.eval y' = .agg (ndC x s)) (hZ : V.heap[z]? = some (.cells Z 41 (0, 0))) (hs : Z.size = 31)
    (hK : K (a.put oo.dst undef) (V.setRow z (ndC x s))) : if Region.wanted oo (yielded ops a.tmps) = true then Oper.wp Tryz.prog oo a V K Q else E := by
  have hw : Region.wanted oo (yielded ops a.tmps) = true := by simp [Region.wanted, hg]
  rw [if_pos hw]
  exact wp_store_row 41 y y' hop z (ndC x s) hx hy 41 Z hZ (ndC_info x s) (hs.trans (ndC_size x s).symm) (ndC_one x s) hK
theorem setRow_row {u : World} {b : Nat} {C Z : Array Value} {t : TypeId} (h : u.heap[b]? = some (.cells Z t (0, 0))) : (u.setRow b C).heap[b]? = some (.cells C t (0, 0)) := by
  simp [World.setRow, Array.getElem?_modify, h]
theorem nd_heads {w : World} {b : Nat} {x : Nd} {s : Na} {t : TypeId} (h : w.heap[b]? = some (.cells (ndC x s) t (0, 0))) : w.cell? ⟨b, 0, none⟩ = some (.int .i64 x.id) ∧ w.cell? ⟨b, 1, none⟩ = some (.int .i64 x.par) :=
  ⟨by rw [cell_of_row w b 0 _ t (0, 0) h]; rfl, by rw [cell_of_row w b 1 _ t (0, 0) h]; rfl⟩
theorem nd_rng {w : World} {b : Nat} {C : Array Value} {t : TypeId} (h : w.heap[b]? = some (.cells C t (0, 0))) : w.rangeAt b 0 C.toList := fun j v hv => by
  rw [Array.getElem?_toList] at hv
  simp [World.cell?, h, hv]
end Go.Proofs.YtmafopckplpajaaGreatDoor

/-
  Drawn nodes of any kind: l15AnyNode. (By drawanode.py.)
-/
namespace Go.Proofs.YtmafopckplpajaaGreatDoor
open Go.RowKit
set_option linter.unusedVariables false

theorem intAt_kept {w u : World} {a : Option Addr} {i n c : Nat} {z : Int} {row : Option Nat} (h : IntAt w a i z) (hg : w.grownBy u row) (hr : ∀ k, (Value.slice a n c).ownBlock = some k → row ≠ some k) : IntAt u a i z := by
  obtain ⟨s, o, rfl, hc⟩ := h
  have e := hg.block s (block_lt_of_cell hc) (fun e => hr s rfl e.symm)
  exact ⟨s, o, rfl, by rw [← hc]; simp [World.cell?, e]⟩
theorem ptArg_kept {w u : World} {a : Option Addr} {i n c : Nat} {z : Int × Int} {row : Option Nat} (h : PtArg w a i z) (hg : w.grownBy u row) (hr : ∀ k, (Value.slice a n c).ownBlock = some k → row ≠ some k) : PtArg u a i z := by
  obtain ⟨s, o, rfl, h1, h2⟩ := h
  have e := hg.block s (block_lt_of_cell h1) (fun e => hr s rfl e.symm)
  exact ⟨s, o, rfl, by rw [← h1]; simp [World.cell?, e], by rw [← h2]; simp [World.cell?, e]⟩
/-- A node's lists stay where its blocks are not written. -/
theorem NdIn.kept {w u : World} {x : Nd} {s : Na} {row : Option Nat} (h : NdIn w x s) (hg : w.grownBy u row) (hr : ∀ l, l < 5 → 0 < lnl x l → ∀ k, (lvl x s l).ownBlock = some k → row ≠ some k) : NdIn u x s :=
  ⟨fun i hi => intAt_kept (h.v i hi) hg (hr 0 (by decide) (Nat.zero_lt_of_lt hi)), fun i hi => ptArg_kept (h.p i hi) hg (hr 1 (by decide) (Nat.zero_lt_of_lt hi)), fun i hi => intAt_kept (h.d i hi) hg (hr 2 (by decide) (Nat.zero_lt_of_lt hi)), fun i hi => intAt_kept (h.cv i hi) hg (hr 3 (by decide) (Nat.zero_lt_of_lt hi)), fun i hi => ptArg_kept (h.cp i hi) hg (hr 4 (by decide) (Nat.zero_lt_of_lt hi))⟩
/-- A list with something in it lies in memory. -/
theorem NdIn.lt {w : World} {x : Nd} {s : Na} (h : NdIn w x s) {l : Nat} (hl : l < 5) (hn : 0 < lnl x l) : ∀ k, (lvl x s l).ownBlock = some k → k < w.heap.size := by
  intro k e
  rcases (by omega : l = 0 ∨ l = 1 ∨ l = 2 ∨ l = 3 ∨ l = 4) with rfl | rfl | rfl | rfl | rfl
  · obtain ⟨b, o, e1, hc⟩ := h.v 0 hn; simp only [lvl, e1, Value.ownBlock] at e; cases e; exact block_lt_of_cell hc
  · obtain ⟨b, o, e1, hc, _⟩ := h.p 0 hn; simp only [lvl, e1, Value.ownBlock] at e; cases e; exact block_lt_of_cell hc
  · obtain ⟨b, o, e1, hc⟩ := h.d 0 hn; simp only [lvl, e1, Value.ownBlock] at e; cases e; exact block_lt_of_cell hc
  · obtain ⟨b, o, e1, hc⟩ := h.cv 0 hn; simp only [lvl, e1, Value.ownBlock] at e; cases e; exact block_lt_of_cell hc
  · obtain ⟨b, o, e1, hc, _⟩ := h.cp 0 hn; simp only [lvl, e1, Value.ownBlock] at e; cases e; exact block_lt_of_cell hc
/-- A node of any kind: its lists can be read, and lie behind base. -/
structure NdF (w : World) (base : Nat) (x : Nd) (s : Na) : Prop where
  inn : NdIn w x s
  caps : Caps x s
  small : x.Small
  wid : (Lit.int .i64 x.id).wf = true
  wpar : (Lit.int .i64 x.par).wf = true
  far : ∀ l, l < 5 → ∀ k, (lvl x s l).ownBlock = some k → base ≤ k
theorem NdF.next {w u : World} {base : Nat} {x : Nd} {s : Na} (h : NdF w base x s) (hb : Below w.heap.size w u) : NdF u base x s := ⟨h.inn.next hb, h.caps, h.small, h.wid, h.wpar, h.far⟩
theorem NdF.low {w : World} {base base' : Nat} {x : Nd} {s : Na} (h : NdF w base x s) (hb : base' ≤ base) : NdF w base' x s := ⟨h.inn, h.caps, h.small, h.wid, h.wpar, fun l hl k e => Nat.le_trans hb (h.far l hl k e)⟩
theorem NdF.kept {w u : World} {base k : Nat} {x : Nd} {s : Na} (h : NdF w base x s) (hg : w.grownBy u (some k)) (hk : k < base) : NdF u base x s := ⟨h.inn.kept hg (fun l hl _ q e e2 => by cases e2; have := h.far l hl _ e; omega), h.caps, h.small, h.wid, h.wpar, h.far⟩
theorem NdG.ndF {w : World} {base : Nat} {x : Nd} {s : Na} (h : NdG w base x s) (hs : x.Small) (w1 : (Lit.int .i64 x.id).wf = true) (w2 : (Lit.int .i64 x.par).wf = true) : NdF w base x s := ⟨lists_in h.own, lists_caps h.own, hs, w1, w2, fun l hl k e => ((h.own l hl).lt k e).1⟩
theorem Caps.same {x x' : Nd} {s : Na} (h : Caps x s) (e1 : x'.nv = x.nv := by rfl) (e2 : x'.np = x.np := by rfl) (e3 : x'.nd = x.nd := by rfl) (e4 : x'.mv = x.mv := by rfl) (e5 : x'.mp = x.mp := by rfl) : Caps x' s := ⟨by rw [e1]; exact h.v, by rw [e2]; exact h.p, by rw [e3]; exact h.d, by rw [e4]; exact h.cv, by rw [e5]; exact h.cp⟩
theorem set_id (x : Nd) (s : Na) (z : Int) : (ndC x s).setIfInBounds 0 (.int .i64 z) = ndC { x with id := z } s := by simp only [ndC, List.setIfInBounds_toArray, List.set_cons_zero]
theorem set_par (x : Nd) (s : Na) (z : Int) : (ndC x s).setIfInBounds 1 (.int .i64 z) = ndC { x with par := z } s := by simp only [ndC, List.setIfInBounds_toArray, List.set_cons_zero, List.set_cons_succ]
theorem set_md (x : Nd) (s : Na) (z : Int) : (ndC x s).setIfInBounds 27 (.int .i64 z) = ndC { x with md := z } s := by simp only [ndC, List.setIfInBounds_toArray, List.set_cons_zero, List.set_cons_succ]
theorem set_fd (x : Nd) (s : Na) (z : Int) : (ndC x s).setIfInBounds 28 (.int .i64 z) = ndC { x with fd := z } s := by simp only [ndC, List.setIfInBounds_toArray, List.set_cons_zero, List.set_cons_succ]
/-- The drawing of a node of any kind: the variable x (block b3), the answer's (block b2). -/
structure NQ (w u : World) (g B : Nat) (a : Option Addr) (len cap b2 b3 : Nat) (x : Nd) (s : Na) : Prop where
  ds : DS w u g B a len cap
  r2 : ∃ C, u.heap[b2]? = some (.cells C 41 (0, 0)) ∧ C.size = 31
  r3 : u.heap[b3]? = some (.cells (ndC x s) 41 (0, 0))
  f : NdF u (b2 + 1) x s
  ne : ∀ l, l < 5 → ∀ k, (lvl x s l).ownBlock = some k → k ≠ b3
  lo : w.heap.size ≤ b2 ∧ b2 < b3
theorem NQ.draw {w u u' : World} {g B : Nat} {a : Option Addr} {len cap b2 b3 : Nat} {x : Nd} {s : Na} (h : NQ w u g B a len cap b2 b3 x s) (hc : Cur u' g a len cap) (hg : u.grownBy u' (some g)) : NQ w u' g B a len cap b2 b3 x s :=
  ⟨h.ds.next hc hg, let ⟨C, h1, h2⟩ := h.r2; ⟨C, h.ds.heap hg h.lo.1 h1, h2⟩, h.ds.heap hg (by have := h.lo; omega) h.r3, h.f.kept hg (by have := h.lo; have := h.ds.lt; omega), h.ne, h.lo⟩
theorem NQ.calls {w u u' : World} {g B : Nat} {a : Option Addr} {len cap b2 b3 : Nat} {x : Nd} {s : Na} (h : NQ w u g B a len cap b2 b3 x s) (hb : Below u.heap.size u u') : NQ w u' g B a len cap b2 b3 x s :=
  ⟨h.ds.calls hb, let ⟨C, h1, h2⟩ := h.r2; ⟨C, row_next hb h1, h2⟩, row_next hb h.r3, h.f.next hb, h.ne, h.lo⟩
theorem NQ.in3 {w u : World} {g B : Nat} {a : Option Addr} {len cap b2 b3 j : Nat} {x : Nd} {s : Na} {v : Value} (h : NQ w u g B a len cap b2 b3 x s) : NdIn (u.setCell ⟨b3, j, none⟩ v) x s := h.f.inn.kept (setc_grown u b3 j v) (fun l hl _ k e e2 => h.ne l hl k e (Option.some.inj e2).symm)
theorem NQ.put {w u : World} {g B : Nat} {a : Option Addr} {len cap b2 b3 j : Nat} {x : Nd} {s : Na} {v : Value} (h : NQ w u g B a len cap b2 b3 x s) {x' : Nd} {s' : Na} (he : (ndC x s).setIfInBounds j v = ndC x' s') (ho : NdF (u.setCell ⟨b3, j, none⟩ v) (b2 + 1) x' s') (hn : ∀ l, l < 5 → ∀ k, (lvl x' s' l).ownBlock = some k → k ≠ b3) : NQ w (u.setCell ⟨b3, j, none⟩ v) g B a len cap b2 b3 x' s' :=
  ⟨h.ds.put j v (by have := h.lo; omega), let ⟨C, h1, h2⟩ := h.r2; ⟨C, setc_other (by have := h.lo; omega) h1, h2⟩, by rw [← he]; exact setC h.r3, ho, hn, h.lo⟩
theorem sets_grown2 (g : Nat) : ∀ (l : List Value) (w : World) (o : Nat), w.grownBy (w.setCells g o l) (some g)
  | [], w, _ => World.grownBy.refl w _
  | v :: r, w, o => grown_trans (setc_grown w g o v) (sets_grown2 g r _ (o + 1))
theorem NQ.puts {w u : World} {g B : Nat} {a : Option Addr} {len cap b2 b3 o : Nat} {x : Nd} {s : Na} (l : List Value) (h : NQ w u g B a len cap b2 b3 x s) {x' : Nd} {s' : Na} (he : setMany (ndC x s) o l = ndC x' s') (ho : NdF (u.setCells b3 o l) (b2 + 1) x' s') (hn : ∀ l, l < 5 → ∀ k, (lvl x' s' l).ownBlock = some k → k ≠ b3) : NQ w (u.setCells b3 o l) g B a len cap b2 b3 x' s' :=
  ⟨h.ds.sets (by have := h.lo; omega) l, let ⟨C, h1, h2⟩ := h.r2; ⟨C, sets_other (by have := h.lo; omega) l h1, h2⟩, by rw [← he]; exact setsC l h.r3, ho, hn, h.lo⟩
def AnyNode (w : World) (e : Ending) (w' : World) : Prop := ∃ x s, e = .returned (.agg (ndC x s)) ∧ NdF w' w.heap.size x s
theorem AnyPath.lists {u : World} {v1 v2 : Value} {base : Nat} (h : AnyP v1 v2 u) (hc : CapP base v1 v2) : ∃ (a : Option Addr) (n c : Nat) (b : Option Addr) (m d : Nat) (vf : Nat → Int) (pf : Nat → Int × Int), v1 = .slice a n c ∧ v2 = .slice b m d ∧ n ≤ 24 ∧ m ≤ 24 ∧ (n ≤ c ∧ (a = none → c = 0)) ∧ (m ≤ d ∧ (b = none → d = 0)) ∧ (∀ q, a = some q → base ≤ q.block) ∧ (∀ q, b = some q → base ≤ q.block) ∧ (∀ i, i < n → IntAt u a i (vf i)) ∧ ∀ i, i < m → PtArg u b i (pf i) := by
  obtain ⟨a, n, c, b, m, d, rfl, rfl, h1, h2, _, h3, h4⟩ := h
  obtain ⟨a', n', c', b', m', d', e1, e2, h5, h6, h7, h8⟩ := hc
  cases e1; cases e2
  refine ⟨a, n, c, b, m, d, fun i => if hi : i < n then Classical.choose (h3 i hi) else 0, fun i => if hi : i < m then Classical.choose (h4 i hi) else (0, 0), rfl, rfl, h1, h2, h5, h6, h7, h8, fun i hi => ?_, fun i hi => ?_⟩
  · dsimp only; rw [dif_pos hi]; exact Classical.choose_spec (h3 i hi)
  · dsimp only; rw [dif_pos hi]; exact Classical.choose_spec (h4 i hi)

set_option maxHeartbeats 16000000 in
set_option maxRecDepth 100000 in
theorem l15AnyNode_any (g B : Nat) (a : Option Addr) (len cap : Nat) (w : World) (hl : len ≤ 1048576) (h : DS w w g B a len cap) :
    Calls Tryz.prog 70 #[.pointer (some ⟨g, 0, none⟩)] w fun e w' => AnyNode w e w' ∧ DS w w' g B a len cap := by
  go_enter Tryz.func70, Tryz.ntmps70
  go_upto_region 1 with fail
  have D := hide (h.alloc (.cells ndZ 41))
  have R2 := hide (new_row w (.cells ndZ 41))
  change Code.wp _ _ _ _ (w.alloc (.cells ndZ 41))
  generalize w.alloc (.cells ndZ 41) = W at D R2 ⊢
  obtain ⟨b2, hb2⟩ : ∃ b, Hid (b = w.heap.size) := ⟨_, rfl⟩
  have l2 : Hid (w.heap.size ≤ b2) := by unfold Hid; rw [unhide hb2]; exact Nat.le_refl _
  rw [← unhide hb2] at R2 ⊢
  clear h hb2
  go_wp2_with fail
  go_fit (draw_any (unhide D) hl 8 (by omega) (by omega))
  rintro e w1 ⟨k, hk, rfl, d, hg⟩
  replace R2 := hide ((unhide D).heap hg (unhide l2) (unhide R2))
  replace D := hide d
  clear d hg
  have hkw : IntKind.i64.wrap (1 + (k : Int)) = 1 + (k : Int) := IntWalk.i64_in _ (by omega)
  go_wp2_with fail
  go_fit (l15Node_any g B a len cap (1 + (k : Int)) 0 ⟨by omega, by omega⟩ ⟨by omega, by omega⟩ (by omega) _ hl (unhide D).again)
  rintro e w2 ⟨⟨x0, s0, rfl, hN, hok, hi1, hi2⟩, d⟩
  have w01 : (Lit.int .i64 x0.id).wf = true := WalkArith.wf_i64 (by omega)
  have w02 : (Lit.int .i64 x0.par).wf = true := WalkArith.wf_i64 (by omega)
  replace R2 := hide ((unhide D).heap d.gb (unhide l2) (unhide R2))
  replace D := hide ((unhide D).next d.cur d.gb)
  clear d hkw hi1 hi2
  have hsm := node_small hok
  go_wp2_with fail
  go_fit (specCopyNode_any x0 s0 hsm hN.caps _ hN.inn)
  rintro e w3 ⟨s, rfl, hG, hb⟩
  have F3 := (hG.ndF hsm w01 w02).low (show b2 + 1 ≤ w2.heap.size from heap_lt (unhide R2))
  have far3 : ∀ l, l < 5 → ∀ k, (lvl x0 s l).ownBlock = some k → k < w3.heap.size := fun l hl k e => ((hG.own l hl).lt k e).2
  replace R2 := hide (row_next hb (unhide R2))
  replace D := hide ((unhide D).calls hb)
  clear hb hG hN hok
  go_upto_region 2 with (refine store_new rfl _ _ rfl _ x0 s rfl rfl rfl ?_)
  have N := hide (show NQ w (w3.alloc (.cells (ndC x0 s) 41)) g B a len cap b2 w3.heap.size x0 s from ⟨(unhide D).alloc _, ⟨ndZ, old_row _ (unhide R2), rfl⟩, new_row _ _, F3.next (al1_below _ _), fun l hl k e => by have := far3 l hl k e; omega, unhide l2, heap_lt (unhide R2)⟩)
  clear D R2 F3 far3 hsm w01 w02 l2
  generalize w3.alloc (.cells (ndC x0 s) 41) = W2 at N ⊢
  generalize w3.heap.size = b3 at N ⊢
  generalize x0 = x at N ⊢
  go_wp2_with fail
  go_fit (draw_any (unhide N).ds hl 20 (by omega) (by omega))
  rintro r w4 ⟨t, ht, rfl, d, g2⟩
  replace N := hide ((unhide N).draw d.cur g2)
  clear d g2
  obtain rfl | rfl | rfl | rfl | rfl | rfl | rfl | rfl | hx8 : t = 0 ∨ t = 1 ∨ t = 2 ∨ t = 3 ∨ t = 4 ∨ t = 5 ∨ t = 6 ∨ t = 7 ∨ 8 ≤ t := by omega
  · skip
    go_wp2_with fail
    go_fit (pick4L (unhide N).ds hl 0 (-1) 99 100)
    rintro r w5 ⟨z, hz, rfl, d, g3⟩
    replace N := hide (((unhide N).calls (al1_below _ _)).draw d.cur g3)
    clear d g3
    have q1 := cellC (unhide N).r3 0 (by rw [ndC_size]; omega)
    have z1 := frozen_of_row w5 b3 0 _ _ (unhide N).r3
    go_upto_region 19 with fail
    clear q1 z1
    have N1 := hide (unhide N)
    replace N := hide (show NQ w (w5.setCell ⟨b3, 0, none⟩ (.int .i64 z)) g B a len cap b2 b3 { x with id := z } s from by
      have h := (unhide N1).f
      have q := unhide N1
      exact q.put (set_id _ _ z) ⟨⟨q.in3.v, q.in3.p, q.in3.d, q.in3.cv, q.in3.cp⟩, h.caps.same, ⟨h.small.nv, h.small.np, h.small.nd, h.small.mv, h.small.mp⟩, by show (Lit.int .i64 z).wf = true; rcases hz with rfl | rfl | rfl | rfl <;> decide, h.wpar, fun l hl k e => h.far l hl k (by rw [← e]; rcases (by omega : l = 0 ∨ l = 1 ∨ l = 2 ∨ l = 3 ∨ l = 4) with rfl | rfl | rfl | rfl | rfl <;> rfl)⟩ (fun l hl k e => q.ne l hl k (by rw [← e]; rcases (by omega : l = 0 ∨ l = 1 ∨ l = 2 ∨ l = 3 ∨ l = 4) with rfl | rfl | rfl | rfl | rfl <;> rfl)))
    clear N1
    generalize w5.setCell ⟨b3, 0, none⟩ (.int .i64 z) = WS at N ⊢
    obtain ⟨y, hy⟩ : ∃ y : Nd, Hid ({ x with id := z } = y) := ⟨_, rfl⟩
    rw [unhide hy] at N
    clear hy
    obtain ⟨C2, r2, z2⟩ := (unhide N).r2
    replace r2 := hide r2
    have hlo := hide (unhide N).lo
    go_wp2_with (first | with_reducible refine load_own rfl _ rfl b3 rfl y s 41 (unhide N).r3 ?_ | with_reducible refine wpList_store_row rfl 41 _ _ rfl b2 (ndC y s) rfl rfl 41 _ (unhide r2) (ndC_info y s) (z2.trans (ndC_size y s).symm) (ndC_one y s) ?_)
    have r2' := hide (setRow_heap _ _ _ (ndC y s) _ _ (unhide r2))
    refine bodyPost_ret (v := .agg (ndC y s)) (results_cell_row rfl _ _ b2 41 _ (0, 0) _ rfl (unhide r2') Tryz.underlying41 rfl (ndC_info y s)) rfl ?_
    exact ⟨⟨y, s, rfl, (((unhide N).f.kept (setRow_grown _ b2 _) (Nat.lt_succ_self b2)).low (by have := unhide hlo; omega))⟩, (unhide N).ds.setRow (unhide hlo).1⟩
  · skip
    have c0 := (nd_heads (unhide N).r3).1
    go_wp2_with fail
    go_fit (pick4L (unhide N).ds hl (-1) x.id 3 100)
    rintro r w5 ⟨z, hz, rfl, d, g3⟩
    replace N := hide (((unhide N).calls (al1_below _ _)).draw d.cur g3)
    clear d g3 c0
    have q1 := cellC (unhide N).r3 1 (by rw [ndC_size]; omega)
    have z1 := frozen_of_row w5 b3 1 _ _ (unhide N).r3
    go_upto_region 19 with fail
    clear q1 z1
    have N1 := hide (unhide N)
    replace N := hide (show NQ w (w5.setCell ⟨b3, 1, none⟩ (.int .i64 z)) g B a len cap b2 b3 { x with par := z } s from by
      have h := (unhide N1).f
      have q := unhide N1
      exact q.put (set_par _ _ z) ⟨⟨q.in3.v, q.in3.p, q.in3.d, q.in3.cv, q.in3.cp⟩, h.caps.same, ⟨h.small.nv, h.small.np, h.small.nd, h.small.mv, h.small.mp⟩, h.wid, by have h1 := h.wid; show (Lit.int .i64 z).wf = true; rcases hz with rfl | rfl | rfl | rfl <;> first | exact h1 | decide, fun l hl k e => h.far l hl k (by rw [← e]; rcases (by omega : l = 0 ∨ l = 1 ∨ l = 2 ∨ l = 3 ∨ l = 4) with rfl | rfl | rfl | rfl | rfl <;> rfl)⟩ (fun l hl k e => q.ne l hl k (by rw [← e]; rcases (by omega : l = 0 ∨ l = 1 ∨ l = 2 ∨ l = 3 ∨ l = 4) with rfl | rfl | rfl | rfl | rfl <;> rfl)))
    clear N1
    generalize w5.setCell ⟨b3, 1, none⟩ (.int .i64 z) = WS at N ⊢
    obtain ⟨y, hy⟩ : ∃ y : Nd, Hid ({ x with par := z } = y) := ⟨_, rfl⟩
    rw [unhide hy] at N
    clear hy
    obtain ⟨C2, r2, z2⟩ := (unhide N).r2
    replace r2 := hide r2
    have hlo := hide (unhide N).lo
    go_wp2_with (first | with_reducible refine load_own rfl _ rfl b3 rfl y s 41 (unhide N).r3 ?_ | with_reducible refine wpList_store_row rfl 41 _ _ rfl b2 (ndC y s) rfl rfl 41 _ (unhide r2) (ndC_info y s) (z2.trans (ndC_size y s).symm) (ndC_one y s) ?_)
    have r2' := hide (setRow_heap _ _ _ (ndC y s) _ _ (unhide r2))
    refine bodyPost_ret (v := .agg (ndC y s)) (results_cell_row rfl _ _ b2 41 _ (0, 0) _ rfl (unhide r2') Tryz.underlying41 rfl (ndC_info y s)) rfl ?_
    exact ⟨⟨y, s, rfl, (((unhide N).f.kept (setRow_grown _ b2 _) (Nat.lt_succ_self b2)).low (by have := unhide hlo; omega))⟩, (unhide N).ds.setRow (unhide hlo).1⟩
  · skip
    go_wp2_with fail
    go_fit (draw_any (unhide N).ds hl 7 (by omega) (by omega))
    rintro r w5 ⟨z0, hz, rfl, d, g3⟩
    replace N := hide ((unhide N).draw d.cur g3)
    clear d g3
    obtain ⟨z, hz'⟩ : ∃ z : Int, (z0 : Int) = z := ⟨_, rfl⟩
    rw [hz']
    have q1 := cellC (unhide N).r3 27 (by rw [ndC_size]; omega)
    have z1 := frozen_of_row w5 b3 27 _ _ (unhide N).r3
    go_upto_region 19 with fail
    clear q1 z1 hz' hz
    have N1 := hide (unhide N)
    replace N := hide (show NQ w (w5.setCell ⟨b3, 27, none⟩ (.int .i64 z)) g B a len cap b2 b3 { x with md := z } s from by
      have h := (unhide N1).f
      have q := unhide N1
      exact q.put (set_md _ _ z) ⟨⟨q.in3.v, q.in3.p, q.in3.d, q.in3.cv, q.in3.cp⟩, h.caps.same, ⟨h.small.nv, h.small.np, h.small.nd, h.small.mv, h.small.mp⟩, h.wid, h.wpar, fun l hl k e => h.far l hl k (by rw [← e]; rcases (by omega : l = 0 ∨ l = 1 ∨ l = 2 ∨ l = 3 ∨ l = 4) with rfl | rfl | rfl | rfl | rfl <;> rfl)⟩ (fun l hl k e => q.ne l hl k (by rw [← e]; rcases (by omega : l = 0 ∨ l = 1 ∨ l = 2 ∨ l = 3 ∨ l = 4) with rfl | rfl | rfl | rfl | rfl <;> rfl)))
    clear N1
    generalize w5.setCell ⟨b3, 27, none⟩ (.int .i64 z) = WS at N ⊢
    obtain ⟨y, hy⟩ : ∃ y : Nd, Hid ({ x with md := z } = y) := ⟨_, rfl⟩
    rw [unhide hy] at N
    clear hy
    obtain ⟨C2, r2, z2⟩ := (unhide N).r2
    replace r2 := hide r2
    have hlo := hide (unhide N).lo
    go_wp2_with (first | with_reducible refine load_own rfl _ rfl b3 rfl y s 41 (unhide N).r3 ?_ | with_reducible refine wpList_store_row rfl 41 _ _ rfl b2 (ndC y s) rfl rfl 41 _ (unhide r2) (ndC_info y s) (z2.trans (ndC_size y s).symm) (ndC_one y s) ?_)
    have r2' := hide (setRow_heap _ _ _ (ndC y s) _ _ (unhide r2))
    refine bodyPost_ret (v := .agg (ndC y s)) (results_cell_row rfl _ _ b2 41 _ (0, 0) _ rfl (unhide r2') Tryz.underlying41 rfl (ndC_info y s)) rfl ?_
    exact ⟨⟨y, s, rfl, (((unhide N).f.kept (setRow_grown _ b2 _) (Nat.lt_succ_self b2)).low (by have := unhide hlo; omega))⟩, (unhide N).ds.setRow (unhide hlo).1⟩
  · skip
    go_wp2_with fail
    go_fit (pick2L (unhide N).ds hl (-1) 256)
    rintro r w5 ⟨z, _, rfl, d, g3⟩
    replace N := hide (((unhide N).calls (al1_below _ _)).draw d.cur g3)
    clear d g3
    have q1 := cellC (unhide N).r3 28 (by rw [ndC_size]; omega)
    have z1 := frozen_of_row w5 b3 28 _ _ (unhide N).r3
    go_upto_region 19 with fail
    clear q1 z1
    have N1 := hide (unhide N)
    replace N := hide (show NQ w (w5.setCell ⟨b3, 28, none⟩ (.int .i64 z)) g B a len cap b2 b3 { x with fd := z } s from by
      have h := (unhide N1).f
      have q := unhide N1
      exact q.put (set_fd _ _ z) ⟨⟨q.in3.v, q.in3.p, q.in3.d, q.in3.cv, q.in3.cp⟩, h.caps.same, ⟨h.small.nv, h.small.np, h.small.nd, h.small.mv, h.small.mp⟩, h.wid, h.wpar, fun l hl k e => h.far l hl k (by rw [← e]; rcases (by omega : l = 0 ∨ l = 1 ∨ l = 2 ∨ l = 3 ∨ l = 4) with rfl | rfl | rfl | rfl | rfl <;> rfl)⟩ (fun l hl k e => q.ne l hl k (by rw [← e]; rcases (by omega : l = 0 ∨ l = 1 ∨ l = 2 ∨ l = 3 ∨ l = 4) with rfl | rfl | rfl | rfl | rfl <;> rfl)))
    clear N1
    generalize w5.setCell ⟨b3, 28, none⟩ (.int .i64 z) = WS at N ⊢
    obtain ⟨y, hy⟩ : ∃ y : Nd, Hid ({ x with fd := z } = y) := ⟨_, rfl⟩
    rw [unhide hy] at N
    clear hy
    obtain ⟨C2, r2, z2⟩ := (unhide N).r2
    replace r2 := hide r2
    have hlo := hide (unhide N).lo
    go_wp2_with (first | with_reducible refine load_own rfl _ rfl b3 rfl y s 41 (unhide N).r3 ?_ | with_reducible refine wpList_store_row rfl 41 _ _ rfl b2 (ndC y s) rfl rfl 41 _ (unhide r2) (ndC_info y s) (z2.trans (ndC_size y s).symm) (ndC_one y s) ?_)
    have r2' := hide (setRow_heap _ _ _ (ndC y s) _ _ (unhide r2))
    refine bodyPost_ret (v := .agg (ndC y s)) (results_cell_row rfl _ _ b2 41 _ (0, 0) _ rfl (unhide r2') Tryz.underlying41 rfl (ndC_info y s)) rfl ?_
    exact ⟨⟨y, s, rfl, (((unhide N).f.kept (setRow_grown _ b2 _) (Nat.lt_succ_self b2)).low (by have := unhide hlo; omega))⟩, (unhide N).ds.setRow (unhide hlo).1⟩
  · skip
    go_wp2_with fail
    go_fit (pick2L (unhide N).ds hl (-1) 2049)
    rintro r w5 ⟨z, _, rfl, d, g3⟩
    replace N := hide (((unhide N).calls (al1_below _ _)).draw d.cur g3)
    clear d g3
    have q1 := cellC (unhide N).r3 12 (by rw [ndC_size]; omega)
    have z1 := frozen_of_row w5 b3 12 _ _ (unhide N).r3
    go_upto_region 19 with fail
    clear q1 z1
    have N1 := hide (unhide N)
    replace N := hide (show NQ w (w5.setCell ⟨b3, 12, none⟩ (.int .i64 z)) g B a len cap b2 b3 { x with wd := z } s from by
      have h := (unhide N1).f
      have q := unhide N1
      exact q.put (set_wd _ _ z) ⟨⟨q.in3.v, q.in3.p, q.in3.d, q.in3.cv, q.in3.cp⟩, h.caps.same, ⟨h.small.nv, h.small.np, h.small.nd, h.small.mv, h.small.mp⟩, h.wid, h.wpar, fun l hl k e => h.far l hl k (by rw [← e]; rcases (by omega : l = 0 ∨ l = 1 ∨ l = 2 ∨ l = 3 ∨ l = 4) with rfl | rfl | rfl | rfl | rfl <;> rfl)⟩ (fun l hl k e => q.ne l hl k (by rw [← e]; rcases (by omega : l = 0 ∨ l = 1 ∨ l = 2 ∨ l = 3 ∨ l = 4) with rfl | rfl | rfl | rfl | rfl <;> rfl)))
    clear N1
    generalize w5.setCell ⟨b3, 12, none⟩ (.int .i64 z) = WS at N ⊢
    obtain ⟨y, hy⟩ : ∃ y : Nd, Hid ({ x with wd := z } = y) := ⟨_, rfl⟩
    rw [unhide hy] at N
    clear hy
    obtain ⟨C2, r2, z2⟩ := (unhide N).r2
    replace r2 := hide r2
    have hlo := hide (unhide N).lo
    go_wp2_with (first | with_reducible refine load_own rfl _ rfl b3 rfl y s 41 (unhide N).r3 ?_ | with_reducible refine wpList_store_row rfl 41 _ _ rfl b2 (ndC y s) rfl rfl 41 _ (unhide r2) (ndC_info y s) (z2.trans (ndC_size y s).symm) (ndC_one y s) ?_)
    have r2' := hide (setRow_heap _ _ _ (ndC y s) _ _ (unhide r2))
    refine bodyPost_ret (v := .agg (ndC y s)) (results_cell_row rfl _ _ b2 41 _ (0, 0) _ rfl (unhide r2') Tryz.underlying41 rfl (ndC_info y s)) rfl ?_
    exact ⟨⟨y, s, rfl, (((unhide N).f.kept (setRow_grown _ b2 _) (Nat.lt_succ_self b2)).low (by have := unhide hlo; omega))⟩, (unhide N).ds.setRow (unhide hlo).1⟩
  · skip
    have c2 : w4.cell? ⟨b3, 2, none⟩ = some (.bool x.gr) := nd_rng (unhide N).r3 2 _ rfl
    have z1 := frozen_of_row w4 b3 2 _ _ (unhide N).r3
    go_upto_region 19 with fail
    clear c2 z1
    have N1 := hide (unhide N)
    replace N := hide (show NQ w (w4.setCell ⟨b3, 2, none⟩ (.bool (!x.gr))) g B a len cap b2 b3 { x with gr := !x.gr } s from by
      have h := (unhide N1).f
      have q := unhide N1
      exact q.put (set_gr _ _ (!x.gr)) ⟨⟨q.in3.v, q.in3.p, q.in3.d, q.in3.cv, q.in3.cp⟩, h.caps.same, ⟨h.small.nv, h.small.np, h.small.nd, h.small.mv, h.small.mp⟩, h.wid, h.wpar, fun l hl k e => h.far l hl k (by rw [← e]; rcases (by omega : l = 0 ∨ l = 1 ∨ l = 2 ∨ l = 3 ∨ l = 4) with rfl | rfl | rfl | rfl | rfl <;> rfl)⟩ (fun l hl k e => q.ne l hl k (by rw [← e]; rcases (by omega : l = 0 ∨ l = 1 ∨ l = 2 ∨ l = 3 ∨ l = 4) with rfl | rfl | rfl | rfl | rfl <;> rfl)))
    clear N1
    generalize w4.setCell ⟨b3, 2, none⟩ (.bool (!x.gr)) = WS at N ⊢
    obtain ⟨y, hy⟩ : ∃ y : Nd, Hid ({ x with gr := !x.gr } = y) := ⟨_, rfl⟩
    rw [unhide hy] at N
    clear hy
    obtain ⟨C2, r2, z2⟩ := (unhide N).r2
    replace r2 := hide r2
    have hlo := hide (unhide N).lo
    go_wp2_with (first | with_reducible refine load_own rfl _ rfl b3 rfl y s 41 (unhide N).r3 ?_ | with_reducible refine wpList_store_row rfl 41 _ _ rfl b2 (ndC y s) rfl rfl 41 _ (unhide r2) (ndC_info y s) (z2.trans (ndC_size y s).symm) (ndC_one y s) ?_)
    have r2' := hide (setRow_heap _ _ _ (ndC y s) _ _ (unhide r2))
    refine bodyPost_ret (v := .agg (ndC y s)) (results_cell_row rfl _ _ b2 41 _ (0, 0) _ rfl (unhide r2') Tryz.underlying41 rfl (ndC_info y s)) rfl ?_
    exact ⟨⟨y, s, rfl, (((unhide N).f.kept (setRow_grown _ b2 _) (Nat.lt_succ_self b2)).low (by have := unhide hlo; omega))⟩, (unhide N).ds.setRow (unhide hlo).1⟩
  · skip
    go_wp2_with fail
    go_fit (l04AnyMat_any g B a len cap _ hl (unhide N).ds.again)
    rintro e w5 ⟨⟨m0, m1, m2, m3, m4, m5, rfl⟩, d⟩
    replace N := hide ((unhide N).draw d.cur d.gb)
    clear d
    obtain ⟨M, hM⟩ : ∃ A : Array Value, Hid (#[.int .i64 m0, .int .i64 m1, .int .i64 m2, .int .i64 m3, .int .i64 m4, .int .i64 m5] = A) := ⟨_, rfl⟩
    have hms : M.size = 6 := by rw [← unhide hM]; rfl
    have hmo : M.all (·.oneCell') = true := by rw [← unhide hM]; simp [Value.oneCell']
    have hth := hide (thereC (unhide N).r3 3 6 (by rw [ndC_size]; omega))
    have hin : (Tryz.prog.info? 29).map (·.size) = some 6 := by kernel_rfl
    go_upto_region 19 with (refine wpList_store_mid rfl 29 _ _ rfl b3 3 M rfl (by rw [← unhide hM]; rfl) (by rw [hms]; exact unhide hth) (by rw [hms]; exact hin) hmo ?_)
    clear hms hmo hth hin
    have N1 := hide (unhide N)
    replace N := hide (show NQ w (w5.setCells b3 3 M.toList) g B a len cap b2 b3 { x with m0 := m0, m1 := m1, m2 := m2, m3 := m3, m4 := m4, m5 := m5 } s from by
      have h := (unhide N1).f
      have q := unhide N1
      have hin := h.inn.kept (sets_grown2 b3 M.toList w5 3) (fun l hl _ k e e2 => q.ne l hl k e (Option.some.inj e2).symm)
      exact q.puts M.toList (by rw [← unhide hM]; exact set_mat x s m0 m1 m2 m3 m4 m5) ⟨⟨hin.v, hin.p, hin.d, hin.cv, hin.cp⟩, h.caps.same, ⟨h.small.nv, h.small.np, h.small.nd, h.small.mv, h.small.mp⟩, h.wid, h.wpar, fun l hl k e => h.far l hl k (by rw [← e]; rcases (by omega : l = 0 ∨ l = 1 ∨ l = 2 ∨ l = 3 ∨ l = 4) with rfl | rfl | rfl | rfl | rfl <;> rfl)⟩ (fun l hl k e => q.ne l hl k (by rw [← e]; rcases (by omega : l = 0 ∨ l = 1 ∨ l = 2 ∨ l = 3 ∨ l = 4) with rfl | rfl | rfl | rfl | rfl <;> rfl)))
    clear N1 hM
    generalize w5.setCells b3 3 M.toList = WS at N ⊢
    obtain ⟨y, hy⟩ : ∃ y : Nd, Hid ({ x with m0 := m0, m1 := m1, m2 := m2, m3 := m3, m4 := m4, m5 := m5 } = y) := ⟨_, rfl⟩
    rw [unhide hy] at N
    clear hy
    obtain ⟨C2, r2, z2⟩ := (unhide N).r2
    replace r2 := hide r2
    have hlo := hide (unhide N).lo
    go_wp2_with (first | with_reducible refine load_own rfl _ rfl b3 rfl y s 41 (unhide N).r3 ?_ | with_reducible refine wpList_store_row rfl 41 _ _ rfl b2 (ndC y s) rfl rfl 41 _ (unhide r2) (ndC_info y s) (z2.trans (ndC_size y s).symm) (ndC_one y s) ?_)
    have r2' := hide (setRow_heap _ _ _ (ndC y s) _ _ (unhide r2))
    refine bodyPost_ret (v := .agg (ndC y s)) (results_cell_row rfl _ _ b2 41 _ (0, 0) _ rfl (unhide r2') Tryz.underlying41 rfl (ndC_info y s)) rfl ?_
    exact ⟨⟨y, s, rfl, (((unhide N).f.kept (setRow_grown _ b2 _) (Nat.lt_succ_self b2)).low (by have := unhide hlo; omega))⟩, (unhide N).ds.setRow (unhide hlo).1⟩
  · skip
    go_wp2_with fail
    go_fit (l06Any_cap g B a len cap _ hl (unhide N).ds.again)
    rintro e w5 ⟨v1, v2, rfl, ⟨hp, hc⟩, d⟩
    have hbs := heap_lt (unhide N).r3
    replace N := hide ((unhide N).draw d.cur d.gb)
    obtain ⟨a1, n1, k1, a2, n2, k2, vf, pf, rfl, rfl, e1, e2, e3, e4, e5, e6, e7, e8⟩ := AnyPath.lists hp hc
    have e5 := hide (fun q h => Nat.lt_of_lt_of_le hbs (e5 q h))
    have e6 := hide (fun q h => Nat.lt_of_lt_of_le hbs (e6 q h))
    have e7 := hide e7
    have e8 := hide e8
    clear d hp hc hbs
    have q1 := cellC (unhide N).r3 9 (by rw [ndC_size]; omega)
    have q2 := cellC (unhide N).r3 10 (by rw [ndC_size]; omega)
    have z1 := frozen_of_row w5 b3 9 _ _ (unhide N).r3
    have z2 := frozen_of_row w5 b3 10 _ _ (unhide N).r3
    go_upto_region 19 with fail
    clear q1 q2 z1 z2
    have N1 := hide (unhide N)
    replace N := hide (show NQ w ((w5.setCell ⟨b3, 9, none⟩ (.slice a1 n1 k1)).setCell ⟨b3, 10, none⟩ (.slice a2 n2 k2)) g B a len cap b2 b3 { x with nv := n1, vf := vf, np := n2, pf := pf } { s with av := a1, cv := k1, ap := a2, cp := k2 } from by
      have h := (unhide N1).f
      have q := unhide N1
      have gr : w5.grownBy ((w5.setCell ⟨b3, 9, none⟩ (.slice a1 n1 k1)).setCell ⟨b3, 10, none⟩ (.slice a2 n2 k2)) (some b3) := grown_trans (setc_grown w5 b3 9 _) (setc_grown _ b3 10 _)
      have hin := h.inn.kept gr (fun l hl _ k e e2 => q.ne l hl k e (Option.some.inj e2).symm)
      have lo := q.lo
      have f1 : ∀ k, (Value.slice a1 n1 k1).ownBlock = some k → b3 < k := fun k e => by
        cases a1 with
        | none => cases e
        | some p => cases e; exact unhide e5 p rfl
      have f2 : ∀ k, (Value.slice a2 n2 k2).ownBlock = some k → b3 < k := fun k e => by
        cases a2 with
        | none => cases e
        | some p => cases e; exact unhide e6 p rfl
      have far' : ∀ l, l < 5 → ∀ k, (lvl { x with nv := n1, vf := vf, np := n2, pf := pf } { s with av := a1, cv := k1, ap := a2, cp := k2 } l).ownBlock = some k → b2 + 1 ≤ k ∧ k ≠ b3 := fun l hl k e => by
        rcases (by omega : l = 0 ∨ l = 1 ∨ l = 2 ∨ l = 3 ∨ l = 4) with rfl | rfl | rfl | rfl | rfl
        · have := f1 k e; omega
        · have := f2 k e; omega
        · exact ⟨h.far 2 (by decide) k e, q.ne 2 (by decide) k e⟩
        · exact ⟨h.far 3 (by decide) k e, q.ne 3 (by decide) k e⟩
        · exact ⟨h.far 4 (by decide) k e, q.ne 4 (by decide) k e⟩
      refine ⟨(q.ds.put 9 _ (by omega)).put 10 _ (by omega), ?_, ?_, ⟨⟨?_, ?_, hin.d, hin.cv, hin.cp⟩, ⟨e3, e4, h.caps.d, h.caps.cv, h.caps.cp⟩, ⟨by show n1 ≤ _; omega, by show n2 ≤ _; omega, h.small.nd, h.small.mv, h.small.mp⟩, h.wid, h.wpar, fun l hl k e => (far' l hl k e).1⟩, fun l hl k e => (far' l hl k e).2, lo⟩
      · obtain ⟨C, h1, h2⟩ := q.r2
        exact ⟨C, setc_other (by omega) (setc_other (by omega) h1), h2⟩
      · rw [← set_path]; exact setC (setC q.r3)
      · exact fun i hi => intAt_kept (n := n1) (c := k1) (unhide e7 i hi) gr (fun k e e2 => by cases e2; have := f1 _ e; omega)
      · exact fun i hi => ptArg_kept (n := n2) (c := k2) (unhide e8 i hi) gr (fun k e e2 => by cases e2; have := f2 _ e; omega))
    clear N1 e1 e2 e3 e4 e5 e6 e7 e8
    generalize (w5.setCell ⟨b3, 9, none⟩ (.slice a1 n1 k1)).setCell ⟨b3, 10, none⟩ (.slice a2 n2 k2) = WS at N ⊢
    generalize ({ s with av := a1, cv := k1, ap := a2, cp := k2 } : Na) = s' at N
    obtain ⟨y, hy⟩ : ∃ y : Nd, Hid ({ x with nv := n1, vf := vf, np := n2, pf := pf } = y) := ⟨_, rfl⟩
    rw [unhide hy] at N
    clear hy
    obtain ⟨C2, r2, z2⟩ := (unhide N).r2
    replace r2 := hide r2
    have hlo := hide (unhide N).lo
    go_wp2_with (first | with_reducible refine load_own rfl _ rfl b3 rfl y s' 41 (unhide N).r3 ?_ | with_reducible refine wpList_store_row rfl 41 _ _ rfl b2 (ndC y s') rfl rfl 41 _ (unhide r2) (ndC_info y s') (z2.trans (ndC_size y s').symm) (ndC_one y s') ?_)
    have r2' := hide (setRow_heap _ _ _ (ndC y s') _ _ (unhide r2))
    refine bodyPost_ret (v := .agg (ndC y s')) (results_cell_row rfl _ _ b2 41 _ (0, 0) _ rfl (unhide r2') Tryz.underlying41 rfl (ndC_info y s')) rfl ?_
    exact ⟨⟨y, s', rfl, (((unhide N).f.kept (setRow_grown _ b2 _) (Nat.lt_succ_self b2)).low (by have := unhide hlo; omega))⟩, (unhide N).ds.setRow (unhide hlo).1⟩
  · have k0 : ((t : Int) == 0) = false := beq_eq_false_iff_ne.2 (by omega)
    have k1 : ((t : Int) == 1) = false := beq_eq_false_iff_ne.2 (by omega)
    have k2 : ((t : Int) == 2) = false := beq_eq_false_iff_ne.2 (by omega)
    have k3 : ((t : Int) == 3) = false := beq_eq_false_iff_ne.2 (by omega)
    have k4 : ((t : Int) == 4) = false := beq_eq_false_iff_ne.2 (by omega)
    have k5 : ((t : Int) == 5) = false := beq_eq_false_iff_ne.2 (by omega)
    have k6 : ((t : Int) == 6) = false := beq_eq_false_iff_ne.2 (by omega)
    have k7 : ((t : Int) == 7) = false := beq_eq_false_iff_ne.2 (by omega)
    obtain ⟨y, hy⟩ : ∃ y : Nd, Hid (x = y) := ⟨_, rfl⟩
    rw [unhide hy] at N
    clear hy
    obtain ⟨C2, r2, z2⟩ := (unhide N).r2
    replace r2 := hide r2
    have hlo := hide (unhide N).lo
    go_wp2_with (first | with_reducible refine load_own rfl _ rfl b3 rfl y s 41 (unhide N).r3 ?_ | with_reducible refine wpList_store_row rfl 41 _ _ rfl b2 (ndC y s) rfl rfl 41 _ (unhide r2) (ndC_info y s) (z2.trans (ndC_size y s).symm) (ndC_one y s) ?_)
    have r2' := hide (setRow_heap _ _ _ (ndC y s) _ _ (unhide r2))
    refine bodyPost_ret (v := .agg (ndC y s)) (results_cell_row rfl _ _ b2 41 _ (0, 0) _ rfl (unhide r2') Tryz.underlying41 rfl (ndC_info y s)) rfl ?_
    exact ⟨⟨y, s, rfl, (((unhide N).f.kept (setRow_grown _ b2 _) (Nat.lt_succ_self b2)).low (by have := unhide hlo; omega))⟩, (unhide N).ds.setRow (unhide hlo).1⟩
end Go.Proofs.YtmafopckplpajaaGreatDoor

/-
  A scene while it is drawn.
-/
namespace Go.Proofs.YtmafopckplpajaaGreatDoor
open Go.RowKit
set_option linter.unusedVariables false

/-- The cells of n nodes. -/
def ndsL (X : Nat → Nd) (A : Nat → Na) : Nat → List Value
  | 0 => []
  | n + 1 => ndsL X A n ++ (ndC (X n) (A n)).toList
theorem ndsL_len (X : Nat → Nd) (A : Nat → Na) : ∀ n, (ndsL X A n).length = n * 31
  | 0 => rfl
  | n + 1 => by rw [ndsL, List.length_append, ndsL_len X A n, Array.length_toList, ndC_size]; omega
theorem ndsL_get (X : Nat → Nd) (A : Nat → Na) : ∀ {n i j : Nat}, i < n → j < 31 → (ndsL X A n)[i * 31 + j]? = (ndC (X i) (A i))[j]?
  | 0, i, j, hi, _ => absurd hi (by omega)
  | n + 1, i, j, hi, hj => by
    rw [ndsL]
    by_cases e : i = n
    · subst e
      rw [List.getElem?_append_right (by rw [ndsL_len]; omega), ndsL_len, show i * 31 + j - i * 31 = j by omega, Array.getElem?_toList]
    · rw [List.getElem?_append_left (by rw [ndsL_len]; omega)]
      exact ndsL_get X A (by omega) hj
theorem ndsL_congr {X Y : Nat → Nd} {A C : Nat → Na} : ∀ {n : Nat}, (∀ i, i < n → X i = Y i ∧ A i = C i) → ndsL X A n = ndsL Y C n
  | 0, _ => rfl
  | n + 1, h => by rw [ndsL, ndsL, ndsL_congr (fun i hi => h i (by omega)), (h n (by omega)).1, (h n (by omega)).2]
theorem ndsL_one (X : Nat → Nd) (A : Nat → Na) (n : Nat) : ∀ u ∈ ndsL X A n, u.oneCell' = true := by
  induction n with
  | zero => intro u hu; cases hu
  | succ n ih =>
    intro u hu
    rcases List.mem_append.1 hu with hu | hu
    · exact ih u hu
    · have h1 := ndC_one (X n) (A n)
      rw [← Array.all_toList] at h1
      exact List.all_eq_true.1 h1 u hu
theorem own_nodes {w : World} {base n : Nat} {v : Value} {X : Nat → Nd} {A : Nat → Na} (h : w.ownsRow base 41 31 v n (ndsL X A n)) (hN : ∀ i, i < n → NdIn w (X i) (A i)) : ∃ p c, v = .slice p n c ∧ n ≤ c ∧ ∀ i, i < n → NrAt w p i (X i) (A i) := by
  have hc := fun g (e : v.ownBlock = some g) => h.cells e
  rcases h.2 with ⟨h1, h2⟩ | ⟨g, cap, cur, h1, _, _, h4, _⟩
  · subst h2
    exact ⟨none, 0, h1, Nat.le_refl _, fun i hi => absurd hi (by omega)⟩
  · subst h1
    refine ⟨_, _, rfl, h4, fun i hi => ⟨g, 0, rfl, fun j u hj => ?_, hN i hi⟩⟩
    have hj31 : j < 31 := (Array.getElem?_eq_some_iff.1 hj).1
    have := hc g rfl (i * 31 + j) u (by rw [ndsL_get X A hi hj31]; exact hj)
    rw [Addr.add_lit] at this
    rw [show 0 + i * 31 + j = 0 + (i * 31 + j) by omega]
    exact this

/-- A node's lists do not lie in that block. -/
structure FarR (x : Nd) (s : Na) (r : Option Nat) : Prop where
  v : (Value.slice s.av x.nv s.cv).ownBlock = none ∨ (Value.slice s.av x.nv s.cv).ownBlock ≠ r
  p : (Value.slice s.ap x.np s.cp).ownBlock = none ∨ (Value.slice s.ap x.np s.cp).ownBlock ≠ r
  d : (Value.slice s.ad x.nd s.cd).ownBlock = none ∨ (Value.slice s.ad x.nd s.cd).ownBlock ≠ r
  cv : (Value.slice s.bv x.mv s.dv).ownBlock = none ∨ (Value.slice s.bv x.mv s.dv).ownBlock ≠ r
  cp : (Value.slice s.bp x.mp s.dp).ownBlock = none ∨ (Value.slice s.bp x.mp s.dp).ownBlock ≠ r
theorem far_one {w : World} {base e sz n : Nat} {v : Value} {xs : List Value} {r : Option Nat} (h : w.ownsRow base e sz v n xs) (hr : ∀ k, r = some k → k < base ∨ w.heap.size ≤ k) : v.ownBlock = none ∨ v.ownBlock ≠ r := by
  cases hv : v.ownBlock with
  | none => exact .inl rfl
  | some k =>
    refine .inr fun e => ?_
    have h1 := h.lt k hv
    rcases hr k e.symm with h2 | h2 <;> omega
theorem NdW.far {w : World} {base : Nat} {x : Nd} {s : Na} {r : Option Nat} (h : NdW w base x s) (hr : ∀ k, r = some k → k < base ∨ w.heap.size ≤ k) : FarR x s r :=
  let ⟨xs, a1, a2⟩ := h.v; let ⟨ys, b1, b2⟩ := h.p; let ⟨zs, c1, c2⟩ := h.d; let ⟨us, d1, d2⟩ := h.cv; let ⟨vs, e1, e2⟩ := h.cp
  ⟨far_one a1 hr, far_one b1 hr, far_one c1 hr, far_one d1 hr, far_one e1 hr⟩
theorem NdW.kept2 {w u : World} {base : Nat} {x : Nd} {s : Na} {r : Option Nat} (h : NdW w base x s) (hg : w.grownBy u r) (hf : FarR x s r) : NdW u base x s :=
  let ⟨xs, a1, a2⟩ := h.v; let ⟨ys, b1, b2⟩ := h.p; let ⟨zs, c1, c2⟩ := h.d; let ⟨us, d1, d2⟩ := h.cv; let ⟨vs, e1, e2⟩ := h.cp
  ⟨⟨xs, a1.kept hg hf.v, a2⟩, ⟨ys, b1.kept hg hf.p, b2⟩, ⟨zs, c1.kept hg hf.d, c2⟩, ⟨us, d1.kept hg hf.cv, d2⟩, ⟨vs, e1.kept hg hf.cp, e2⟩⟩

/-- A scene of n nodes in the variable b3, while more is drawn. -/
structure SL (w u : World) (g B : Nat) (a : Option Addr) (len cap b2 b3 : Nat) (v : Value) (n : Nat) (X : Nat → Nd) (A : Nat → Na) : Prop where
  ds : DS w u g B a len cap
  lo : w.heap.size ≤ b2 ∧ b2 < b3
  r2 : u.heap[b2]? = some (.cells #[.slice none 0 0] 26 (0, 0))
  r3 : u.heap[b3]? = some (.cells #[v] 26 (0, 0))
  own : u.ownsRow (b3 + 1) 41 31 v n (ndsL X A n)
  lists : ∀ i, i < n → NdW u (b3 + 1) (X i) (A i)
  far : ∀ i, i < n → FarR (X i) (A i) v.ownBlock
theorem SL.step {w u u' : World} {g B : Nat} {a : Option Addr} {len cap b2 b3 n : Nat} {v : Value} {X : Nat → Nd} {A : Nat → Na} (h : SL w u g B a len cap b2 b3 v n X A) (hd : DS w u' g B a len cap) (hg : u.grownBy u' (some g)) : SL w u' g B a len cap b2 b3 v n X A := by
  have hlt := h.ds.lt
  have hlo := h.lo
  refine ⟨hd, h.lo, (hg.block b2 (heap_lt h.r2) (fun e => by cases e; omega)).trans h.r2, (hg.block b3 (heap_lt h.r3) (fun e => by cases e; omega)).trans h.r3, h.own.kept hg ?_, fun i hi => (h.lists i hi).kept hg (by omega), h.far⟩
  cases hv : v.ownBlock with
  | none => exact .inl rfl
  | some k => exact .inr fun e => by cases e; have := (h.own.lt g hv).1; omega
theorem SL.calls {w u u' : World} {g B : Nat} {a : Option Addr} {len cap b2 b3 n : Nat} {v : Value} {X : Nat → Nd} {A : Nat → Na} (h : SL w u g B a len cap b2 b3 v n X A) (hb : Below u.heap.size u u') : SL w u' g B a len cap b2 b3 v n X A :=
  h.step (h.ds.calls hb) (grows_by hb _)
theorem SL.nodes {w u : World} {g B : Nat} {a : Option Addr} {len cap b2 b3 n : Nat} {v : Value} {X : Nat → Nd} {A : Nat → Na} (h : SL w u g B a len cap b2 b3 v n X A) : ∃ p c, v = .slice p n c ∧ n ≤ c ∧ ∀ i, i < n → NrAt u p i (X i) (A i) :=
  own_nodes h.own (fun i hi => (h.lists i hi).inn)
/-- One node more. -/
theorem SL.more {w u u1 u2 u3 : World} {g B : Nat} {a : Option Addr} {len cap b2 b3 n : Nat} {v v' : Value} {X : Nat → Nd} {A : Nat → Na} {x : Nd} {s : Na} (h : SL w u g B a len cap b2 b3 v n X A) (hd : DS u u1 g B a len cap) (hx : NdW u1 u.heap.size x s)
    (hb2 : Below u1.heap.size u1 u2) (ho : u3.ownsRow (b3 + 1) 41 31 v' (n + 1) (ndsL X A n ++ (ndC x s).toList)) (hg : u2.grownBy u3 v.ownBlock) (hl : v'.ownBlock = v.ownBlock ∨ ∀ k, v'.ownBlock = some k → u2.heap.size ≤ k) :
    SL w (u3.setCell ⟨b3, 0, none⟩ v') g B a len cap b2 b3 v' (n + 1) (fun i => if i = n then x else X i) (fun i => if i = n then s else A i) := by
  have h1 : SL w u1 g B a len cap b2 b3 v n X A := h.step (h.ds.next hd.cur hd.gb) hd.gb
  have h2 := h1.calls hb2
  have hlt := h.ds.lt
  have hlo := h.lo
  have hvl : ∀ k, v.ownBlock = some k → b3 + 1 ≤ k ∧ k < u.heap.size := fun k e => h.own.lt k e
  have hs1 : u.heap.size ≤ u1.heap.size := hd.gb.size
  have hu3 : b3 < u.heap.size := heap_lt h.r3
  have hset : u3.grownBy (u3.setCell ⟨b3, 0, none⟩ v') (some b3) := setc_grown u3 b3 0 v'
  have hv' : ∀ k, v'.ownBlock = some k → b3 + 1 ≤ k := fun k e => (ho.lt k e).1
  have e2 : u3.heap[b2]? = some (.cells #[.slice none 0 0] 26 (0, 0)) := (hg.block b2 (heap_lt h2.r2) (fun e => by have := (hvl b2 e.symm).1; omega)).trans h2.r2
  have e3 : u3.heap[b3]? = some (.cells #[v] 26 (0, 0)) := (hg.block b3 (heap_lt h2.r3) (fun e => by have := (hvl b3 e.symm).1; omega)).trans h2.r3
  have hds3 : DS w u3 g B a len cap := by
    refine h2.ds.part (C := w.heap.size) ?_ (Nat.le_refl _)
    exact ⟨hg.os, hg.tape, hg.output, hg.size, fun k hk => hg.block k (Nat.lt_of_lt_of_le hk h2.ds.size) (fun e => by have := (hvl k e.symm).1; omega)⟩
  refine ⟨hds3.put 0 v' (by omega), h.lo, (hset.block b2 (heap_lt e2) (fun e => by cases e; omega)).trans e2, ?_, ?_, fun i hi => ?_, fun i hi => ?_⟩
  · have := setC (v := v') (j := 0) e3
    simpa using this
  · have e : ndsL X A n ++ (ndC x s).toList = ndsL (fun i => if i = n then x else X i) (fun i => if i = n then s else A i) (n + 1) := by
      rw [ndsL, if_pos rfl, if_pos rfl]
      congr 1
      exact ndsL_congr (fun i hi => ⟨by rw [if_neg (by omega)], by rw [if_neg (by omega)]⟩)
    rw [← e]
    refine ho.kept hset ?_
    cases hv : v'.ownBlock with
    | none => exact .inl rfl
    | some k => exact .inr fun e => by cases e; have := hv' b3 hv; omega
  · by_cases e : i = n
    · rw [if_pos e, if_pos e]
      have hx2 := hx.next hb2
      have hx3 := hx2.kept2 hg (hx2.far (fun k hk => .inl (hvl k hk).2))
      exact (hx3.low (by omega)).kept hset (by omega)
    · rw [if_neg e, if_neg e]
      exact ((h2.lists i (by omega)).kept2 hg (h2.far i (by omega))).kept hset (by omega)
  · by_cases e : i = n
    · rw [if_pos e, if_pos e]
      have hx2 := hx.next hb2
      refine hx2.far (fun k hk => ?_)
      rcases hl with hl | hl
      · exact .inl (hvl k (hl ▸ hk)).2
      · exact .inr (hl k hk)
    · rw [if_neg e, if_neg e]
      rcases hl with hl | hl
      · rw [hl]; exact h2.far i (by omega)
      · exact (h2.lists i (by omega)).far (fun k hk => .inr (hl k hk))
end Go.Proofs.YtmafopckplpajaaGreatDoor

/-
  DrawPlaces: twelve numbers in 0 .. 9999.
-/
namespace Go.Proofs.YtmafopckplpajaaGreatDoor
open Go.RowKit

theorem big_no (a : Option Addr) (len cap : Nat) (hl : len ≤ 1048576) (w : World) :
    Calls Tryz.prog 9 #[.slice a len cap] w fun e w' => e = .returned (.bool false) ∧ w' = w := by
  have hd : decide ((1048576 : Int) < (len : Int)) = false := by simp; omega
  go_enter Tryz.func9, Tryz.ntmps9
  go_wp2
  go_ret
  exact ⟨rfl, rfl⟩
theorem big_yes (a : Option Addr) (len cap : Nat) (hl : ¬ len ≤ 1048576) (w : World) :
    Calls Tryz.prog 9 #[.slice a len cap] w fun e w' => e = .returned (.bool true) ∧ w' = w := by
  have hd : decide ((1048576 : Int) < (len : Int)) = true := by simp; omega
  go_enter Tryz.func9, Tryz.ntmps9
  go_wp2
  go_ret
  exact ⟨rfl, rfl⟩

end Go.Proofs.YtmafopckplpajaaGreatDoor
