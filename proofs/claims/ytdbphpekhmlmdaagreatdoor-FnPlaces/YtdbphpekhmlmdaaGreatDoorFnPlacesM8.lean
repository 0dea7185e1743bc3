/-
  DrawNd · DrawA: texts of one claim, in one.
-/
import Derived.Test.YtdbphpekhmlmdaaGreatDoorFnPlacesM7
import Derived.Maps.OwnIn
import Derived.Test.YtdbphpekhmlmdaaGreatDoorFnPlacesM2
import Derived.Deep.RegionLaw
import Derived.HandedShaped
import Derived.Deep.DeepCutAuto
import Derived.Deep.DeepFit

/-
  A node that is drawn. (By drawnd.py.)
-/
namespace Go.Proofs.YtdbphpekhmlmdaaGreatDoor
open Go.RowKit
set_option linter.unusedVariables false

structure Pre (x : Nd) (id par : Int) : Prop where
  id : x.id = id
  par : x.par = par
  gr : x.gr = false
  mat : matOkB x.m0 x.m1 x.m2 x.m3 x.m4 x.m5 = true
  nv : x.nv = 0
  np : x.np = 0
  ev : x.ev = false
  wd : x.wd = 0
  nd : x.nd = 0
  pt : x.pt = ⟨0, ⟨0, 0, 0, 0⟩, ⟨0, 0, 0, 0⟩, 0, 0, 0, 0⟩
  md : 1 ≤ x.md ∧ x.md ≤ 5
  fd : 0 ≤ x.fd ∧ x.fd ≤ 255
  clip : Right x.wf x.mv x.qf x.mp
theorem right_nil (vf : Nat → Int) (pf : Nat → Int × Int) : Right vf 0 pf 0 := ⟨by omega, by omega, fun i hi => absurd hi (by omega), fun i hi => absurd hi (by omega), rfl⟩
theorem pre0 {id par md fd : Int} (hm : 1 ≤ md ∧ md ≤ 5) (hf : 0 ≤ fd ∧ fd ≤ 255) : Pre (nd0 id par md fd) id par := ⟨rfl, rfl, rfl, rfl, rfl, rfl, rfl, rfl, rfl, rfl, hm, hf, right_nil _ _⟩
theorem group_ok {x : Nd} {id par : Int} (h : Pre x id par) (hid : 1 ≤ id ∧ id ≤ 99) (hp : 0 ≤ par ∧ par ≤ 99) (hne : id ≠ par) : nodeOkB { x with gr := true } = true := by
  unfold nodeOkB
  dsimp only
  have e1 : inB x.id 1 99 = true := inB_true.2 (by rw [h.id]; exact hid)
  have e2 : inB x.par 0 99 = true := inB_true.2 (by rw [h.par]; exact hp)
  have e3 : decide (x.id = x.par) = false := decide_eq_false (by rw [h.id, h.par]; exact hne)
  have e5 : rightB x.vf x.nv x.pf x.np = true := rightB_iff.2 (by rw [h.nv, h.np]; exact right_nil _ _)
  have e6 : rightB x.wf x.mv x.qf x.mp = true := rightB_iff.2 h.clip
  have e7 : inB x.wd 0 2048 = true := inB_true.2 (by rw [h.wd]; omega)
  have e8 : dashOkB x.nd x.df = true := by unfold dashOkB; rw [h.nd]; simp
  have e9 : inB x.md 1 5 = true := inB_true.2 h.md
  have e10 : inB x.fd 0 255 = true := inB_true.2 h.fd
  rw [e1, e2, e3, h.mat, e5, e6, e7, e8, e9, e10, if_pos rfl, h.nv, h.np, h.pt, h.wd, h.nd, h.ev]
  decide
/-- A node that is no group, but for its width and dashes. -/
structure Full (x : Nd) (id par : Int) : Prop where
  id : x.id = id
  par : x.par = par
  gr : x.gr = false
  mat : matOkB x.m0 x.m1 x.m2 x.m3 x.m4 x.m5 = true
  path : Right x.vf x.nv x.pf x.np
  wd : 0 ≤ x.wd ∧ x.wd ≤ 2048
  nd : dashOkB x.nd x.df = true
  pt : paintOkB x.pt = true
  md : 1 ≤ x.md ∧ x.md ≤ 5
  fd : 0 ≤ x.fd ∧ x.fd ≤ 255
  clip : Right x.wf x.mv x.qf x.mp
theorem full_ok {x : Nd} {id par : Int} (h : Full x id par) (hid : 1 ≤ id ∧ id ≤ 99) (hp : 0 ≤ par ∧ par ≤ 99) (hne : id ≠ par) : nodeOkB x = true := by
  unfold nodeOkB
  have e1 : inB x.id 1 99 = true := inB_true.2 (by rw [h.id]; exact hid)
  have e2 : inB x.par 0 99 = true := inB_true.2 (by rw [h.par]; exact hp)
  have e3 : decide (x.id = x.par) = false := decide_eq_false (by rw [h.id, h.par]; exact hne)
  rw [e1, e2, e3, h.mat, rightB_iff.2 h.path, rightB_iff.2 h.clip, inB_true.2 h.wd, h.nd, inB_true.2 h.md, inB_true.2 h.fd, if_neg (by rw [h.gr]; decide), h.pt]
  rfl
def OneNode (w : World) (e : Ending) (w' : World) (id par : Int) : Prop := ∃ x s, e = .returned (.agg (ndC x s)) ∧ NdW w' w.heap.size x s ∧ nodeOkB x = true ∧ x.id = id ∧ x.par = par
theorem seven {w : World} {t : TypeId} {b : Nat} (h : w.heap[b]? = some (.cells #[.int .i64 1, .int .i64 1, .int .i64 1, .int .i64 2, .int .i64 3, .int .i64 4, .int .i64 5] t (0, 0))) : ∀ j, j < 7 → w.cell? ⟨b, j, none⟩ = some (.int .i64 ([1, 1, 1, 2, 3, 4, 5].getD j 0)) := by
  intro j hj
  rcases j with _ | _ | _ | _ | _ | _ | _ | j <;> first | (simp [World.cell?, h]; done) | omega
theorem five5 {w : World} {t : TypeId} {b : Nat} (h : w.heap[b]? = some (.cells #[.int .i64 255, .int .i64 255, .int .i64 255, .int .i64 128, .int .i64 0] t (0, 0))) : ∀ j, j < 5 → w.cell? ⟨b, j, none⟩ = some (.int .i64 ([255, 255, 255, 128, 0].getD j 0)) := by
  intro j hj
  rcases j with _ | _ | _ | _ | _ | j <;> first | (simp [World.cell?, h]; done) | omega
theorem seven_bd : ∀ j, j < 7 → (1 : Int) ≤ [1, 1, 1, 2, 3, 4, 5].getD j 0 ∧ [1, 1, 1, 2, 3, 4, 5].getD j 0 ≤ (5 : Int) := by
  intro j hj
  rcases j with _ | _ | _ | _ | _ | _ | _ | j <;> first | decide | omega
theorem five_bd : ∀ j, j < 5 → (0 : Int) ≤ [255, 255, 255, 128, 0].getD j 0 ∧ [255, 255, 255, 128, 0].getD j 0 ≤ (255 : Int) := by
  intro j hj
  rcases j with _ | _ | _ | _ | _ | j <;> first | decide | omega

set_option maxHeartbeats 16000000 in
set_option maxRecDepth 100000 in
theorem l15Node_any (g B : Nat) (a : Option Addr) (len cap : Nat) (id par : Int) (hid : 1 ≤ id ∧ id ≤ 99) (hp : 0 ≤ par ∧ par ≤ 99) (hne : id ≠ par) (w : World) (hl : len ≤ 1048576) (h : DS w w g B a len cap) :
    Calls Tryz.prog 83 #[.pointer (some ⟨g, 0, none⟩), .int .i64 id, .int .i64 par] w fun e w' => OneNode w e w' id par ∧ DS w w' g B a len cap := by
  have hg1 := hide (fun x (hx : Pre x id par) => group_ok hx hid hp hne)
  have hg2 := hide (fun x (hx : Full x id par) => full_ok hx hid hp hne)
  clear hid hp hne
  go_enter Tryz.func83, Tryz.ntmps83
  go_upto_region 1 with fail
  have D := hide (h.alloc (.cells ndZ 47))
  have R6 := hide (new_row w (.cells ndZ 47))
  have lw := hide (show w.heap.size ≤ w.heap.size from Nat.le_refl _)
  have lg := hide h.lt
  change Code.wp _ _ _ _ (w.alloc (.cells ndZ 47))
  generalize w.alloc (.cells ndZ 47) = W at D R6 ⊢
  obtain ⟨b6, hb6⟩ : ∃ b, Hid (b = w.heap.size) := ⟨_, rfl⟩
  rw [← unhide hb6] at R6 ⊢
  rw [show Hid (w.heap.size ≤ w.heap.size) = Hid (w.heap.size ≤ b6) by rw [unhide hb6]] at lw
  clear h hb6
  go_wp2_with fail
  go_fit (specStill_any _)
  rintro e u1 ⟨rfl, hb⟩
  replace R6 := hide (row_next hb (unhide R6))
  replace D := hide ((unhide D).calls hb)
  clear hb
  go_wp2_with fail
  have DA := hide ((unhide D).alloc (.cells #[.int .i64 1, .int .i64 1, .int .i64 1, .int .i64 2, .int .i64 3, .int .i64 4, .int .i64 5] 3))
  have RN := hide (new_row u1 (.cells #[.int .i64 1, .int .i64 1, .int .i64 1, .int .i64 2, .int .i64 3, .int .i64 4, .int .i64 5] 3))
  have RO := hide (old_row (.cells #[.int .i64 1, .int .i64 1, .int .i64 1, .int .i64 2, .int .i64 3, .int .i64 4, .int .i64 5] 3) (unhide R6))
  go_fit (pick_of g B a len cap u1.heap.size 7 (fun j => [1, 1, 1, 2, 3, 4, 5].getD j 0) (by omega) (by omega) (u1.alloc (.cells #[.int .i64 1, .int .i64 1, .int .i64 1, .int .i64 2, .int .i64 3, .int .i64 4, .int .i64 5] 3)) hl (unhide DA).lg (unhide DA).le (unhide DA).inb (unhide DA).cur (by have := unhide lg; have := (unhide D).size; omega) (by simp) (seven (unhide RN)))
  rintro e u2 ⟨x2, hx, rfl, hc, hg⟩
  have hmd := hide (seven_bd x2 hx)
  dsimp only
  generalize ([1, 1, 1, 2, 3, 4, 5] : List Int).getD x2 0 = md at hmd ⊢
  replace R6 := hide ((unhide DA).heap hg (unhide lw) (unhide RO))
  replace D := hide ((unhide DA).next hc hg)
  clear hx hc hg DA RN RO x2
  go_wp2_with fail
  have DA := hide ((unhide D).alloc (.cells #[.int .i64 255, .int .i64 255, .int .i64 255, .int .i64 128, .int .i64 0] 3))
  have RN := hide (new_row u2 (.cells #[.int .i64 255, .int .i64 255, .int .i64 255, .int .i64 128, .int .i64 0] 3))
  have RO := hide (old_row (.cells #[.int .i64 255, .int .i64 255, .int .i64 255, .int .i64 128, .int .i64 0] 3) (unhide R6))
  go_fit (pick_of g B a len cap u2.heap.size 5 (fun j => [255, 255, 255, 128, 0].getD j 0) (by omega) (by omega) (u2.alloc (.cells #[.int .i64 255, .int .i64 255, .int .i64 255, .int .i64 128, .int .i64 0] 3)) hl (unhide DA).lg (unhide DA).le (unhide DA).inb (unhide DA).cur (by have := unhide lg; have := (unhide D).size; omega) (by simp) (five5 (unhide RN)))
  rintro e u3 ⟨x3, hx, rfl, hc, hg⟩
  have hfd := hide (five_bd x3 hx)
  dsimp only
  generalize ([255, 255, 255, 128, 0] : List Int).getD x3 0 = fd at hfd ⊢
  replace R6 := hide ((unhide DA).heap hg (unhide lw) (unhide RO))
  replace D := hide ((unhide DA).next hc hg)
  clear hx hc hg DA RN RO x3
  go_upto_region 2 with (refine store_new rfl _ _ rfl _ (nd0 id par md fd) na0 rfl rfl rfl ?_)
  have N := hide (show NS w (u3.alloc (.cells (ndC (nd0 id par md fd) na0) 47)) g B a len cap b6 u3.heap.size (nd0 id par md fd) na0 from ⟨(unhide D).alloc _, ⟨ndZ, old_row _ (unhide R6), rfl⟩, new_row u3 _, ndW0 _ _ _ _ _ _, ⟨unhide lw, heap_lt (unhide R6)⟩⟩)
  have HP := hide (pre0 (id := id) (par := par) (unhide hmd) (unhide hfd))
  clear D R6 lw lg
  generalize u3.alloc (.cells (ndC (nd0 id par md fd) na0) 47) = W2 at N ⊢
  generalize u3.heap.size = b7 at N ⊢
  generalize nd0 id par md fd = x at N HP
  generalize na0 = s at N
  clear hmd hfd
  go_wp2_with fail
  go_fit (once_any (unhide N).ds hl 3 (by omega) (by omega))
  rintro e v10 ⟨o10, rfl, d, hg⟩
  replace N := hide ((unhide N).draw d.cur hg)
  clear d hg
  go_upto_if 19 with fail
  go_cut [22] (fun _ u => ∃ x s, Hid (NS w u g B a len cap b6 b7 x s) ∧ Hid (Pre x id par))
  case first =>
    cases o10 with
    | false =>
      go_wp2_with fail
      go_meet
      exact ⟨x, s, N, HP⟩
    | true =>
      go_wp2_with fail
      go_fit (l04Mat_any g B a len cap _ hl (unhide N).ds.again)
      rintro e v11 ⟨m0, m1, m2, m3, m4, m5, hm, rfl, d⟩
      replace N := hide ((unhide N).draw d.cur d.gb)
      clear d
      have hmat := hide (show matOkB m0 m1 m2 m3 m4 m5 = true by unfold matOkB; simp only [Bool.and_eq_true, inB_true]; omega)
      clear hm
      obtain ⟨M, hM⟩ : ∃ A : Array Value, Hid (#[.int .i64 m0, .int .i64 m1, .int .i64 m2, .int .i64 m3, .int .i64 m4, .int .i64 m5] = A) := ⟨_, rfl⟩
      have hms : M.size = 6 := by rw [← unhide hM]; rfl
      have hmo : M.all (·.oneCell') = true := by rw [← unhide hM]; simp [Value.oneCell']
      have hth := hide (thereC (unhide N).r7 3 6 (by rw [ndC_size]; omega))
      have hin : (Tryz.prog.info? 35).map (·.size) = some 6 := by kernel_rfl
      go_wp2_with (refine wpList_store_mid rfl 35 _ _ rfl b7 3 M rfl (by rw [← unhide hM]; rfl) (by rw [hms]; exact unhide hth) (by rw [hms]; exact hin) hmo ?_)
      go_meet
      have hN := (unhide N).own.sets (o := 3) (Nat.lt_succ_self b7) M.toList
      have hq := unhide HP
      exact ⟨{ x with m0 := m0, m1 := m1, m2 := m2, m3 := m3, m4 := m4, m5 := m5 }, s, (unhide N).puts M.toList (by rw [← unhide hM]; exact set_mat x s m0 m1 m2 m3 m4 m5) ⟨hN.v, hN.p, hN.d, hN.cv, hN.cp⟩, ⟨hq.id, hq.par, hq.gr, unhide hmat, hq.nv, hq.np, hq.ev, hq.wd, hq.nd, hq.pt, hq.md, hq.fd, hq.clip⟩⟩
  case rest =>
  clear N HP
  obtain ⟨x, s, N, HP⟩ := hcut
  go_wp2_with fail
  go_fit (once_any (unhide N).ds hl 4 (by omega) (by omega))
  rintro e v20 ⟨o20, rfl, d, hg⟩
  replace N := hide ((unhide N).draw d.cur hg)
  clear d hg
  go_upto_if 24 with fail
  go_cut [27] (fun _ u => ∃ x s, Hid (NS w u g B a len cap b6 b7 x s) ∧ Hid (Pre x id par))
  case first =>
    cases o20 with
    | false =>
      go_wp2_with fail
      go_meet
      exact ⟨x, s, N, HP⟩
    | true =>
      go_wp2_with fail
      go_fit (l06Path_any g B a len cap _ hl (unhide N).ds.again)
      rintro e v21 ⟨v1, v2, rfl, ⟨n1, n2, vf, pf, ⟨xs, ys, hop, ix, iy⟩, hR, _⟩, d⟩
      have hbs := heap_lt (unhide N).r7
      replace N := hide ((unhide N).draw d.cur d.gb)
      obtain ⟨a1, k1, a2, k2, rfl, rfl⟩ := hop.form
      have hx0 := hide (own_low hop.one (show b7 + 1 ≤ _ from hbs))
      have hy0 := hide (own_low hop.two (show b7 + 1 ≤ _ from hbs))
      replace ix := hide ix
      replace iy := hide iy
      replace hR := hide hR
      clear d hop hbs
      have q1 := cellC (unhide N).r7 29 (by rw [ndC_size]; omega)
      have q2 := cellC (unhide N).r7 30 (by rw [ndC_size]; omega)
      have z1 := frozen_of_row v21 b7 29 _ _ (unhide N).r7
      have z2 := frozen_of_row v21 b7 30 _ _ (unhide N).r7
      go_wp2_with fail
      go_meet
      clear q1 q2 z1 z2
      have hN := (unhide N).own.setc (j := 29) (v := .slice a1 n1 k1) (Nat.lt_succ_self b7)
      have hx := own_setc (j := 29) (u := .slice a1 n1 k1) (unhide hx0) (Nat.lt_succ_self b7)
      have hy := own_setc (j := 29) (u := .slice a1 n1 k1) (unhide hy0) (Nat.lt_succ_self b7)
      replace ix := unhide ix
      replace iy := unhide iy
      replace N := hide ((unhide N).put (set_wf _ _ a1 n1 k1 vf) ⟨hN.v, hN.p, hN.d, ⟨xs, hx, ix⟩, hN.cp⟩)
      replace hN := (unhide N).own.setc (j := 30) (v := .slice a2 n2 k2) (Nat.lt_succ_self b7)
      replace hy := own_setc (j := 30) (u := .slice a2 n2 k2) hy (Nat.lt_succ_self b7)
      replace N := hide ((unhide N).put (set_qf _ _ a2 n2 k2 pf) ⟨hN.v, hN.p, hN.d, hN.cv, ⟨ys, hy, iy⟩⟩)
      clear hN hx hy ix iy hx0 hy0
      have hq := unhide HP
      exact ⟨_, _, N, ⟨hq.id, hq.par, hq.gr, hq.mat, hq.nv, hq.np, hq.ev, hq.wd, hq.nd, hq.pt, hq.md, hq.fd, unhide hR⟩⟩
  case rest =>
  clear N HP
  obtain ⟨x, s, N, HP⟩ := hcut
  go_wp2_with fail
  go_fit (once_any (unhide N).ds hl 3 (by omega) (by omega))
  rintro e v30 ⟨o30, rfl, d, hg⟩
  replace N := hide ((unhide N).draw d.cur hg)
  clear d hg
  cases o30 with
  | true =>
    have q1 := cellC (unhide N).r7 2 (by rw [ndC_size]; omega)
    have z1 := frozen_of_row v30 b7 2 _ _ (unhide N).r7
    go_upto_region 8 with fail
    clear q1 z1
    have hN := (unhide N).own.setc (j := 2) (v := .bool true) (Nat.lt_succ_self b7)
    replace N := hide ((unhide N).put (set_gr _ _ true) ⟨hN.v, hN.p, hN.d, hN.cv, hN.cp⟩)
    clear hN
    obtain ⟨y, hy⟩ : ∃ y : Nd, Hid ({ x with gr := true } = y) := ⟨_, rfl⟩
    have hok := hide (unhide hg1 _ (unhide HP))
    have hi1 := hide (show y.id = id by rw [← unhide hy]; exact (unhide HP).id)
    have hi2 := hide (show y.par = par by rw [← unhide hy]; exact (unhide HP).par)
    rw [unhide hy] at N hok
    clear hy HP
    generalize s = t at N
    obtain ⟨C6, r6, z6⟩ := (unhide N).r6
    replace r6 := hide r6
    have hlo := hide (unhide N).lo
    go_wp2_with (first | with_reducible refine load_own rfl _ rfl b7 rfl y t 47 (unhide N).r7 ?_ | with_reducible refine wpList_store_row rfl 47 _ _ rfl b6 (ndC y t) rfl rfl 47 _ (unhide r6) (ndC_info y t) (z6.trans (ndC_size y t).symm) (ndC_one y t) ?_)
    have r6' := hide (setRow_heap _ _ _ (ndC y t) _ _ (unhide r6))
    refine bodyPost_ret (v := .agg (ndC y t)) (results_cell_row rfl _ _ b6 47 _ (0, 0) _ rfl (unhide r6') Tryz.underlying47 rfl (ndC_info y t)) rfl ?_
    exact ⟨⟨y, t, rfl, (((unhide N).own.kept (setRow_grown _ b6 _) (by have := unhide hlo; omega)).low (by have := unhide hlo; omega)), unhide hok, unhide hi1, unhide hi2⟩, (unhide N).ds.setRow (unhide hlo).1⟩
  | false =>
  go_wp2_with fail
  go_fit (l06Path_any g B a len cap _ hl (unhide N).ds.again)
  rintro e v40 ⟨v1, v2, rfl, ⟨n1, n2, vf, pf, ⟨xs, ys, hop, ix, iy⟩, hR, _⟩, d⟩
  have hbs := heap_lt (unhide N).r7
  replace N := hide ((unhide N).draw d.cur d.gb)
  obtain ⟨a1, k1, a2, k2, rfl, rfl⟩ := hop.form
  have hx0 := hide (own_low hop.one (show b7 + 1 ≤ _ from hbs))
  have hy0 := hide (own_low hop.two (show b7 + 1 ≤ _ from hbs))
  replace ix := hide ix
  replace iy := hide iy
  replace hR := hide hR
  clear d hop hbs
  have q1 := cellC (unhide N).r7 9 (by rw [ndC_size]; omega)
  have q2 := cellC (unhide N).r7 10 (by rw [ndC_size]; omega)
  have z1 := frozen_of_row v40 b7 9 _ _ (unhide N).r7
  have z2 := frozen_of_row v40 b7 10 _ _ (unhide N).r7
  go_upto_region 10 with fail
  clear q1 q2 z1 z2
  have hN := (unhide N).own.setc (j := 9) (v := .slice a1 n1 k1) (Nat.lt_succ_self b7)
  have hx := own_setc (j := 9) (u := .slice a1 n1 k1) (unhide hx0) (Nat.lt_succ_self b7)
  have hy := own_setc (j := 9) (u := .slice a1 n1 k1) (unhide hy0) (Nat.lt_succ_self b7)
  replace ix := unhide ix
  replace iy := unhide iy
  replace N := hide ((unhide N).put (set_vf _ _ a1 n1 k1 vf) ⟨⟨xs, hx, ix⟩, hN.p, hN.d, hN.cv, hN.cp⟩)
  replace hN := (unhide N).own.setc (j := 10) (v := .slice a2 n2 k2) (Nat.lt_succ_self b7)
  replace hy := own_setc (j := 10) (u := .slice a2 n2 k2) hy (Nat.lt_succ_self b7)
  replace N := hide ((unhide N).put (set_pf _ _ a2 n2 k2 pf) ⟨hN.v, ⟨ys, hy, iy⟩, hN.d, hN.cv, hN.cp⟩)
  clear hN hx hy ix iy hx0 hy0
  obtain ⟨y, hy⟩ : ∃ y : Nd, Hid ({ x with nv := n1, vf := vf, np := n2, pf := pf } = y) := ⟨_, rfl⟩
  have HF := hide (show y.id = id ∧ y.par = par ∧ y.gr = false ∧ matOkB y.m0 y.m1 y.m2 y.m3 y.m4 y.m5 = true ∧ Right y.vf y.nv y.pf y.np ∧ y.wd = 0 ∧ y.nd = 0 ∧ (1 ≤ y.md ∧ y.md ≤ 5) ∧ (0 ≤ y.fd ∧ y.fd ≤ 255) ∧ Right y.wf y.mv y.qf y.mp by
    have hq := unhide HP
    rw [← unhide hy]
    exact ⟨hq.id, hq.par, hq.gr, hq.mat, unhide hR, hq.wd, hq.nd, hq.md, hq.fd, hq.clip⟩)
  change Hid (NS _ _ _ _ _ _ _ _ _ { x with nv := n1, vf := vf, np := n2, pf := pf } _) at N
  rw [unhide hy] at N
  clear hy HP hR
  generalize (v40.setCell ⟨b7, 9, none⟩ (.slice a1 n1 k1)).setCell ⟨b7, 10, none⟩ (.slice a2 n2 k2) = W4 at N ⊢
  generalize ({ s with av := a1, cv := k1, ap := a2, cp := k2 } : Na) = t at N
  go_wp2_with fail
  go_fit (once_any (unhide N).ds hl 3 (by omega) (by omega))
  rintro e v50 ⟨o50, rfl, d, hg⟩
  replace N := hide ((unhide N).draw d.cur hg)
  clear d hg
  have q1 := cellC (unhide N).r7 11 (by rw [ndC_size]; omega)
  have z1 := frozen_of_row v50 b7 11 _ _ (unhide N).r7
  go_upto_region 11 with fail
  clear q1 z1
  have hN := (unhide N).own.setc (j := 11) (v := .bool o50) (Nat.lt_succ_self b7)
  replace N := hide ((unhide N).put (set_ev _ _ o50) ⟨hN.v, hN.p, hN.d, hN.cv, hN.cp⟩)
  clear hN
  go_wp2_with fail
  go_fit (l12Paint_any g B a len cap _ hl (unhide N).ds.again)
  rintro e v60 ⟨⟨k, r, g3, b, a3, r2, g2, b2, a2, fx, fy, tx, ty, rfl, hpt, _⟩, d⟩
  replace N := hide ((unhide N).draw d.cur d.gb)
  replace hpt := hide hpt
  clear d
  obtain ⟨M, hM⟩ : ∃ A : Array Value, Hid (#[.int .i64 k, .int .i64 r, .int .i64 g3, .int .i64 b, .int .i64 a3, .int .i64 r2, .int .i64 g2, .int .i64 b2, .int .i64 a2, .int .i64 fx, .int .i64 fy, .int .i64 tx, .int .i64 ty] = A) := ⟨_, rfl⟩
  have hms : M.size = 13 := by rw [← unhide hM]; rfl
  have hmo : M.all (·.oneCell') = true := by rw [← unhide hM]; simp [Value.oneCell']
  have hth := hide (thereC (unhide N).r7 14 13 (by rw [ndC_size]; omega))
  have hin : (Tryz.prog.info? 45).map (·.size) = some 13 := by kernel_rfl
  go_upto_region 12 with (refine wpList_store_mid rfl 45 _ _ rfl b7 14 M rfl (by rw [← unhide hM]; rfl) (by rw [hms]; exact unhide hth) (by rw [hms]; exact hin) hmo ?_)
  have hN := (unhide N).own.sets (o := 14) (Nat.lt_succ_self b7) M.toList
  replace N := hide ((unhide N).puts M.toList (x' := { y with ev := o50, pt := ⟨k, ⟨r, g3, b, a3⟩, ⟨r2, g2, b2, a2⟩, fx, fy, tx, ty⟩ }) (s' := t) (by rw [← unhide hM]; exact set_paint _ _ k r g3 b a3 r2 g2 b2 a2 fx fy tx ty) ⟨hN.v, hN.p, hN.d, hN.cv, hN.cp⟩)
  have HU := hide (show Full { y with ev := o50, pt := ⟨k, ⟨r, g3, b, a3⟩, ⟨r2, g2, b2, a2⟩, fx, fy, tx, ty⟩ } id par from ⟨(unhide HF).1, (unhide HF).2.1, (unhide HF).2.2.1, (unhide HF).2.2.2.1, (unhide HF).2.2.2.2.1, by show 0 ≤ y.wd ∧ y.wd ≤ 2048; rw [(unhide HF).2.2.2.2.2.1]; omega, by show dashOkB y.nd y.df = true; unfold dashOkB; rw [(unhide HF).2.2.2.2.2.2.1]; simp, unhide hpt, (unhide HF).2.2.2.2.2.2.2.1, (unhide HF).2.2.2.2.2.2.2.2.1, (unhide HF).2.2.2.2.2.2.2.2.2⟩)
  clear hN hms hmo hth hin hM HF hpt
  generalize v60.setCells b7 14 M.toList = W6 at N ⊢
  generalize ({ y with ev := o50, pt := ⟨k, ⟨r, g3, b, a3⟩, ⟨r2, g2, b2, a2⟩, fx, fy, tx, ty⟩ } : Nd) = z at N HU
  clear x s
  generalize t = s at N
  go_wp2_with fail
  go_fit (once_any (unhide N).ds hl 3 (by omega) (by omega))
  rintro e v70 ⟨o70, rfl, d, hg⟩
  replace N := hide ((unhide N).draw d.cur hg)
  clear d hg
  go_upto_if 42 with fail
  go_cut [45] (fun _ u => ∃ y s, Hid (NS w u g B a len cap b6 b7 y s) ∧ Hid (Full y id par))
  case first =>
    cases o70 with
    | false =>
      go_wp2_with fail
      go_meet
      exact ⟨z, s, N, HU⟩
    | true =>
      go_wp2_with fail
      go_fit (l01Below_any g B a len cap 600 (by omega) (by omega) _ hl (unhide N).ds.lg (unhide N).ds.le (unhide N).ds.inb (unhide N).ds.cur)
      rintro e v71 ⟨x1, hx1, rfl, hc, hg⟩
      replace N := hide ((unhide N).draw hc hg)
      clear hc hg
      have hw1 : IntKind.i64.wrap (1 + (x1 : Int)) = 1 + (x1 : Int) := IntWalk.i64_in _ (by omega)
      have q1 := cellC (unhide N).r7 12 (by rw [ndC_size]; omega)
      have z1 := frozen_of_row v71 b7 12 _ _ (unhide N).r7
      go_upto_region 14 with fail
      clear q1 z1 hw1
      have hN := (unhide N).own.setc (j := 12) (v := .int .i64 (1 + (x1 : Int))) (Nat.lt_succ_self b7)
      replace N := hide ((unhide N).put (set_wd _ _ (1 + (x1 : Int))) ⟨hN.v, hN.p, hN.d, hN.cv, hN.cp⟩)
      clear hN
      have HU2 := hide (show Full { z with wd := 1 + (x1 : Int) } id par from let h := unhide HU; ⟨h.id, h.par, h.gr, h.mat, h.path, ⟨by show 0 ≤ 1 + (x1 : Int); omega, by show 1 + (x1 : Int) ≤ 2048; omega⟩, h.nd, h.pt, h.md, h.fd, h.clip⟩)
      generalize ({ z with wd := 1 + (x1 : Int) } : Nd) = z2 at N HU2
      generalize v71.setCell ⟨b7, 12, none⟩ (.int .i64 (1 + (x1 : Int))) = W7 at N ⊢
      clear HU hx1
      go_wp2_with fail
      go_fit (once_any (unhide N).ds hl 2 (by omega) (by omega))
      rintro e v72 ⟨o72, rfl, d, hg⟩
      replace N := hide ((unhide N).draw d.cur hg)
      clear d hg
      cases o72 with
      | false =>
        go_wp2_with fail
        go_meet
        exact ⟨z2, s, N, HU2⟩
      | true =>
        go_wp2_with fail
        go_fit (l01Below_any g B a len cap 500 (by omega) (by omega) _ hl (unhide N).ds.lg (unhide N).ds.le (unhide N).ds.inb (unhide N).ds.cur)
        rintro e v73 ⟨y1, hy1, rfl, hc, hg⟩
        replace N := hide ((unhide N).draw hc hg)
        clear hc hg
        have hw1 : IntKind.i64.wrap (100 + (y1 : Int)) = 100 + (y1 : Int) := IntWalk.i64_in _ (by omega)
        go_wp2_with fail
        go_fit (l01Below_any g B a len cap 500 (by omega) (by omega) _ hl (unhide N).ds.lg (unhide N).ds.le (unhide N).ds.inb (unhide N).ds.cur)
        rintro e v74 ⟨y2, hy2, rfl, hc, hg⟩
        replace N := hide ((unhide N).draw hc hg)
        clear hc hg
        have hw2 : IntKind.i64.wrap (50 + (y2 : Int)) = 50 + (y2 : Int) := IntWalk.i64_in _ (by omega)
        have NA := hide ((unhide N).calls (al1_below v74 (.cells #[.int .i64 (100 + (y1 : Int)), .int .i64 (50 + (y2 : Int))] 3)))
        have hbs := hide (heap_lt (unhide N).r7)
        have hown := hide (World.ownsRow_lit (base := b7 + 1) (e := 3) (size := 1) v74 #[.int .i64 (100 + (y1 : Int)), .int .i64 (50 + (y2 : Int))] 2 (unhide hbs) (by decide) rfl)
        have q1 := cellC (unhide NA).r7 13 (by rw [ndC_size]; omega)
        have z1 := frozen_of_row _ b7 13 _ _ (unhide NA).r7
        have n1 : ¬ b7 = v74.heap.size := by have := unhide hbs; omega
        have n2 : ¬ v74.heap.size = b7 := by have := unhide hbs; omega
        go_wp2_with fail
        go_meet
        have hN := (unhide NA).own.setc (j := 13) (v := .slice (some ⟨v74.heap.size, 0, none⟩) 2 2) (Nat.lt_succ_self b7)
        have ho := own_setc (j := 13) (u := .slice (some ⟨v74.heap.size, 0, none⟩) 2 2) (unhide hown) (Nat.lt_succ_self b7)
        have hq := unhide HU2
        refine ⟨_, _, (unhide NA).put (set_ds z2 s (some ⟨v74.heap.size, 0, none⟩) 2 2 (fun j => if j = 0 then 100 + (y1 : Int) else 50 + (y2 : Int))) ⟨hN.v, hN.p, ⟨_, ho, fun j hj => ?_⟩, hN.cv, hN.cp⟩, ⟨hq.id, hq.par, hq.gr, hq.mat, hq.path, hq.wd, ?_, hq.pt, hq.md, hq.fd, hq.clip⟩⟩
        · change j < 2 at hj
          rcases j with _ | _ | j
          · rfl
          · rfl
          · omega
        · show dashOkB 2 (fun j => if j = 0 then 100 + (y1 : Int) else 50 + (y2 : Int)) = true
          unfold dashOkB
          refine decide_eq_true ⟨by omega, by omega, fun i hi => ?_⟩
          by_cases e : i = 0 <;> simp only [e, if_true, if_false] <;> omega
  case rest =>
  clear N HU
  obtain ⟨y, t, N, HU⟩ := hcut
  have hok := hide (unhide hg2 _ (unhide HU))
  have hi1 := hide (unhide HU).id
  have hi2 := hide (unhide HU).par
  obtain ⟨C6, r6, z6⟩ := (unhide N).r6
  replace r6 := hide r6
  have hlo := hide (unhide N).lo
  go_wp2_with (first | with_reducible refine load_own rfl _ rfl b7 rfl y t 47 (unhide N).r7 ?_ | with_reducible refine wpList_store_row rfl 47 _ _ rfl b6 (ndC y t) rfl rfl 47 _ (unhide r6) (ndC_info y t) (z6.trans (ndC_size y t).symm) (ndC_one y t) ?_)
  have r6' := hide (setRow_heap _ _ _ (ndC y t) _ _ (unhide r6))
  refine bodyPost_ret (v := .agg (ndC y t)) (results_cell_row rfl _ _ b6 47 _ (0, 0) _ rfl (unhide r6') Tryz.underlying47 rfl (ndC_info y t)) rfl ?_
  exact ⟨⟨y, t, rfl, (((unhide N).own.kept (setRow_grown _ b6 _) (by have := unhide hlo; omega)).low (by have := unhide hlo; omega)), unhide hok, unhide hi1, unhide hi2⟩, (unhide N).ds.setRow (unhide hlo).1⟩
end Go.Proofs.YtdbphpekhmlmdaaGreatDoor

/-
  Drawn points and paths of any kind.
-/
namespace Go.Proofs.YtdbphpekhmlmdaaGreatDoor
open Go.RowKit
set_option linter.unusedVariables false

theorem any_lit (w : World) (L : List Int) (t : TypeId) : ∀ j, j < L.length → ∃ z, True ∧ (w.alloc (.cells (L.map (fun z => Value.int .i64 z)).toArray t)).cell? ⟨w.heap.size, j, none⟩ = some (.int .i64 z) := fun j hj => by
  refine ⟨L[j], trivial, ?_⟩
  rw [World.cell?_alloc_mark w _ t (0, 0) j]
  simp [hj]

set_option maxHeartbeats 4000000 in
set_option maxRecDepth 100000 in
theorem l04AnyPoint_any (g B : Nat) (a : Option Addr) (len cap : Nat) (w : World) (hl : len ≤ 1048576) (h : DS w w g B a len cap) :
    Calls Tryz.prog 121 #[.pointer (some ⟨g, 0, none⟩)] w fun e w' => ∃ x y : Int, e = .returned (.agg #[.int .i64 x, .int .i64 y]) ∧ DS w w' g B a len cap := by
  have D := hide h
  clear h
  go_enter Tryz.func121, Tryz.ntmps121
  go_wp2_with fail
  obtain ⟨W, hW⟩ : ∃ W, W = w.alloc (.cells #[.int .i64 0, .int .i64 0] 43) := ⟨_, rfl⟩
  have R := hide (show W.heap[w.heap.size]? = some (.cells #[.int .i64 0, .int .i64 0] 43 (0, 0)) by rw [hW]; exact new_row _ _)
  replace D := hide (show DS w W g B a len cap by rw [hW]; exact (unhide D).alloc _)
  rw [← hW]
  clear hW
  refine (l04Point_any g B a len cap _ hl (unhide D).again).mono ?_
  rintro e w1 ⟨x, y, _, _, rfl, d1⟩
  replace R := hide ((unhide D).heap d1.gb (Nat.le_refl _) (unhide R))
  replace D := hide ((unhide D).next d1.cur d1.gb)
  clear d1
  have lp := hide (show w.heap.size < w1.heap.size from heap_lt (unhide R))
  go_wp2_with fail
  obtain ⟨W1, hW⟩ : ∃ W, W = w1.alloc (.cells #[.int .i64 x, .int .i64 y] 43) := ⟨_, rfl⟩
  have P := hide (show W1.heap[w1.heap.size]? = some (.cells #[.int .i64 x, .int .i64 y] 43 (0, 0)) by rw [hW]; exact new_row _ _)
  replace R := hide (show W1.heap[w.heap.size]? = some (.cells #[.int .i64 0, .int .i64 0] 43 (0, 0)) by rw [hW]; exact old_row _ (unhide R))
  replace D := hide (show DS w W1 g B a len cap by rw [hW]; exact (unhide D).alloc _)
  rw [← hW]
  clear hW
  refine (once_ds (unhide D) hl 12 (by omega) (by omega)).mono ?_
  rintro e u1 ⟨b1, rfl, d1, g1⟩
  replace R := hide ((unhide D).heap g1 (Nat.le_refl _) (unhide R))
  replace P := hide ((unhide D).heap g1 (Nat.le_of_lt (unhide lp)) (unhide P))
  replace D := hide d1
  clear d1 g1
  cases b1 with
  | false =>
    go_wp2_with fail
    refine (once_ds (unhide D) hl 16 (by omega) (by omega)).mono ?_
    rintro e u2 ⟨b2, rfl, d1, g1⟩
    replace R := hide ((unhide D).heap g1 (Nat.le_refl _) (unhide R))
    replace P := hide ((unhide D).heap g1 (Nat.le_of_lt (unhide lp)) (unhide P))
    replace D := hide d1
    clear d1 g1
    cases b2 with
    | false =>
      obtain ⟨q0, q1⟩ := row2 (unhide P)
      obtain ⟨r0, r1⟩ := row2 (unhide R)
      obtain ⟨f0, f1⟩ := free2 (unhide R)
      go_wp2_with fail
      refine bodyPost_ret (v := .agg #[.int .i64 x, .int .i64 y]) (by simp [results, Tryz.results121, go_sem, r0, r1]) rfl ?_
      exact ⟨_, _, rfl, ((unhide D).put _ _ (Nat.le_refl _)).put _ _ (Nat.le_refl _)⟩
    | true =>
      go_wp2_with fail
      obtain ⟨V2, hV⟩ : ∃ V, V = u2.alloc (.cells #[.int .i64 (-8388608), .int .i64 8388608, .int .i64 8388609] 3) := ⟨_, rfl⟩
      have hrow := hide (show ∀ j, j < 3 → ∃ z, True ∧ V2.cell? ⟨u2.heap.size, j, none⟩ = some (.int .i64 z) by rw [hV]; exact any_lit u2 [(-8388608), 8388608, 8388609] 3)
      have hlt := hide (show u2.heap.size < V2.heap.size by rw [hV]; exact new_lt _ _)
      have hle := hide (show w.heap.size ≤ u2.heap.size from (unhide D).size)
      replace R := hide (show V2.heap[w.heap.size]? = some (.cells #[.int .i64 0, .int .i64 0] 43 (0, 0)) by rw [hV]; exact old_row _ (unhide R))
      replace P := hide (show V2.heap[w1.heap.size]? = some (.cells #[.int .i64 x, .int .i64 y] 43 (0, 0)) by rw [hV]; exact old_row _ (unhide P))
      replace D := hide (show DS w V2 g B a len cap by rw [hV]; exact (unhide D).alloc _)
      rw [← hV]
      clear hV
      refine (pick_ds (fun _ => True) (unhide D) hl u2.heap.size 3 (by omega) (by omega) (unhide hle) (unhide hlt) (unhide hrow)).mono ?_
      rintro e t2 ⟨z2, _, rfl, d1, g1⟩
      clear hrow hlt hle
      replace R := hide ((unhide D).heap g1 (Nat.le_refl _) (unhide R))
      replace P := hide ((unhide D).heap g1 (Nat.le_of_lt (unhide lp)) (unhide P))
      replace D := hide d1
      clear d1 g1
      obtain ⟨q0, q1⟩ := row2 (unhide P)
      obtain ⟨f0, f1⟩ := free2 (unhide P)
      go_upto_region 6 with fail
      obtain ⟨X2, hX⟩ : ∃ X, X = t2.setCell ⟨w1.heap.size, 1, none⟩ (.int .i64 z2) := ⟨_, rfl⟩
      replace P := hide (show X2.heap[w1.heap.size]? = some (.cells #[.int .i64 x, .int .i64 z2] 43 (0, 0)) by rw [hX]; exact set2_1 (unhide P))
      replace R := hide (show X2.heap[w.heap.size]? = some (.cells #[.int .i64 0, .int .i64 0] 43 (0, 0)) by rw [hX]; exact setc_other (Nat.ne_of_lt (unhide lp)) (unhide R))
      replace D := hide (show DS w X2 g B a len cap by rw [hX]; exact (unhide D).put _ _ (Nat.le_of_lt (unhide lp)))
      rw [← hX]
      clear hX q0 q1 f0 f1
      obtain ⟨q0, q1⟩ := row2 (unhide P)
      obtain ⟨r0, r1⟩ := row2 (unhide R)
      obtain ⟨f0, f1⟩ := free2 (unhide R)
      go_wp2_with fail
      refine bodyPost_ret (v := .agg #[.int .i64 x, .int .i64 z2]) (by simp [results, Tryz.results121, go_sem, r0, r1]) rfl ?_
      exact ⟨_, _, rfl, ((unhide D).put _ _ (Nat.le_refl _)).put _ _ (Nat.le_refl _)⟩
  | true =>
    go_wp2_with fail
    obtain ⟨V1, hV⟩ : ∃ V, V = u1.alloc (.cells #[.int .i64 (-8388608), .int .i64 8388608, .int .i64 8388609, .int .i64 (-8388609), .int .i64 9223372036854775807, .int .i64 (-9223372036854775808)] 3) := ⟨_, rfl⟩
    have hrow := hide (show ∀ j, j < 6 → ∃ z, True ∧ V1.cell? ⟨u1.heap.size, j, none⟩ = some (.int .i64 z) by rw [hV]; exact any_lit u1 [(-8388608), 8388608, 8388609, (-8388609), 9223372036854775807, (-9223372036854775808)] 3)
    have hlt := hide (show u1.heap.size < V1.heap.size by rw [hV]; exact new_lt _ _)
    have hle := hide (show w.heap.size ≤ u1.heap.size from (unhide D).size)
    replace R := hide (show V1.heap[w.heap.size]? = some (.cells #[.int .i64 0, .int .i64 0] 43 (0, 0)) by rw [hV]; exact old_row _ (unhide R))
    replace P := hide (show V1.heap[w1.heap.size]? = some (.cells #[.int .i64 x, .int .i64 y] 43 (0, 0)) by rw [hV]; exact old_row _ (unhide P))
    replace D := hide (show DS w V1 g B a len cap by rw [hV]; exact (unhide D).alloc _)
    rw [← hV]
    clear hV
    refine (pick_ds (fun _ => True) (unhide D) hl u1.heap.size 6 (by omega) (by omega) (unhide hle) (unhide hlt) (unhide hrow)).mono ?_
    rintro e t1 ⟨z, _, rfl, d1, g1⟩
    clear hrow hlt hle
    replace R := hide ((unhide D).heap g1 (Nat.le_refl _) (unhide R))
    replace P := hide ((unhide D).heap g1 (Nat.le_of_lt (unhide lp)) (unhide P))
    replace D := hide d1
    clear d1 g1
    obtain ⟨q0, q1⟩ := row2 (unhide P)
    obtain ⟨f0, f1⟩ := free2 (unhide P)
    go_wp2_with fail
    obtain ⟨X1, hX⟩ : ∃ X, X = t1.setCell ⟨w1.heap.size, 0, none⟩ (.int .i64 z) := ⟨_, rfl⟩
    replace P := hide (show X1.heap[w1.heap.size]? = some (.cells #[.int .i64 z, .int .i64 y] 43 (0, 0)) by rw [hX]; exact set2_0 (unhide P))
    replace R := hide (show X1.heap[w.heap.size]? = some (.cells #[.int .i64 0, .int .i64 0] 43 (0, 0)) by rw [hX]; exact setc_other (Nat.ne_of_lt (unhide lp)) (unhide R))
    replace D := hide (show DS w X1 g B a len cap by rw [hX]; exact (unhide D).put _ _ (Nat.le_of_lt (unhide lp)))
    rw [← hX]
    clear hX q0 q1 f0 f1
    refine (once_ds (unhide D) hl 16 (by omega) (by omega)).mono ?_
    rintro e u2 ⟨b2, rfl, d1, g1⟩
    replace R := hide ((unhide D).heap g1 (Nat.le_refl _) (unhide R))
    replace P := hide ((unhide D).heap g1 (Nat.le_of_lt (unhide lp)) (unhide P))
    replace D := hide d1
    clear d1 g1
    cases b2 with
    | false =>
      obtain ⟨q0, q1⟩ := row2 (unhide P)
      obtain ⟨r0, r1⟩ := row2 (unhide R)
      obtain ⟨f0, f1⟩ := free2 (unhide R)
      go_wp2_with fail
      refine bodyPost_ret (v := .agg #[.int .i64 z, .int .i64 y]) (by simp [results, Tryz.results121, go_sem, r0, r1]) rfl ?_
      exact ⟨_, _, rfl, ((unhide D).put _ _ (Nat.le_refl _)).put _ _ (Nat.le_refl _)⟩
    | true =>
      go_wp2_with fail
      obtain ⟨V2, hV⟩ : ∃ V, V = u2.alloc (.cells #[.int .i64 (-8388608), .int .i64 8388608, .int .i64 8388609] 3) := ⟨_, rfl⟩
      have hrow := hide (show ∀ j, j < 3 → ∃ z, True ∧ V2.cell? ⟨u2.heap.size, j, none⟩ = some (.int .i64 z) by rw [hV]; exact any_lit u2 [(-8388608), 8388608, 8388609] 3)
      have hlt := hide (show u2.heap.size < V2.heap.size by rw [hV]; exact new_lt _ _)
      have hle := hide (show w.heap.size ≤ u2.heap.size from (unhide D).size)
      replace R := hide (show V2.heap[w.heap.size]? = some (.cells #[.int .i64 0, .int .i64 0] 43 (0, 0)) by rw [hV]; exact old_row _ (unhide R))
      replace P := hide (show V2.heap[w1.heap.size]? = some (.cells #[.int .i64 z, .int .i64 y] 43 (0, 0)) by rw [hV]; exact old_row _ (unhide P))
      replace D := hide (show DS w V2 g B a len cap by rw [hV]; exact (unhide D).alloc _)
      rw [← hV]
      clear hV
      refine (pick_ds (fun _ => True) (unhide D) hl u2.heap.size 3 (by omega) (by omega) (unhide hle) (unhide hlt) (unhide hrow)).mono ?_
      rintro e t2 ⟨z2, _, rfl, d1, g1⟩
      clear hrow hlt hle
      replace R := hide ((unhide D).heap g1 (Nat.le_refl _) (unhide R))
      replace P := hide ((unhide D).heap g1 (Nat.le_of_lt (unhide lp)) (unhide P))
      replace D := hide d1
      clear d1 g1
      obtain ⟨q0, q1⟩ := row2 (unhide P)
      obtain ⟨f0, f1⟩ := free2 (unhide P)
      go_upto_region 6 with fail
      obtain ⟨X2, hX⟩ : ∃ X, X = t2.setCell ⟨w1.heap.size, 1, none⟩ (.int .i64 z2) := ⟨_, rfl⟩
      replace P := hide (show X2.heap[w1.heap.size]? = some (.cells #[.int .i64 z, .int .i64 z2] 43 (0, 0)) by rw [hX]; exact set2_1 (unhide P))
      replace R := hide (show X2.heap[w.heap.size]? = some (.cells #[.int .i64 0, .int .i64 0] 43 (0, 0)) by rw [hX]; exact setc_other (Nat.ne_of_lt (unhide lp)) (unhide R))
      replace D := hide (show DS w X2 g B a len cap by rw [hX]; exact (unhide D).put _ _ (Nat.le_of_lt (unhide lp)))
      rw [← hX]
      clear hX q0 q1 f0 f1
      obtain ⟨q0, q1⟩ := row2 (unhide P)
      obtain ⟨r0, r1⟩ := row2 (unhide R)
      obtain ⟨f0, f1⟩ := free2 (unhide R)
      go_wp2_with fail
      refine bodyPost_ret (v := .agg #[.int .i64 z, .int .i64 z2]) (by simp [results, Tryz.results121, go_sem, r0, r1]) rfl ?_
      exact ⟨_, _, rfl, ((unhide D).put _ _ (Nat.le_refl _)).put _ _ (Nat.le_refl _)⟩

def AnyI (u : World) (a : Option Addr) (n : Nat) : Prop := ∀ i, i < n → ∃ z, IntAt u a i z
def AnyPt (u : World) (b : Option Addr) (m : Nat) : Prop := ∀ i, i < m → ∃ p, PtArg u b i p
def AnyP (v1 v2 : Value) (u : World) : Prop := ∃ a n c b m d, v1 = .slice a n c ∧ v2 = .slice b m d ∧ n ≤ 24 ∧ m ≤ 24 ∧ m ≤ d ∧ AnyI u a n ∧ AnyPt u b m
theorem own_news {u : World} {base e size g n cap : Nat} {xs : List Value} (h : u.ownsRow base e size (.slice (some ⟨g, 0, none⟩) n cap) n xs) : ∀ j v, xs[j]? = some v → u.cell? ((⟨g, 0, none⟩ : Addr).add j) = some v := by
  intro j v hj
  have hadd : (⟨g, 0, none⟩ : Addr).add j = ⟨g, j, none⟩ := by unfold Addr.add; split <;> simp_all
  have hl : j < n * size := by rw [← h.1]; exact (List.getElem?_eq_some_iff.1 hj).1
  rw [hadd, h.cellAt j hl, hj]
theorem ix_one {xs : List Value} {vf : Nat → Int} {n : Nat} (hl : xs.length = n * 1) (h : IxAt xs vf n) : ∀ u ∈ xs, u.oneCell' = true := by
  intro u hu
  obtain ⟨j, hj, rfl⟩ := List.mem_iff_getElem.1 hu
  have h0 := h j (by omega)
  rw [List.getElem?_eq_getElem hj] at h0
  injection h0 with h0; rw [h0]; rfl
theorem px_one {ys : List Value} {pf : Nat → Int × Int} {m : Nat} (hl : ys.length = m * 2) (h : PxAt ys pf m) : ∀ u ∈ ys, u.oneCell' = true := by
  intro u hu
  obtain ⟨j, hj, rfl⟩ := List.mem_iff_getElem.1 hu
  obtain ⟨h0, h1⟩ := h (j / 2) (by omega)
  rcases Nat.mod_two_eq_zero_or_one j with e | e
  · rw [show j / 2 * 2 = j by omega, List.getElem?_eq_getElem hj] at h0
    injection h0 with h0; rw [h0]; rfl
  · rw [show j / 2 * 2 + 1 = j by omega, List.getElem?_eq_getElem hj] at h1
    injection h1 with h1; rw [h1]; rfl
theorem step_append_bl {P : Program} {ops : Array Oper} {o : Oper} {a : Act} {w W0 : World} {K : Act → World → Prop} {Q : Exit → Act → World → Prop} {E : Prop} (hg : o.guard = none) (s x : Operand) (t e : TypeId)
    (hop : o.op = .call { callee := .builtin .append, args := #[s, x], argTypes := #[t, t] })
    (i : TypeInfo) (z : Value) (size bytes : Nat) (ht : P.underlying t = some (.slice e)) (hi : P.info? e = some i) (hz : i.zero = some z) (hsize : i.size = size) (hby : i.bytes = bytes) (hzs : z.cells.size = size) (hsz : 0 < size)
    (v : Value) (hs : a.eval s = v) (hown : w.ownsRow W0.heap.size e size v 0 [])
    (ad : Addr) (m c : Nat) (news : List Value) (hx : a.eval x = .slice (some ad) m c) (hl : news.length = m * size) (hnews : ∀ j u, news[j]? = some u → w.cell? (ad.add j) = some u) (h1 : ∀ u ∈ news, u.oneCell' = true)
    (h63 : m ≤ maxLen) (hbytes : m * bytes ≤ 140737488355328) (hb : Below W0.heap.size W0 w)
    (hK : ∀ v' w', w'.ownsRow W0.heap.size e size v' m news → w.grownBy w' v.ownBlock → Below W0.heap.size W0 w' → (∀ (b' e' s' n' : Nat) (x' : Value) (xs' : List Value), w.ownsRow b' e' s' x' n' xs' → e' ≠ e → w'.ownsRow b' e' s' x' n' xs') → K (a.put o.dst v') w') :
    if Region.wanted o (yielded ops a.tmps) = true then Oper.wp P o a w K Q else E := by
  refine step_append_gr hg s x t e hop W0.heap.size i z size bytes ht hi hz hsize hby hzs hsz v 0 [] hs hown ad m c news hx hl hnews h1 (by omega) (by rw [Nat.zero_add]; exact hbytes) hb.size ?_
  intro v' w' ho hg'
  rw [Nat.zero_add, List.nil_append] at ho
  exact hK v' w' ho hg' (hb.grown hg' hb.size (fun k hk => (hown.lt k hk).1)) (fun b' e' s' n' x' xs' h1 h2 => h1.kept hg' (rows_apart h1 hown h2))
theorem own_any {u : World} {base e size b : Nat} (h : u.heap[b]? = some (.cells #[] e (0, 0))) (hb : base ≤ b) : u.ownsRow base e size (.slice (some ⟨b, 0, none⟩) 0 0) 0 [] :=
  ⟨by simp, .inr ⟨b, 0, #[], rfl, hb, h, Nat.le_refl _, by decide, by simp, by simp⟩⟩
theorem anyI_own {u : World} {base n c : Nat} {a : Option Addr} {xs : List Value} {vf : Nat → Int} (h : u.ownsRow base 3 1 (.slice a n c) n xs) (hx : IxAt xs vf n) : AnyI u a n := fun i hi => ⟨_, own_ix h hx i hi⟩
theorem anyP_own {u : World} {base t n c : Nat} {a : Option Addr} {xs : List Value} {pf : Nat → Int × Int} (h : u.ownsRow base t 2 (.slice a n c) n xs) (hx : PxAt xs pf n) : AnyPt u a n := fun i hi => ⟨_, own_pxa h hx i hi⟩
/-- Where an int is written, ints stay. -/
theorem int_set {u : World} {p q : Addr} {z x : Int} (h : u.cell? q = some (.int .i64 x)) : ∃ y, (u.setCell p (.int .i64 z)).cell? q = some (.int .i64 y) := by
  exact someInt_setCell ⟨x, h⟩ p z
end Go.Proofs.YtdbphpekhmlmdaaGreatDoor
