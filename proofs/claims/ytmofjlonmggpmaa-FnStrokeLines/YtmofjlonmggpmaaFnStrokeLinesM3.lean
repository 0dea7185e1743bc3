/-
  TwGoes: texts of one claim, in one.
-/
import Derived.Test.YtmofjlonmggpmaaFnStrokeLinesM2

/-
  Goroutines: what they do, told without them. (Laid by glay.py.)
-/
set_option maxHeartbeats 2000000
set_option linter.all false
-- Stroke6
/-
  StrokeOf against its twin: the channel, the go statement, the receives.
-/
namespace Go.Goes
open Go.Conc
set_option linter.unusedVariables false
theorem mk_run {P : Program} {t : TypeId} {w w' : World} {v : Value} {fs : Array Event} (h : (Instr.makeChan t (.int .i64 0)).runT P w #[] = (.ok v w', fs)) : v = .chan (some w.heap.size) ∧ w'.heap = w.heap.push (.chan 0 #[] false 0 0 false) := by
  have h1 : (Instr.makeChan t (.int .i64 0)).run P w = .ok v w' := by rw [Sem.runT_eq] at h; exact (Prod.mk.inj h).1
  cases hu : P.underlying t with
  | none => simp [Instr.makeChan, asInt, asIntOf, underlying, hu, program, Sem.run, stuck, Result.andThen] at h1
  | some x =>
    cases x <;> try (simp [Instr.makeChan, asInt, asIntOf, run_underlying hu] at h1; done)
    case chan dir e =>
      cases hi : P.info? e with
      | none => simp [Instr.makeChan, asInt, asIntOf, run_underlying hu, typeInfo, hi, IntKind.max, IntKind.bits, IntKind.signed] at h1
      | some i =>
        have := run_makeChan (P := P) (w := w) hu hi .i64 0 (by decide) (by simp)
        rw [show ((0 : Nat) : Int) = 0 from rfl] at this
        rw [this] at h1
        injection h1 with e1 e2
        exact ⟨e1.symm, by rw [← e2]; rfl⟩
section
variable {P : Program} {F' : Array Func} {fs : List FuncId} {S S2 : FuncId} {FT FT2 : FuncId → Prop} {Post : Value → World → Prop} {Mc : Frame → List Frame → World → Prop}
variable {φ : Oper → Oper} {q ch r : Nat} {z aY : Value} {f0 fY : FuncId} {lv : Value} {vs0 : List Value} {B : Nat} {Ok : World → Prop} {c : Frame} {r2 : List Frame} {fr f1 f2 : Frame}
theorem finish_got {ops : Array Oper} {i : Nat} {rest : List Nat} {k : List Item} {o : Oper} {d : Nat} (ht : fr.todo = .inRegion ops (i :: rest) :: k) (ho : ops[i]? = some o) (hd : o.dst = some d) (hlt : d < fr.tmps.size) (v : Value) : Frame.slot (fr.finish v) d = v := finish_set ht ho hd hlt v
/-- The channel is made. -/
theorem mk_step (hK : Strk P F' fs S q r z aY f0 fY lv vs0 B Ok) {x1 x2 u : World} (hm : fr.mode = .run) (hround : fr.roundOf = none) (hB : Bt φ q lv S S2 fr f1 f2) (hq : Frame.slot f1 q = undef) (hV1 : Vr true x1 u) (hV2 : Vr false x2 u) (hS : Sealed B x2) (hO : Ok u)
    {ops : Array Oper} {i : Nat} {rest : List Nat} {k : List Item} {o : Oper} (ht : fr.todo = .inRegion ops (i :: rest) :: k) (ho : ops[i]? = some o) (hat : AtOp fr o)
    {t : TypeId} {s : Operand} {d : Nat} (op : o.op = .makeChan t s) (hs : ∀ fr : Frame, fr.eval s = .int .i64 0) (dst : o.dst = some d) (same : φ o = o) (hd : d < q ∧ d ≠ 0) (hL : Line P fs φ q ch z f0 fY (.made [d] [0]) (.inRegion ops rest :: k))
    {y2 : (Nat → Question → Nat) → Nat → OpTo} (hy2 : ∀ τ d, (execOp f2.eval (φ o)).runT (tw P F') (x2.re τ d) #[] = (.ok (y2 τ d).nx ((y2 τ d).w.re τ (d + (y2 τ d).k)), (y2 τ d).fs))
    (k2 : ∀ τ d, MM P F' fs S S2 FT Post Mc φ q ch z f0 fY lv vs0 B Ok c r2 ((y2 τ d).top (tw P F') f2) ((y2 τ d).rest f2 []) (y2 τ d).w)
    {y1 : (Nat → Question → Nat) → Nat → OpTo} (hy1 : ∀ τ d, (execOp f1.eval (φ o)).runT (tw P F') (x1.re τ d) #[] = (.ok (y1 τ d).nx ((y1 τ d).w.re τ (d + (y1 τ d).k)), (y1 τ d).fs))
    (k1 : ∀ τ d, Tr (tw P F') FT (Back (tw P F') FT Mc c r2) ((y1 τ d).top (tw P F') f1) ((y1 τ d).rest f1 []) (y1 τ d).w) : Ends P Post (G fr (c :: r2)) u := by
  have hex : ∀ f : Frame, execOp f.eval o = execOp fr.eval o := fun f => by unfold execOp; rw [op]; simp only [hs]
  rw [same, hex] at hy1
  rw [same, hex] at hy2
  refine cn_step (cl := none) (B := B) (tm := false) (z := z) rfl fun u₁ hu τ d' => ?_
  cases hu
  have hke : (fr.kind == CallKind.early) = false := by rw [hB.kind]; rfl
  have hnc : ∀ d b r s l, fr.todo ≠ .call d b r s :: l := fun d b r s l e => by rw [ht] at e; cases e
  have hsim : simOpB P fs o = true := by unfold simOpB; rw [op]
  obtain ⟨u', hb⟩ := op_both (P := P) (F' := F') hK.tw.alike hsim hV1 hV2 hS (hy1 τ d') (hy2 τ d')
  have hrun := hb.run
  have hex0 : execOp fr.eval o = (do pure (Next.value (← Instr.makeChan t (.int .i64 0)))) := by unfold execOp; rw [op]; simp only [hs]
  obtain ⟨hnx, hheap⟩ : (y2 τ d').nx = .value (.chan (some u.heap.size)) ∧ u'.heap = u.heap.push (.chan 0 #[] false 0 0 false) := by
    rw [hex0] at hrun
    have h1 : (do pure (Next.value (← Instr.makeChan t (.int .i64 0))) : Sem Next).run P (u.re τ d') = .ok (y2 τ d').nx (u'.re τ (d' + (y2 τ d').k)) := by rw [Sem.runT_eq] at hrun; exact (Prod.mk.inj hrun).1
    have h2 : ∃ v w', (Instr.makeChan t (.int .i64 0)).run P (u.re τ d') = .ok v w' ∧ (y2 τ d').nx = .value v ∧ u'.re τ (d' + (y2 τ d').k) = w' := by
      simp only [Sem.run_bind] at h1
      cases hr : (Instr.makeChan t (.int .i64 0)).run P (u.re τ d') with
      | ok v w' =>
        rw [hr] at h1
        simp only [Result.andThen, Sem.run_pure] at h1
        injection h1 with e1 e2
        exact ⟨v, w', rfl, e1.symm, e2.symm⟩
      | _ => rw [hr] at h1; cases h1
    obtain ⟨v, w', h3, h4, h5⟩ := h2
    have h6 : (Instr.makeChan t (.int .i64 0)).runT P (u.re τ d') #[] = (.ok v w', ((Instr.makeChan t (.int .i64 0)).runT P (u.re τ d') #[]).2) := by rw [Sem.runT_eq, h3]
    obtain ⟨g1, g2⟩ := mk_run h6
    refine ⟨by rw [h4, g1]; rfl, ?_⟩
    have : u'.heap = w'.heap := by rw [← h5]; rfl
    rw [this, g2]; rfl
  have hO2 := hK.okB u u' hb.low hO
  have hev : ∀ e ∈ seen P fr.fn (y2 τ d').fs, Ev0 B e := fun e he => ev0_of (hb.evs e (mem_seen he))
  have K2 := k2 τ d'
  have K1 := k1 τ d'
  unfold OpTo.top OpTo.rest at K1 K2
  rw [hb.nx, hnx] at K1
  rw [hnx] at K2 hrun
  have ht1 : f1.todo = .inRegion (ops.map φ) (i :: rest) :: k.map (mapI φ) := by rw [hB.mp.todo, ht]; rfl
  have ho1 : (ops.map φ)[i]? = some (φ o) := by rw [Array.getElem?_map, ho]; rfl
  have hBc : B ≤ u.heap.size := by rw [hV2.size]; exact hS.1
  refine ⟨G (fr.finish (.chan (some u.heap.size))) (c :: r2), u', (y2 τ d').k, seen P fr.fn (y2 τ d').fs, ?_, rfl, hev, trivial, hb.low, ?_⟩
  · rw [op_step hm hround hat, apply_ok hke hnc hrun]
  · refine K2 (.made u.heap.size [d] [0]) [] (f1.finish (.chan (some u.heap.size))) (f2.finish (.chan (some u.heap.size))) (fr.finish (.chan (some u.heap.size))) (y1 τ d').w u' rfl rfl (hB.fin ht ho _ _ (fun _ => .inl rfl) (by rw [dst]; intro e; cases e; exact hd.2 rfl)) ⟨?_, ?_, ?_, ?_, ?_⟩ ⟨hBc, ?_⟩ mids_nil hb.vr1 hb.vr2 hb.sealed_ hO2 K1
    · exact (finish_todo ht _).2.1.trans hm
    · rw [(finish_todo ht _).1]; exact hL
    · intro s' hs'
      rw [List.mem_singleton.1 hs']
      exact finish_got ht ho dst (by have := hB.lt; omega) _
    · intro s' hs'
      rw [List.mem_singleton.1 hs', finish_slot ht ho (by rw [dst]; intro e; cases e; exact hd.2 rfl)]
      exact hB.slot0
    · rw [finish_slot ht1 ho1 (by rw [same, dst]; intro e; cases e; omega)]; exact hq
    · rw [hheap]; simp
/-- A move on the straight piece. -/
theorem mv_exec {o : Oper} {s d : Nat} (h : MvS φ q o s d) (f : Frame) : execOp f.eval o = Pure.pure (Next.value (Frame.slot f s)) := by
  rcases h.op with e | e <;> (unfold execOp; rw [e]; rfl)
/-- Slots that are known, behind a move. -/
theorem known_next {ops : Array Oper} {i : Nat} {rest : List Nat} {k : List Item} {o : Oper} {d : Nat} {v x : Value} {K : List Nat} (ht : fr.todo = .inRegion ops (i :: rest) :: k) (ho : ops[i]? = some o) (hd : o.dst = some d) (hlt : d < fr.tmps.size) (hK : ∀ s ∈ K, Frame.slot fr s = x) (hv : v = x ∨ d ∉ K) : ∀ s ∈ K, Frame.slot (fr.finish v) s = x := by
  intro s hs
  by_cases e : s = d
  · subst e
    rcases hv with rfl | hv
    · exact finish_got ht ho hd hlt _
    · exact (hv hs).elim
  · rw [finish_slot ht ho (by rw [hd]; intro e'; cases e'; exact e rfl)]; exact hK s hs
/-- The go statement. -/
theorem go_ends (hK : Strk P F' fs S q r z aY f0 fY lv vs0 B Ok) {x1 x2 u : World} (hm : fr.mode = .run) (hround : fr.roundOf = none) (hB : Bt φ q lv S S2 fr f1 f2) {cb : Nat} {KC KL : List Nat} (hKC : ∀ s ∈ KC, Frame.slot fr s = .chan (some cb)) (hKL : ∀ s ∈ KL, Frame.slot fr s = lv) (hcb : B ≤ cb ∧ u.heap[cb]? = some (.chan 0 #[] false 0 0 false)) (hV1 : Vr true x1 u) (hV2 : Vr false x2 u) (hS : Sealed B x2) (hO : Ok u)
    {ops : Array Oper} {i : Nat} {rest : List Nat} {k : List Item} {o : Oper} (ht : fr.todo = .inRegion ops (i :: rest) :: k) (ho : ops[i]? = some o) (hat : AtOp fr o)
    {a s : Nat} {ats ats' : Array TypeId} (op : o.op = .go { callee := .value (.func f0), args := #[.tmp a, .tmp s], argTypes := ats }) (dst : o.dst = none) (to : φ o = { o with dst := some q, op := .call { callee := .value (.func fY), args := #[.tmp 0], argTypes := ats' } }) (ha : a ∈ KL) (hs : s ∈ KC) (hL : Line P fs φ q ch z f0 fY (.gone KC) (.inRegion ops rest :: k))
    {y2 : (Nat → Question → Nat) → Nat → OpTo} (hy2 : ∀ τ d, (execOp f2.eval (φ o)).runT (tw P F') (x2.re τ d) #[] = (.ok (y2 τ d).nx ((y2 τ d).w.re τ (d + (y2 τ d).k)), (y2 τ d).fs))
    (k2 : ∀ τ d, Along (tw P F') (MM P F' fs S S2 FT Post Mc φ q ch z f0 fY lv vs0 B Ok c r2) ((y2 τ d).top (tw P F') f2) ((y2 τ d).rest f2 []) (y2 τ d).w)
    {y1 : (Nat → Question → Nat) → Nat → OpTo} (hy1 : ∀ τ d, (execOp f1.eval (φ o)).runT (tw P F') (x1.re τ d) #[] = (.ok (y1 τ d).nx ((y1 τ d).w.re τ (d + (y1 τ d).k)), (y1 τ d).fs))
    (k1 : ∀ τ d, Tr (tw P F') FT (Back (tw P F') FT Mc c r2) ((y1 τ d).top (tw P F') f1) ((y1 τ d).rest f1 []) (y1 τ d).w) : Ends P Post (G fr (c :: r2)) u := by
  obtain ⟨fn, body, hfn, hbd, hname⟩ := hK.isY
  have hq0 := hK.q0
  have slot0 : Frame.slot f1 0 = lv := by
    have h := hB.mp.eval (x := .tmp 0) (show ¬ (0 = q) by omega)
    exact h.trans hB.slot0
  have call : ∀ (f : Frame) (w : World), Frame.slot f 0 = lv → (execOp f.eval (φ o)).runT (tw P F') w #[] = (.ok (Next.enter fY #[lv]) w, #[]) := fun f w hf => by
    have e : execOp f.eval (φ o) = callFunc fY #[lv] := by
      unfold execOp
      rw [to]
      simp [resolve, Deferred.ofValue, Frame.eval, invoke, ← hf, Frame.slot]
    rw [e]
    unfold callFunc
    show Sem.runT (tw P F') ((match F'[fY]? with | none => _ | some fn => _ : Sem Next)) w #[] = _
    rw [hfn]
    simp only [hname, hbd, Option.isNone_some, Bool.false_eq_true, if_false]
    rfl
  have enter : ∀ {x : World} {y : OpTo} {f : Frame} {τ : Nat → Question → Nat} {d : Nat}, Frame.slot f 0 = lv → (execOp f.eval (φ o)).runT (tw P F') (x.re τ d) #[] = (.ok y.nx (y.w.re τ (d + y.k)), y.fs) → y.nx = .enter fY #[lv] ∧ ∀ τ d, y.w.re τ d = x.re τ d := fun hf h => by
    rw [call _ _ hf] at h
    obtain ⟨h1, h2⟩ := Prod.mk.inj h
    injection h1 with h3 h4
    exact ⟨h3.symm, fun τ d => ((re_inj h4).2 τ d).symm⟩
  have slot02 : Frame.slot f2 0 = lv := by rw [hB.two]; exact slot0
  obtain ⟨n2, e2⟩ := enter slot02 (hy2 (fun _ _ => 0) 0)
  obtain ⟨n1, e1⟩ := enter slot0 (hy1 (fun _ _ => 0) 0)
  have K2 := k2 (fun _ _ => 0) 0
  have K1 := k1 (fun _ _ => 0) 0
  unfold OpTo.top OpTo.rest at K1 K2
  rw [n1] at K1
  rw [n2] at K2
  dsimp only at K1 K2
  have M2 := (K2.skip MM.re (hK.callY false _ u (hV2.re (fun τ d => (e2 τ d).symm)) hO))
  have M2' := MM.re _ _ _ _ e2 M2
  have T1 := (K1.skip Back.re (hK.callY true _ u (hV1.re (fun τ d => (e1 τ d).symm)) hO)).re Back.re e1
  have ht1 : f1.todo = .inRegion (ops.map φ) (i :: rest) :: k.map (mapI φ) := by rw [hB.mp.todo, ht]; rfl
  have ho1 : (ops.map φ)[i]? = some (φ o) := by rw [Array.getElem?_map, ho]; rfl
  have hke : (fr.kind == CallKind.early) = false := by rw [hB.kind]; rfl
  have hR := M2' (.gone cb KC) [] (f1.finish (.tuple #[aY, .bool true, Lv z vs0])) (f2.finish (.tuple #[aY, .bool true, Lv z vs0])) (fr.finish undef) x1 u rfl rfl
    (hB.fin ht ho _ _ (fun hd => by rw [to, dst] at hd; cases hd) (by rw [dst]; intro e; cases e))
    ⟨(finish_todo ht _).2.1.trans hm, by rw [(finish_todo ht _).1]; exact hL, fun s' hs' => by rw [finish_slot ht ho (by rw [dst]; intro e; cases e)]; exact hKC s' hs', aY, finish_got ht1 ho1 (by rw [to]) hB.lt1 _⟩
    ⟨hcb.1, false, 0, 0, hcb.2⟩ mids_nil hV1 hV2 hS hO T1
  refine ends_go (c := cb) (B := B) (tm := false) (z := z) (es := #[]) rfl (by simp) (fun τ d => go_step hm hround hke hat op rfl true (c :: r2) _) hcb.2 hR ?_
  have := hK.sends u cb hcb.1 hO hcb.2
  have e : (#[Operand.tmp a, .tmp s] : Array Operand).map fr.eval = #[lv, .chan (some cb)] := by
    simp only [List.map_toArray, List.map_cons, List.map_nil]
    rw [slot_eval, slot_eval, hKL a ha, hKC s hs]
  rw [e]
  exact this
/-- A receive. -/
theorem rcv_step (hK : Strk P F' fs S q r z aY f0 fY lv vs0 B Ok) {x1 x2 u : World} (hm : fr.mode = .run) (hround : fr.roundOf = none) (hB : Bt φ q lv S S2 fr f1 f2) {cb : Nat} {vs : List Value} {av : Value} (hW : B ≤ cb ∧ Ch cb false u) (hV1 : Vr true x1 u) (hV2 : Vr false x2 u) (hS : Sealed B x2) (hO : Ok u)
    {ops : Array Oper} {i : Nat} {rest : List Nat} {k : List Item} {o : Oper} (ht : fr.todo = .inRegion ops (i :: rest) :: k) (ho : ops[i]? = some o) (hat : AtOp fr o) (hall : AllL (Kd P fs φ q ch z) fr.todo) (hch : Frame.slot fr ch = .chan (some cb)) (hcq : ch ≠ q) (hq : Frame.slot f1 q = .tuple #[av, .bool true, Lv z vs]) (hr : RcvS P φ q ch z o)
    {y2 : (Nat → Question → Nat) → Nat → OpTo} (hy2 : ∀ τ d, (execOp f2.eval (φ o)).runT (tw P F') (x2.re τ d) #[] = (.ok (y2 τ d).nx ((y2 τ d).w.re τ (d + (y2 τ d).k)), (y2 τ d).fs))
    (k2 : ∀ τ d, MM P F' fs S S2 FT Post Mc φ q ch z f0 fY lv vs0 B Ok c r2 ((y2 τ d).top (tw P F') f2) ((y2 τ d).rest f2 []) (y2 τ d).w)
    {y1 : (Nat → Question → Nat) → Nat → OpTo} (hy1 : ∀ τ d, (execOp f1.eval (φ o)).runT (tw P F') (x1.re τ d) #[] = (.ok (y1 τ d).nx ((y1 τ d).w.re τ (d + (y1 τ d).k)), (y1 τ d).fs))
    (k1 : ∀ τ d, Tr (tw P F') FT (Back (tw P F') FT Mc c r2) ((y1 τ d).top (tw P F') f1) ((y1 τ d).rest f1 []) (y1 τ d).w) : RT P cb B false z (fun g w => Ends P Post g w) vs (G fr (c :: r2)) u := by
  have ex : ∀ f : Frame, Frame.slot f q = .tuple #[av, .bool true, Lv z vs] → execOp f.eval (φ o) = Pure.pure (Next.value (Lv z vs)) := fun f hf => by
    unfold execOp; rw [hr.to]
    simp only [slot_eval, hf, Instr.extract]
    rfl
  have hq2 : Frame.slot f2 q = .tuple #[av, .bool true, Lv z vs] := by rw [hB.two]; exact hq
  have h2 := hy2 (fun _ _ => 0) 0
  have h1 := hy1 (fun _ _ => 0) 0
  rw [ex _ hq2] at h2
  rw [ex _ hq] at h1
  obtain ⟨n2, e2⟩ := pure_op h2
  obtain ⟨n1, e1⟩ := pure_op h1
  have K2 := k2 (fun _ _ => 0) 0
  have K1 := k1 (fun _ _ => 0) 0
  unfold OpTo.top OpTo.rest at K1 K2
  rw [n1] at K1
  rw [n2] at K2
  dsimp only at K1 K2
  have M2 := MM.re _ _ _ _ e2 K2
  have T1 := K1.re Back.re e1
  have ht1 : f1.todo = .inRegion (ops.map φ) (i :: rest) :: k.map (mapI φ) := by rw [hB.mp.todo, ht]; rfl
  have ho1 : (ops.map φ)[i]? = some (φ o) := by rw [Array.getElem?_map, ho]; rfl
  have hke : (fr.kind == CallKind.early) = false := by rw [hB.kind]; rfl
  have hq0 := hK.q0
  have d1 : (φ o).dst = some q := by rw [hr.to]; exact hr.dst
  have step : ∀ w₁, stepG P true (G fr (c :: r2)) w₁ = .comm (core (G fr (c :: r2))) #[rcase cb z] true (.recv true) w₁ #[] := fun w₁ => by
    rw [op_step hm hround hat]
    have hrun := hr.run fr.eval w₁
    rw [slot_eval, hch] at hrun
    have hr1 : (execOp fr.eval o).run P w₁ = .ok (Next.comm #[{ chan := .chan (some cb), send := none, zero := z }] true (.recv true)) w₁ := by rw [Sem.runT_eq] at hrun; exact (Prod.mk.inj hrun).1
    have hr2 : (execOp fr.eval o).events P w₁ #[] = #[] := by rw [Sem.runT_eq] at hrun; exact (Prod.mk.inj hrun).2
    simp [stepG.apply, hke, GStep.after, G, rcase, hr1, hr2, seen, core]
  have hall' : AllL (Kd P fs φ q ch z) (.inRegion ops rest :: k) := by rw [ht] at hall; exact .cons (it := .inRegion ops rest) hall.head hall.tail
  have okw : ∀ w₁, As cb u w₁ → Ch cb false w₁ → Ok w₁ ∧ Vr true x1 w₁ ∧ Vr false x2 w₁ := fun w₁ ha hc => ⟨hK.okB u w₁ (fun k hk => ha.block k (by omega)) hO, hV1.as (hV1.chan hW.2) ha hc, hV2.as (hV2.chan hW.2) ha hc⟩
  cases vs with
  | nil =>
    refine .last rfl (fun _ => #[]) (fun w₁ _ _ => ⟨step w₁, by simp⟩) (fun w₁ ha hc => ?_)
    obtain ⟨o1, o2, o3⟩ := okw w₁ ha hc
    exact M2 .ended [] (f1.finish (Lv z [])) (f2.finish (Lv z [])) (fr.finish (.tuple #[z, .bool false])) x1 w₁ rfl rfl (hB.fin ht ho _ _ (fun _ => .inr hr.dst) (by rw [hr.dst]; intro e; cases e; omega))
      ⟨by rw [(finish_todo ht _).1]; exact hall', z, finish_got ht1 ho1 d1 hB.lt1 _, finish_got ht ho hr.dst hB.lt _⟩ trivial mids_nil o2 o3 hS o1 T1
  | cons v vs =>
    refine .recv rfl (fun _ => #[]) (fun w₁ _ _ => ⟨step w₁, by simp⟩) (fun w₁ ha hc => ?_)
    obtain ⟨o1, o2, o3⟩ := okw w₁ ha hc
    exact M2 (.run cb vs) [] (f1.finish (Lv z (v :: vs))) (f2.finish (Lv z (v :: vs))) (fr.finish (.tuple #[v, .bool true])) x1 w₁ rfl rfl (hB.fin ht ho _ _ (fun _ => .inr hr.dst) (by rw [hr.dst]; intro e; cases e; omega))
      ⟨by rw [(finish_todo ht _).1]; exact hall', by rw [finish_slot ht ho (by rw [hr.dst]; intro e; cases e; exact hcq rfl)]; exact hch, v, finish_got ht1 ho1 d1 hB.lt1 _, finish_got ht ho hr.dst hB.lt _⟩ ⟨hW.1, hc⟩ mids_nil o2 o3 hS o1 T1
end
end Go.Goes

-- Stroke7
/-
  StrokeOf against its twin: the induction over the second tree.
-/
namespace Go.Goes
open Go.Conc
set_option linter.unusedVariables false
theorem results_one {fn : Func} {r : Nat} (h : fn.results = #[.tmp r]) (tmps : Array Value) : results fn tmps = Pure.pure (tmps.getD r undef) := by
  unfold results
  rw [h]
  simp
section
variable {P : Program} {F' : Array Func} {fs : List FuncId} {S S2 : FuncId} {FT FT2 : FuncId → Prop} {Post : Value → World → Prop} {Mc : Frame → List Frame → World → Prop}
variable {φ : Oper → Oper} {q ch r : Nat} {z aY : Value} {f0 fY : FuncId} {lv : Value} {vs0 : List Value} {B : Nat} {Ok : World → Prop} {c : Frame} {r2 : List Frame} {fr f1 f2 : Frame}
/-- Behind a part of what came. -/
theorem ext_state {ph : Ph} (hB : Bt φ q lv S S2 fr f1 f2) (hI : PhI P fs φ q ch z f0 fY lv vs0 ph fr f1) (hph : (∃ c vs, ph = .run c vs) ∨ ph = .ended) {ops : Array Oper} {i : Nat} {rest : List Nat} {k : List Item} {o : Oper} {j : Nat} (ht : fr.todo = .inRegion ops (i :: rest) :: k) (ho : ops[i]? = some o) (hp : ExtS φ q ch o j) (v : Value) :
    Bt φ q lv S S2 (fr.finish v) (f1.finish v) (f2.finish v) ∧ PhI P fs φ q ch z f0 fY lv vs0 ph (fr.finish v) (f1.finish v) := by
  have ht1 : f1.todo = .inRegion (ops.map φ) (i :: rest) :: k.map (mapI φ) := by rw [hB.mp.todo, ht]; rfl
  have ho1 : (ops.map φ)[i]? = some (φ o) := by rw [Array.getElem?_map, ho]; rfl
  have s1 : ∀ t, o.dst ≠ some t → Frame.slot (f1.finish v) t = Frame.slot f1 t := fun t h => finish_slot ht1 ho1 (by rw [hp.same]; exact h) v
  have sr : ∀ t, o.dst ≠ some t → Frame.slot (fr.finish v) t = Frame.slot fr t := fun t h => finish_slot ht ho h v
  refine ⟨hB.fin ht ho v v (fun _ => .inl rfl) hp.dst.2.2, ?_⟩
  rcases hph with ⟨cb, vs, rfl⟩ | rfl
  · obtain ⟨h1, h2, a, h3, h4⟩ := hI
    rw [ht] at h1
    exact ⟨by rw [(finish_todo ht v).1]; exact .cons (it := .inRegion ops rest) h1.head h1.tail, (sr ch hp.dst.2.1).trans h2, a, (s1 q hp.dst.1).trans h3, (sr q hp.dst.1).trans h4⟩
  · obtain ⟨h1, a, h3, h4⟩ := hI
    rw [ht] at h1
    exact ⟨by rw [(finish_todo ht v).1]; exact .cons (it := .inRegion ops rest) h1.head h1.tail, a, (s1 q hp.dst.1).trans h3, (sr q hp.dst.1).trans h4⟩
/-- A control step in either. -/
theorem cn_ctl (hK : Strk P F' fs S q r z aY f0 fY lv vs0 B Ok) {ph : Ph} {x1 x2 u : World} {t t' : Frame} {cs : List Frame} (hm : t.mode = .run) (hround : t.roundOf = none) (hW : PhW B ph u) (hV1 : Vr true x1 u) (hV2 : Vr false x2 u) (hO : Ok u) (hc : ctl t = some t')
    (next : ∀ u₁, PhW B ph u₁ → Vr true x1 u₁ → Vr false x2 u₁ → Ok u₁ → Cn P Post B false z (ph.cl vs0) (G t' cs) u₁) : Cn P Post B false z (ph.cl vs0) (G t cs) u := by
  refine cn_step rfl fun u₁ hu τ d => ?_
  obtain ⟨hO1, hW1⟩ := okw_ok hK hW hu hO
  refine ⟨G t' cs, u₁, 0, #[], ctl_step hm hround hc true cs _, rfl, by simp, ?_, fun _ _ => rfl, next u₁ hW1 (Okw.vr hu (phw_ch hW) hV1) (Okw.vr hu (phw_ch hW) hV2) hO1⟩
  cases h : ph.cl vs0 with
  | none => trivial
  | some cv => rfl
theorem cn_draw (hK : Strk P F' fs S q r z aY f0 fY lv vs0 B Ok) {ph : Ph} {x1 x2 u : World} {t : Frame} {cs : List Frame} {id : Nat} {ops : Array Oper} {k : List Item} (hm : t.mode = .run) (hW : PhW B ph u) (hV1 : Vr true x1 u) (hV2 : Vr false x2 u) (hO : Ok u) (hd : AtDraw t id ops k)
    (next : ∀ n u₁, PhW B ph u₁ → Vr true x1 u₁ → Vr false x2 u₁ → Ok u₁ → Cn P Post B false z (ph.cl vs0) (G { t with todo := .inRegion ops (Region.schedule (P.follows .mixedOrders) ops n) :: k } cs) u₁) : Cn P Post B false z (ph.cl vs0) (G t cs) u := by
  refine cn_step rfl fun u₁ hu τ d => ?_
  obtain ⟨hO1, hW1⟩ := okw_ok hK hW hu hO
  refine ⟨_, u₁, 1, #[], draw_step hm hd true cs u₁ τ d, rfl, by simp, ?_, fun _ _ => rfl, next _ u₁ hW1 (Okw.vr hu (phw_ch hW) hV1) (Okw.vr hu (phw_ch hW) hV2) hO1⟩
  cases h : ph.cl vs0 with
  | none => trivial
  | some cv => rfl
/-- StrokeOf's own return. -/
theorem stop_ends (hK : Strk P F' fs S q r z aY f0 fY lv vs0 B Ok) (hMc : ∀ v x u, Mc (c.finish v) r2 x → Vr true x u → Ok u → Ends P Post (G (c.finish v) r2) u) {x1 u : World} (hm : fr.mode = .returning) (hB : Bt φ q lv S S2 fr f1 f2) (hV1 : Vr true x1 u) (hO : Ok u) (hT : Tr (tw P F') FT (Back (tw P F') FT Mc c r2) f1 [] x1) : Ends P Post (G fr (c :: r2)) u := by
  have hm1 : f1.mode = .returning := hB.mp.mode.trans hm
  obtain ⟨fn, hfn, hres⟩ := hK.fnS
  obtain ⟨fn1, hfn1, hres1⟩ := hK.fn1
  have hbk : Back (tw P F') FT Mc c r2 f1 x1 := by
    cases hT with
    | stop h => exact h
    | ctl _ h _ _ => rw [hm1] at h; cases h
    | draw _ h _ _ => rw [hm1] at h; cases h
    | op _ h _ _ _ _ => rw [hm1] at h; cases h
  obtain ⟨hcf, _, fn1', hfn1', hM⟩ := hbk
  have e : fn1' = fn1 := by
    rw [hB.fn1] at hfn1'
    have : F'[S]? = some fn1' := hfn1'
    rw [hfn1] at this
    exact (Option.some.inj this).symm
  subst e
  have hslot : f1.tmps.getD r undef = fr.tmps.getD r undef := by
    have h := hB.mp.eval (x := .tmp r) (show ¬ (r = q) from hK.rq)
    exact h
  have hMS := hM (fun _ _ => 0) 0 (fr.tmps.getD r undef) x1 0 #[] (by rw [results_one hres1, hslot]; rfl)
  have hd : fr.defers = [] := hB.mp.defers.symm.trans hcf.defers
  have hkk := hB.kind
  have hfn' : P.funcs[fr.fn]? = some fn := by rw [hB.fn]; exact hfn
  refine ends_step rfl fun τ d => ⟨G (c.finish (fr.tmps.getD r undef)) r2, u, 0, seen P fr.fn #[], ?_, fun e he => by have := mem_seen he; simp at this, ?_⟩
  · have hrun : (results fn fr.tmps).run P (u.re τ d) = .ok (fr.tmps.getD r undef) (u.re τ d) := by rw [results_one hres]; rfl
    have hev : (results fn fr.tmps).events P (u.re τ d) #[] = #[] := by rw [results_one hres]; rfl
    simp [stepG, unwind, doReturn, G, hm, hd, hkk, hfn', hrun, hev, GStep.after]
  · exact hMc _ x1 u hMS hV1 hO
/-- **StrokeOf beside its sender, from the two trees of its twin.** -/
theorem stroke_tree (hK : Strk P F' fs S q r z aY f0 fY lv vs0 B Ok) (hcq : ch ≠ q) (hMc : ∀ v x u, Mc (c.finish v) r2 x → Vr true x u → Ok u → Ends P Post (G (c.finish v) r2) u) {fr2 : Frame} {rest2 : List Frame} {x2 : World} (h : Tr (tw P F') FT2 (Stop2 S2 q) fr2 rest2 x2) :
    MM P F' fs S S2 FT Post Mc φ q ch z f0 fY lv vs0 B Ok c r2 fr2 rest2 x2 := by
  refine (Tr.induct3 (M := MM P F' fs S S2 FT Post Mc φ q ch z f0 fY lv vs0 B Ok c r2) MM.re ?_ ?_ ?_ ?_ ?_ h).1
  · -- the end
    intro fr2 w hst ph mid f1 f2 fr x1 u e1 e2 hB hI hW hMi hV1 hV2 hS hO hT
    cases mid with
    | cons t ms => exact absurd (congrArg List.length e2) (by simp [restOf])
    | nil =>
      have e1' : fr2 = f2 := e1
      subst e1'
      have hm2 : f1.mode = .returning := by have := hst.1; rw [hB.two] at this; exact this
      have hm : fr.mode = .returning := hB.mp.mode.symm.trans hm2
      have hsl : Frame.slot f1 q = undef ∨ ∃ a, Frame.slot f1 q = .tuple #[a, .bool false] := by have := hst.2; rw [hB.two] at this; exact this rfl
      cases ph with
      | pre => exact stop_ends hK hMc hm hB hV1 hO hT
      | ended => exact stop_ends hK hMc hm hB hV1 hO hT
      | made cb KC KL => have := hI.1; rw [hm] at this; cases this
      | gone cb KC => have := hI.1; rw [hm] at this; cases this
      | run cb vs =>
        exfalso
        obtain ⟨_, _, a, h3, _⟩ := hI
        rcases hsl with h | ⟨b, h⟩
        · rw [h3] at h; unfold undef at h; simp at h
        · rw [h3] at h; simp at h
  · -- control
    intro fr2 fr2' rest w hc hm hctl hM ph mid f1 f2 fr x1 u e1 e2 hB hI hW hMi hV1 hV2 hS hO hT
    cases mid with
    | nil =>
      have e1' : fr2 = f2 := e1
      subst e1'
      have hm1 : f1.mode = .run := by have := hm; rw [hB.two] at this; exact this
      have hmr : fr.mode = .run := hB.mp.mode.symm.trans hm1
      have hround : fr.roundOf = none := hB.mp.round.symm.trans (by have := hc.round; rw [hB.two] at this; exact this)
      obtain ⟨fr', f1', hcr, hc1, hB', hI'⟩ := ctl_state hmr hB hI hctl
      refine cn_ctl hK hmr hround hW hV1 hV2 hO hcr fun u₁ a1 a2 a3 a4 => ?_
      exact hM ph [] f1' fr2' fr' x1 u₁ rfl e2 hB' hI' a1 mids_nil a2 a3 hS a4 (hT.ctl_inv Back.returning hm1 hc1)
    | cons t ms =>
      have e1' : fr2 = t := e1
      subst e1'
      refine cn_ctl hK hm hc.round hW hV1 hV2 hO hctl fun u₁ a1 a2 a3 a4 => ?_
      exact hM ph (fr2' :: ms) f1 f2 fr x1 u₁ rfl e2 hB hI a1 ⟨fun t' h => (List.mem_cons.1 h).elim (fun e => by rw [e]; exact (hMi.all fr2 (List.mem_cons_self ..)).ctl hctl) (fun h => hMi.all t' (List.mem_cons_of_mem _ h)), hMi.waits, fun _ => hMi.wait (by simp), fun _ => hMi.far (by simp)⟩ a2 a3 hS a4 (hT.ctl_inv Back.returning hm hctl)
  · -- a drawn order
    intro fr2 id ops' k' rest w hc hm hd hM ph mid f1 f2 fr x1 u e1 e2 hB hI hW hMi hV1 hV2 hS hO hT
    cases mid with
    | nil =>
      have e1' : fr2 = f2 := e1
      subst e1'
      have hm1 : f1.mode = .run := by have := hm; rw [hB.two] at this; exact this
      have hmr : fr.mode = .run := hB.mp.mode.symm.trans hm1
      obtain ⟨ops, k, hdr, hd1, hsch, hst⟩ := draw_state hmr hB hI hd
      refine cn_draw hK hmr hW hV1 hV2 hO hdr fun n u₁ a1 a2 a3 a4 => ?_
      have h1 := hM n
      have hT1 := hT.draw_inv Back.returning hm1 hd1 n
      rw [show (tw P F').follows .mixedOrders = P.follows .mixedOrders from rfl, hsch] at h1 hT1
      exact h1 ph [] _ _ _ x1 u₁ rfl e2 (hst _).1 (hst _).2 a1 mids_nil a2 a3 hS a4 hT1
    | cons t ms =>
      have e1' : fr2 = t := e1
      subst e1'
      refine cn_draw hK hm hW hV1 hV2 hO hd fun n u₁ a1 a2 a3 a4 => ?_
      exact hM n ph (_ :: ms) f1 f2 fr x1 u₁ rfl e2 hB hI a1 ⟨fun t' h => (List.mem_cons.1 h).elim (fun e => by rw [e]; exact (hMi.all fr2 (List.mem_cons_self ..)).draw hd _) (fun h => hMi.all t' (List.mem_cons_of_mem _ h)), hMi.waits, fun _ => hMi.wait (by simp), fun _ => hMi.far (by simp)⟩ a2 a3 hS a4 (hT.draw_inv Back.returning hm hd n)
  · -- an operation
    intro fr2 o' rest w hc hm hat y2 hy2 hM ph mid f1 f2 fr x1 u e1 e2 hB hI hW hMi hV1 hV2 hS hO hT
    cases mid with
    | cons t ms =>
      have e1' : fr2 = t := e1
      subst e1'
      have e2' : rest = ms ++ [f2] := e2
      subst e2'
      obtain ⟨y1, hy1, k1⟩ := hT.op_get Back.returning hm hat
      exact shared_step hK hm hc hB hI hW hMi hV1 hV2 hS hO hat (fun τ d => (hy2 τ d).1) (fun τ d => (hM τ d).1) (fun τ d => (hy1 τ d).1) k1
    | nil =>
      have e1' : fr2 = f2 := e1
      subst e1'
      have e2' : rest = [] := e2
      subst e2'
      replace hT : Tr (tw P F') FT (Back (tw P F') FT Mc c r2) f1 [] x1 := hT
      show Cn P Post B false z (ph.cl vs0) (G fr (c :: r2)) u
      have hm1 : f1.mode = .run := by have := hm; rw [hB.two] at this; exact this
      have hmr : fr.mode = .run := hB.mp.mode.symm.trans hm1
      have hround : fr.roundOf = none := hB.mp.round.symm.trans (by have := hc.round; rw [hB.two] at this; exact this)
      have hat1 : AtOp f1 o' := by have := hat; rw [hB.two] at this; exact this
      obtain ⟨o, ops, i, rest', k, ht, ho, hw, rfl, hfit⟩ := op_map hB.mp hat1
      have hatr : AtOp fr o := ⟨ops, i, rest', k, ht, ho, hw⟩
      obtain ⟨y1, hy1, k1⟩ := hT.op_get Back.returning hm1 hat1
      have hy2' := fun τ d => (hy2 τ d).1
      have k2 := fun τ d => (hM τ d).1
      have hy1' := fun τ d => (hy1 τ d).1
      have ht1 : f1.todo = .inRegion (ops.map φ) (i :: rest') :: k.map (mapI φ) := by rw [hB.mp.todo, ht]; rfl
      have ho1 : (ops.map φ)[i]? = some (φ o) := by rw [Array.getElem?_map, ho]; rfl
      -- a value that is handed on, the same in both
      have kids : ∀ {v : Value}, execOp f1.eval (φ o) = Pure.pure (Next.value v) → MM P F' fs S S2 FT Post Mc φ q ch z f0 fY lv vs0 B Ok c r2 (fr2.finish v) [] w ∧ Tr (tw P F') FT (Back (tw P F') FT Mc c r2) (f1.finish v) [] x1 := by
        intro v hex
        have h2 := hy2' (fun _ _ => 0) 0
        have h1 := hy1' (fun _ _ => 0) 0
        rw [hB.two, eval_other, hex] at h2
        rw [hex] at h1
        obtain ⟨n2, g2⟩ := pure_op h2
        obtain ⟨n1, g1⟩ := pure_op h1
        have K2 := k2 (fun _ _ => 0) 0
        have K1 := k1 (fun _ _ => 0) 0
        unfold OpTo.top OpTo.rest at K1 K2
        rw [n1] at K1
        rw [n2] at K2
        exact ⟨MM.re _ _ _ _ g2 K2, K1.re Back.re g1⟩
      have mv : ∀ {s d : Nat}, MvS φ q o s d → execOp f1.eval (φ o) = Pure.pure (Next.value (Frame.slot fr s)) := fun h => by
        rw [h.same, mv_exec h f1]
        have h := hB.mp.eval (x := .tmp _) (show ¬ (_ = q) from h.q.1)
        rw [slot_eval, slot_eval] at h
        rw [h]
      cases ph with
      | pre =>
        have hp := hI.1 hmr
        rw [ht] at hp
        generalize hl : Item.inRegion ops (i :: rest') :: k = L at hp
        cases hp with
        | line hL =>
          subst hl
          cases hL with
          | op ho' hs hL =>
            rw [ho] at ho'; cases ho'
            cases hs with
            | mk op hs dst same guard hd => exact mk_step hK hmr hround hB hI.2 hV1 hV2 hS hO ht ho hatr op hs dst same hd hL hy2' k2 hy1' k1
        | far hp' hcd =>
          rename_i pre cc
          cases pre with
          | nil => cases hl
          | cons it pre =>
            rw [List.cons_append] at hl
            injection hl with g1 g2
            subst g1
            exact plain_step hK hmr hround hB hI hW hV1 hV2 hS hO ht ho hatr (hp'.head i o ho) (by rintro ⟨_, _, _, h⟩; cases h) (by rintro ⟨_, _, h⟩; cases h) hy2' k2 hy1' k1
      | made cb KC KL =>
        obtain ⟨i1, i2, i3, i4, i5⟩ := hI
        rw [ht] at i2
        cases i2 with
        | op ho' hs hL =>
          rw [ho] at ho'; cases ho'
          have move : ∀ {s d : Nat} {KC' KL' : List Nat}, MvS φ q o s d → Line P fs φ q ch z f0 fY (.made KC' KL') (.inRegion ops rest' :: k) → (∀ s' ∈ KC', Frame.slot (fr.finish (Frame.slot fr s)) s' = .chan (some cb)) → (∀ s' ∈ KL', Frame.slot (fr.finish (Frame.slot fr s)) s' = lv) → Ends P Post (G fr (c :: r2)) u := by
            intro s d KC' KL' hmv hL' hC hLs
            obtain ⟨K2, K1⟩ := kids (mv hmv)
            refine val_step (ph := .made cb KC KL) (ph' := .made cb KC' KL') hK hmr hround hB hW hV1 hV2 hS hO hatr (mv_exec hmv fr) rfl (fun _ h => h) (hB.fin ht ho _ _ (fun _ => .inl rfl) (by rw [hmv.dst]; intro e; cases e; exact hmv.q.2.2 rfl)) ⟨(finish_todo ht _).2.1.trans hmr, by rw [(finish_todo ht _).1]; exact hL', hC, hLs, ?_⟩ K2 K1
            rw [finish_slot ht1 ho1 (by rw [hmv.same, hmv.dst]; intro e; cases e; have := hmv.q; omega)]; exact i5
          cases hs with
          | mvC hmv hs hd =>
            rename_i s d
            have hlt : d < fr.tmps.size := by have := hmv.q; have := hB.lt; omega
            refine move hmv hL (fun s' hs' => ?_) (known_next ht ho hmv.dst hlt i4 (.inr hd))
            rcases List.mem_cons.1 hs' with rfl | hs'
            · rw [finish_got ht ho hmv.dst hlt]; exact i3 s hs
            · exact known_next ht ho hmv.dst hlt i3 (.inl (i3 s hs)) s' hs'
          | mvL hmv hs hd =>
            rename_i s d
            have hlt : d < fr.tmps.size := by have := hmv.q; have := hB.lt; omega
            refine move hmv hL (known_next ht ho hmv.dst hlt i3 (.inr hd)) (fun s' hs' => ?_)
            rcases List.mem_cons.1 hs' with rfl | hs'
            · rw [finish_got ht ho hmv.dst hlt]; exact i4 s hs
            · exact known_next ht ho hmv.dst hlt i4 (.inl (i4 s hs)) s' hs'
          | go op dst guard to ha hs => exact go_ends hK hmr hround hB i3 i4 hW hV1 hV2 hS hO ht ho hatr op dst to ha hs hL hy2' (fun τ d => (hM τ d).2) hy1' k1
      | gone cb KC =>
        obtain ⟨i1, i2, i3, a, i5⟩ := hI
        rw [ht] at i2
        cases i2 with
        | run ho' hr hch hall =>
          rw [ho] at ho'; cases ho'
          exact rcv_step hK hmr hround hB hW hV1 hV2 hS hO ht ho hatr (by rw [ht]; exact hall) (i3 ch hch) hcq i5 hr hy2' k2 hy1' k1
        | op ho' hs hL =>
          rw [ho] at ho'; cases ho'
          cases hs with
          | mvG hmv hs =>
            rename_i s d
            have hlt : d < fr.tmps.size := by have := hmv.q; have := hB.lt; omega
            obtain ⟨K2, K1⟩ := kids (mv hmv)
            refine val_step (ph := .gone cb KC) (ph' := .gone cb (d :: KC)) hK hmr hround hB hW hV1 hV2 hS hO hatr (mv_exec hmv fr) rfl (fun _ h => h) (hB.fin ht ho _ _ (fun _ => .inl rfl) (by rw [hmv.dst]; intro e; cases e; exact hmv.q.2.2 rfl)) ⟨(finish_todo ht _).2.1.trans hmr, by rw [(finish_todo ht _).1]; exact hL, fun s' hs' => ?_, a, ?_⟩ K2 K1
            · rcases List.mem_cons.1 hs' with rfl | hs'
              · rw [finish_got ht ho hmv.dst hlt]; exact i3 s hs
              · exact known_next ht ho hmv.dst hlt i3 (.inl (i3 s hs)) s' hs'
            · rw [finish_slot ht1 ho1 (by rw [hmv.same, hmv.dst]; intro e; cases e; have := hmv.q; omega)]; exact i5
      | run cb vs =>
        have hI0 := hI
        obtain ⟨i1, i2, a, i3, i4⟩ := hI
        rcases kd_op i1 ht ho with hp | ⟨j, hp⟩ | hr
        · exact plain_step hK hmr hround hB hI0 hW hV1 hV2 hS hO ht ho hatr hp (by rintro ⟨_, _, _, h⟩; cases h) (by rintro ⟨_, _, h⟩; cases h) hy2' k2 hy1' k1
        · have hj := hp.lt
          obtain ⟨v, x1e, x2e⟩ : ∃ v, execOp f1.eval (φ o) = Pure.pure (Next.value v) ∧ execOp fr.eval o = Pure.pure (Next.value v) := by
            rw [hp.same]
            rcases Nat.lt_or_ge j 1 with h | h
            · have : j = 0 := by omega
              subst this
              refine ⟨a, ?_, ?_⟩ <;> (unfold execOp; rw [hp.op]; simp only [slot_eval, i3, i4, Instr.extract]; rfl)
            · have : j = 1 := by omega
              subst this
              refine ⟨.bool true, ?_, ?_⟩ <;> (unfold execOp; rw [hp.op]; simp only [slot_eval, i3, i4, Instr.extract]; rfl)
          obtain ⟨K2, K1⟩ := kids x1e
          obtain ⟨hB', hI'⟩ := ext_state hB hI0 (.inl ⟨_, _, rfl⟩) ht ho hp v
          exact val_step (ph := .run cb vs) (ph' := .run cb vs) hK hmr hround hB hW hV1 hV2 hS hO hatr x2e rfl (fun _ h => h) hB' hI' K2 K1
        · exact rcv_step hK hmr hround hB hW hV1 hV2 hS hO ht ho hatr i1 i2 hcq i3 hr hy2' k2 hy1' k1
      | ended =>
        have hI0 := hI
        obtain ⟨i1, a, i3, i4⟩ := hI
        rcases kd_op i1 ht ho with hp | ⟨j, hp⟩ | hr
        · exact plain_step hK hmr hround hB hI0 hW hV1 hV2 hS hO ht ho hatr hp (by rintro ⟨_, _, _, h⟩; cases h) (by rintro ⟨_, _, h⟩; cases h) hy2' k2 hy1' k1
        · have hj := hp.lt
          obtain ⟨v, x1e, x2e⟩ : ∃ v, execOp f1.eval (φ o) = Pure.pure (Next.value v) ∧ execOp fr.eval o = Pure.pure (Next.value v) := by
            rw [hp.same]
            rcases Nat.lt_or_ge j 1 with h | h
            · have : j = 0 := by omega
              subst this
              refine ⟨a, ?_, ?_⟩ <;> (unfold execOp; rw [hp.op]; simp only [slot_eval, i3, i4, Instr.extract]; rfl)
            · have : j = 1 := by omega
              subst this
              refine ⟨.bool false, ?_, ?_⟩ <;> (unfold execOp; rw [hp.op]; simp only [slot_eval, i3, i4, Instr.extract]; rfl)
          obtain ⟨K2, K1⟩ := kids x1e
          obtain ⟨hB', hI'⟩ := ext_state hB hI0 (.inr rfl) ht ho hp v
          exact val_step (ph := .ended) (ph' := .ended) hK hmr hround hB hW hV1 hV2 hS hO hatr x2e rfl (fun _ h => h) hB' hI' K2 K1
        · exfalso
          have h1 := hy1' (fun _ _ => 0) 0
          have e : execOp f1.eval (φ o) = (do pure (Next.value (← stuck "Extract: no such component"))) := by
            unfold execOp; rw [hr.to]; simp only [slot_eval, i3, Instr.extract]; rfl
          rw [e] at h1
          cases h1
  · -- a return
    intro fr2 c0 fn rest w hc hm hfn y2 hy2 hM ph mid f1 f2 fr x1 u e1 e2 hB hI hW hMi hV1 hV2 hS hO hT
    cases mid with
    | nil => cases e2
    | cons t ms =>
      have e1' : fr2 = t := e1
      subst e1'
      have hsh := hMi.all fr2 (List.mem_cons_self ..)
      have hfnP : P.funcs[fr2.fn]? = some fn := by rw [← hK.tw.same _ hsh.known hsh.other]; exact hfn
      have hd := hc.defers
      have hkk := hc.kind
      -- one return
      have go : ∀ {cr : Frame} {csr : List Frame} {y1 : (Nat → Question → Nat) → Nat → RetTo}, (∀ τ d, (results fn fr2.tmps).runT (tw P F') (x1.re τ d) #[] = (.ok (y1 τ d).v ((y1 τ d).w.re τ (d + (y1 τ d).k)), (y1 τ d).fs)) →
          (∀ τ d (u₁ u' : World), y1 τ d = y1 τ d → (y1 τ d).v = (y2 τ d).v → Vr true (y1 τ d).w u' → Vr false (y2 τ d).w u' → Sealed B (y2 τ d).w → Ok u' → PhW B ph u' → Cn P Post B false z (ph.cl vs0) (G (cr.finish (y2 τ d).v) csr) u') → Cn P Post B false z (ph.cl vs0) (G fr2 (cr :: csr)) u := by
        intro cr csr y1 hy1 next
        refine cn_step rfl fun u₁ hu τ d => ?_
        obtain ⟨hO1, hW1⟩ := okw_ok hK hW hu hO
        have hV1' := Okw.vr hu (phw_ch hW) hV1
        have hV2' := Okw.vr hu (phw_ch hW) hV2
        obtain ⟨u', g1, g2, g3, g4, g5, g6, g7, g8⟩ := ret_both (P := P) (F' := F') fn fr2.tmps hV1' hV2' hS (hy1 τ d) (hy2 τ d)
        obtain ⟨hW2, hCh⟩ := phw_next (vs0 := vs0) hW1 g6
        have hrun : (results fn fr2.tmps).run P (u₁.re τ d) = .ok (y2 τ d).v (u'.re τ (d + (y2 τ d).k)) := by rw [Sem.runT_eq] at g8; exact (Prod.mk.inj g8).1
        have hev : (results fn fr2.tmps).events P (u₁.re τ d) #[] = (y2 τ d).fs := by rw [Sem.runT_eq] at g8; exact (Prod.mk.inj g8).2
        refine ⟨G (cr.finish (y2 τ d).v) csr, u', (y2 τ d).k, seen P fr2.fn (y2 τ d).fs, ?_, rfl, fun e he => ev0_of (g7 e (mem_seen he)), hCh, g5, next τ d u₁ u' rfl g1 g2 g3 g4 (hK.okB u₁ u' g5 hO1) hW2⟩
        simp [stepG, unwind, doReturn, G, hm, hd, hkk, hfnP, hrun, hev, GStep.after]
      cases ms with
      | nil =>
        have e2' : c0 :: rest = [f2] := e2
        injection e2' with g1 g2
        subst g1 g2
        obtain ⟨fn', hfn', y1, hy1, k1⟩ := Tr.ret_get (show Tr (tw P F') FT (Back (tw P F') FT Mc c r2) fr2 (f1 :: []) x1 from hT) hm
        rw [hfn] at hfn'; cases hfn'
        obtain ⟨hmr, ops, i, rest', k, o, ht, ho, hp⟩ := hMi.wait (by simp)
        refine go (cr := fr) (csr := c :: r2) hy1 fun τ d u₁ u' _ hv v1 v2 v3 v4 v5 => ?_
        have hfar := hMi.far (by simp)
        have hph : (∃ c KC KL, ph = .made c KC KL) → False := by rintro ⟨_, _, _, rfl⟩; exact hfar
        have hpg : (∃ c KC, ph = .gone c KC) → False := by rintro ⟨_, _, rfl⟩; exact hfar
        obtain ⟨hB', hI'⟩ := plain_state hmr hB hI ht ho hp hph hpg (y2 τ d).v
        have K1 := k1 τ d
        rw [hv] at K1
        exact hM τ d ph [] (f1.finish (y2 τ d).v) (c0.finish (y2 τ d).v) (fr.finish (y2 τ d).v) (y1 τ d).w u' rfl rfl hB' hI' v5 mids_nil v1 v2 v3 v4 K1
      | cons m ms =>
        have e2' : c0 :: rest = m :: (ms ++ [f2]) := e2
        injection e2' with g1 g2
        subst g1 g2
        obtain ⟨fn', hfn', y1, hy1, k1⟩ := Tr.ret_get (show Tr (tw P F') FT (Back (tw P F') FT Mc c r2) fr2 (c0 :: (ms ++ [f1])) x1 from hT) hm
        rw [hfn] at hfn'; cases hfn'
        refine go (cr := c0) (csr := ms ++ [fr] ++ c :: r2) hy1 fun τ d u₁ u' _ hv v1 v2 v3 v4 v5 => ?_
        have K1 := k1 τ d
        rw [hv] at K1
        have hc0 := hMi.all c0 (List.mem_cons_of_mem _ (List.mem_cons_self ..))
        exact hM τ d ph (c0.finish (y2 τ d).v :: ms) f1 f2 fr (y1 τ d).w u' rfl rfl hB hI v5 ⟨fun t' h => (List.mem_cons.1 h).elim (fun e => by rw [e]; exact hc0.finish (hMi.waits c0 (List.mem_cons_self ..)) _) (fun h => hMi.all t' (List.mem_cons_of_mem _ (List.mem_cons_of_mem _ h))), fun t' h => hMi.waits t' (List.mem_cons_of_mem _ h), fun _ => hMi.wait (by simp), fun _ => hMi.far (by simp)⟩ v1 v2 v3 v4 K1
end
end Go.Goes

-- Stroke8
/-
  The stroke, as law_ends asks for it: from the twin's own tree, with what its first call shows of the lines.
-/
namespace Go.Goes
open Go.Conc
set_option linter.unusedVariables false
def sealO : Obj → Obj
  | .cells c e f => .cells c e (0, max c.size f.2)
  | o => o
/-- All rows frozen whole. -/
def sealW (x : World) : World := { x with heap := x.heap.map sealO }
theorem sealW_get (x : World) (k : Nat) : (sealW x).heap[k]? = (x.heap[k]?).map sealO := by simp [sealW]
theorem sealed_sealW (x : World) : Sealed x.heap.size (sealW x) := by
  refine ⟨by simp [sealW], fun k hk c e f h i hi => ?_⟩
  rw [sealW_get] at h
  obtain ⟨o, ho, h2⟩ := Option.map_eq_some_iff.1 h
  cases o <;> simp [sealO] at h2
  obtain ⟨rfl, rfl, rfl⟩ := h2
  exact ⟨Nat.zero_le _, by dsimp only; omega⟩
theorem vr_sealW {x u : World} (h : Vr true x u) : Vr false (sealW x) u := by
  refine ⟨h.os, h.output, by rw [h.size]; simp [sealW], fun k o ho => ?_⟩
  rw [sealW_get] at ho
  obtain ⟨o1, ho1, rfl⟩ := Option.map_eq_some_iff.1 ho
  obtain ⟨o', h1, h2⟩ := h.block k o1 ho1
  refine ⟨o', h1, ?_⟩
  rcases h2 with h2 | ⟨cl, s, r, tm, cl', s', r', rfl, rfl⟩ | ⟨h3, _⟩
  · subst h2
    cases o' with
    | cells c e f => exact .inr (.inr ⟨rfl, c, e, (0, max c.size f.2), f, rfl, rfl, fun i h1 h2 => ⟨Nat.zero_le _, by dsimp only; omega⟩⟩)
    | _ => exact .inl rfl
  · exact .inr (.inl ⟨_, _, _, _, _, _, _, rfl, rfl⟩)
  · cases h3
section
variable {P : Program} {F' : Array Func} {fs : List FuncId} {S S2 : FuncId} {FT FT2 : FuncId → Prop} {Post : Value → World → Prop} {Mc : Frame → List Frame → World → Prop}
variable {φ : Oper → Oper} {q ch r : Nat} {z aY : Value} {f0 fY fC : FuncId} {lv : Value} {vs0 : List Value} {B : Nat} {Ok : World → Prop} {c : Frame} {r2 : List Frame}
theorem Tr.stops {P : Program} {F : FuncId → Prop} {Stop Stop' : Frame → World → Prop} (h : ∀ fr w, Stop fr w → Stop' fr w) {fr : Frame} {rest : List Frame} {w : World} (t : Tr P F Stop fr rest w) : Tr P F Stop' fr rest w := by
  induction t with
  | stop h' => exact .stop (h _ _ h')
  | ctl hc hm hx _ ih => exact .ctl hc hm hx ih
  | draw hc hm hx _ ih => exact .draw hc hm hx ih
  | op hc hm hx y hy _ ih => exact .op hc hm hx y hy ih
  | ret hc hm hfn y hy _ ih => exact .ret hc hm hfn y hy ih
theorem results_two {fn : Func} {r q : Nat} (h : fn.results = #[.tmp r, .tmp q]) (tmps : Array Value) : results fn tmps = Pure.pure (.tuple #[tmps.getD r undef, tmps.getD q undef]) := by
  unfold results
  rw [h]
  simp
/-- The second tree, from the lone contract. -/
theorem tree_two {P' : Program} (hP : NoSteps P') (hSD : P'.follows .staticDataAhead = true) (hF : ∀ f, FT2 f → CalmFn P' FT2 f) {fn2 : Func} (hf2 : P'.funcs[S2]? = some fn2) (hr2 : fn2.results = #[.tmp r, .tmp q]) (hS2 : FT2 S2) {args : Array Value} {x : World}
    (h : ∀ τ, Calls P' S2 args (x.re τ 0) (fun e _ => ∃ v sq, e = .returned (.tuple #[v, sq]) ∧ (sq = undef ∨ ∃ a, sq = .tuple #[a, .bool false]))) : Tr P' FT2 (Stop2 S2 q) (Frame.enter P' S2 args .normal) [] x := by
  have t := term_of_calls hP hF hS2 (R := fun _ e _ => ∃ v sq, e = .returned (.tuple #[v, sq]) ∧ (sq = undef ∨ ∃ a, sq = .tuple #[a, .bool false])) h (fun _ _ _ ⟨v, sq, h, _⟩ => ⟨_, h⟩)
  refine Tr.stops (fun fr w hst => ?_) (term_tr hP hSD hF (fun fr u w e hst => ?_) (fun fr w ch hst => ?_) t (enter_calm (hF S2 hS2) args) (fun c hc => by cases hc))
  · obtain ⟨τ, d', v, hl, v', sq, hv, hsq⟩ := hst
    refine ⟨hl.1, fun hfn => ?_⟩
    obtain ⟨_, _, _, fn, hf, hres⟩ := hl
    rw [hfn, hf2] at hf
    cases hf
    rw [results_two hr2] at hres
    injection hv with hv
    subst hv
    show Frame.slot fr q = undef ∨ ∃ a, Frame.slot fr q = .tuple #[a, .bool false]
    have e : Frame.slot fr q = sq := by
      unfold Frame.slot
      generalize fr.tmps.getD q undef = Y at hres ⊢
      generalize fr.tmps.getD r undef = X at hres
      have h3 : (Pure.pure (Value.tuple #[X, Y]) : Sem Value).run P' (w.re τ d') = .ok (.tuple #[X, Y]) (w.re τ d') := rfl
      rw [h3] at hres
      injection hres with h4 _
      injection h4 with h4
      have := congrArg (fun a : Array Value => a[1]?) h4
      simpa using this
    rw [e]; exact hsq
  · obtain ⟨τ, d', v, hl, hR⟩ := hst
    exact ⟨τ, d', v, by rw [← e]; exact hl, hR⟩
  · obtain ⟨τ, d', v, hl, hR⟩ := hst
    rw [hl.1]; simp
/-- What is asked of the program and its twin, whatever the lines are. -/
structure Base (P : Program) (F' : Array Func) (fs : List FuncId) (S S2 : FuncId) (FT2 : FuncId → Prop) (φ : Oper → Oper) (q ch r nt : Nat) (z : Value) (f0 fY fC : FuncId) (body : Code) (chk : Oper) (idc : Nat) (na : Nat) : Prop where
  tw : Tw P F' fs S
  isS : ∀ f ∈ fs, (P.funcs[f]?).isSome = true
  notS : S ∉ fs
  real : ∃ fn, P.funcs[S]? = some fn ∧ fn.body = some body ∧ fn.ntmps = nt ∧ fn.results = #[.tmp r]
  twin : ∃ fn, F'[S]? = some fn ∧ fn.body = some (.seq (.region idc #[chk] false) (mapC φ body)) ∧ fn.ntmps = nt ∧ fn.results = #[.tmp r]
  two : ∃ fn, F'[S2]? = some fn ∧ fn.body = some (mapC φ body) ∧ fn.ntmps = nt ∧ fn.results = #[.tmp r, .tmp q]
  rq : r ≠ q
  q0 : 0 < q
  qn : q < nt
  naq : 0 < na ∧ na ≤ q
  cq : ch ≠ q
  isY : ∃ fn body, F'[fY]? = some fn ∧ fn.body = some body ∧ (fn.name == "runtime.NumGoroutine") = false
  isC : ∃ fn body, F'[fC]? = some fn ∧ fn.body = some body ∧ (fn.name == "runtime.NumGoroutine") = false
  ahead : Ahd2 P fs φ q ch z f0 fY body
  fit : FitC φ (· = q) body
  nosteps : NoSteps (Goes.tw P F')
  static : (Goes.tw P F').follows .staticDataAhead = true
  calm : ∀ f, FT2 f → CalmFn (Goes.tw P F') FT2 f
  ft2 : FT2 S2
  chk : chk.guard = none ∧ chk.dst = none
/-- What is known of the lines of one call, and what follows of it. -/
structure Lines8 (P : Program) (F' : Array Func) (S2 : FuncId) (z : Value) (f0 fY fC : FuncId) (args cargs : Array Value) (B : Nat) (lv aY : Value) (vs0 : List Value) (Ok : World → Prop) : Prop where
  arg : args[0]? = some lv
  okV : ∀ fz x u, Vr fz x u → Ok u → Ok x
  okU : ∀ x u, Vr true x u → Ok x → Ok u
  okB : ∀ u u', (∀ k, k < B → u'.heap[k]? = u.heap[k]?) → Ok u → Ok u'
  callY : ∀ x, Ok x → Calls (Goes.tw P F') fY #[lv] (x.re (fun _ _ => 0) 0) (fun e w' => e = .returned (.tuple #[aY, .bool true, Lv z vs0]) ∧ w' = x.re (fun _ _ => 0) 0)
  call2 : ∀ x, Ok x → ∀ τ, Calls (Goes.tw P F') S2 args (x.re τ 0) (fun e _ => ∃ v sq, e = .returned (.tuple #[v, sq]) ∧ (sq = undef ∨ ∃ a, sq = .tuple #[a, .bool false]))
  sends : ∀ u c, B ≤ c → Ok u → u.heap[c]? = some (.chan 0 #[] false 0 0 false) → SD P c B false u vs0 (newborn P f0 #[lv, .chan (some c)])
theorem enter_frame {P : Program} {f : FuncId} {fn : Func} {body : Code} {nt : Nat} (h : P.funcs[f]? = some fn) (hb : fn.body = some body) (hn : fn.ntmps = nt) (args : Array Value) : Frame.enter P f args .normal = { fn := f, tmps := args ++ Array.replicate (nt - args.size) undef, todo := [.code body], defers := [], mode := .run, kind := .normal } := by
  unfold Frame.enter; simp only [h, Option.map_some, Option.bind_some, hb, hn, Option.getD_some]
/-- **The stroke.** -/
theorem stroke_ends {Lw : World → Prop} {nt na : Nat} {body : Code} {chk : Oper} {idc : Nat} (hK : Base P F' fs S S2 FT2 φ q ch r nt z f0 fY fC body chk idc na) (hMc : ∀ v x u, Mc (c.finish v) r2 x → Vr true x u → Lw u → Ends P Post (G (c.finish v) r2) u)
    (hRe : True) {args cargs : Array Value} (hna : args.size = na) {x : World}
    (hchk : ∀ f : Frame, f.tmps = args ++ Array.replicate (nt - args.size) undef → execOp f.eval chk = callFunc fC cargs)
    (hinv : ∀ f : Frame, Tr (tw P F') FT (Back (tw P F') FT Mc c r2) (Frame.enter (tw P F') fC cargs .normal) [f] x → ∃ lv aY vs0 Ok, Lines8 P F' S2 z f0 fY fC args cargs x.heap.size lv aY vs0 Ok ∧ Ok x ∧ ∃ vc, Tr (tw P F') FT (Back (tw P F') FT Mc c r2) (f.finish vc) [] x)
    (hT : Tr (tw P F') FT (Back (tw P F') FT Mc c r2) (Frame.enter (tw P F') S args .normal) [] x) {u : World} (hV : Vr true x u) (hLw : Lw u) (hLwB : ∀ u1 u2, (∀ k, k < x.heap.size → u2.heap[k]? = u1.heap[k]?) → Lw u1 → Lw u2) : Ends P Post (G (Frame.enter P S args .normal) (c :: r2)) u := by
  obtain ⟨fn, h1, h2, h3, h4⟩ := hK.real
  obtain ⟨fn1, t1, t2, t3, t4⟩ := hK.twin
  obtain ⟨fn2, w1, w2, w3, w4⟩ := hK.two
  obtain ⟨fnc, bc, c1, c2, c3⟩ := hK.isC
  rw [enter_frame (P := tw P F') t1 t2 t3] at hT
  -- up to the check
  have a1 := hT.ctl_inv Back.returning rfl (fr' := { fn := S, tmps := args ++ Array.replicate (nt - args.size) undef, todo := [.code (.region idc #[chk] false), .code (mapC φ body)], defers := [], mode := .run, kind := .normal }) rfl
  have a2 := a1.ctl_inv Back.returning rfl (fr' := { fn := S, tmps := args ++ Array.replicate (nt - args.size) undef, todo := [.inRegion #[chk] [0], .code (mapC φ body)], defers := [], mode := .run, kind := .normal }) rfl
  have hat : AtOp { fn := S, tmps := args ++ Array.replicate (nt - args.size) undef, todo := [.inRegion #[chk] [0], .code (mapC φ body)], defers := [], mode := .run, kind := .normal } chk := ⟨#[chk], 0, [], _, rfl, rfl, by simp [Region.wanted, hK.chk.1]⟩
  obtain ⟨y, hy, ky⟩ := a2.op_get Back.returning rfl hat
  have hy0 := (hy (fun _ _ => 0) 0).1
  rw [hchk _ rfl] at hy0
  have hcall : (callFunc fC cargs).runT (tw P F') (x.re (fun _ _ => 0) 0) #[] = (.ok (Next.enter fC cargs) (x.re (fun _ _ => 0) 0), #[]) := by
    unfold callFunc
    show Sem.runT (tw P F') ((match F'[fC]? with | none => _ | some fn => _ : Sem Next)) _ #[] = _
    rw [c1]
    simp only [c3, c2, Option.isNone_some, Bool.false_eq_true, if_false]
    rfl
  rw [hcall] at hy0
  obtain ⟨g1, _⟩ := Prod.mk.inj hy0
  injection g1 with g2 g3
  have ge : ∀ τ d, (y (fun _ _ => 0) 0).w.re τ d = x.re τ d := fun τ d => ((re_inj g3).2 τ d).symm
  have K := ky (fun _ _ => 0) 0
  unfold OpTo.top OpTo.rest at K
  rw [← g2] at K
  dsimp only at K
  have K' := K.re Back.re ge
  obtain ⟨lv, aY, vs0, Ok, hL, hO, vc, a3⟩ := hinv _ K'
  have hfin : ({ fn := S, tmps := args ++ Array.replicate (nt - args.size) undef, todo := [.inRegion #[chk] [0], .code (mapC φ body)], defers := [], mode := .run, kind := .normal } : Frame).finish vc = { fn := S, tmps := args ++ Array.replicate (nt - args.size) undef, todo := [.inRegion #[chk] [], .code (mapC φ body)], defers := [], mode := .run, kind := .normal } := by
    unfold Frame.finish; simp [hK.chk.2]
  rw [hfin] at a3
  have T1 := a3.ctl_inv Back.returning rfl (fr' := { fn := S, tmps := args ++ Array.replicate (nt - args.size) undef, todo := [.code (mapC φ body)], defers := [], mode := .run, kind := .normal }) rfl
  -- the second tree
  have T2 := tree_two (P' := tw P F') (q := q) (r := r) hK.nosteps hK.static hK.calm (show (tw P F').funcs[S2]? = some fn2 from w1) w4 hK.ft2 (x := sealW x) (args := args) (hL.call2 (sealW x) (hL.okV false (sealW x) u (vr_sealW hV) (hL.okU x u hV hO)))
  rw [enter_frame (P := tw P F') w1 w2 w3] at T2
  rw [enter_frame h1 h2 h3]
  have hS : Strk P F' fs S q r z aY f0 fY lv vs0 x.heap.size (fun u => Ok u ∧ Lw u) := ⟨hK.tw, hK.isS, hK.notS, ⟨fn, h1, h4⟩, ⟨fn1, t1, t4⟩, hK.rq, hK.q0, hK.isY, fun u1 u2 he ho => ⟨hL.okB u1 u2 he ho.1, hLwB u1 u2 he ho.2⟩, fun fz x1 u1 hv ho => hL.callY x1 (hL.okV fz x1 u1 hv ho.1), fun u1 c1 hc ho h => hL.sends u1 c1 hc ho.1 h⟩
  have hn := hK.naq
  have hqn := hK.qn
  have hsz : (args ++ Array.replicate (nt - args.size) undef).size = nt := by simp; omega
  have hsl0 : (args ++ Array.replicate (nt - args.size) undef).getD 0 undef = lv := by
    rw [Array.getD_eq_getD_getElem?, Array.getElem?_append_left (by omega), hL.arg]; rfl
  have hslq : (args ++ Array.replicate (nt - args.size) undef).getD q undef = undef := by
    rw [Array.getD_eq_getD_getElem?, Array.getElem?_append_right (by omega), Array.getElem?_replicate]
    split <;> rfl
  have main := stroke_tree (S := S) (S2 := S2) (FT := FT) (FT2 := FT2) (Post := Post) (Mc := Mc) (φ := φ) (ch := ch) (c := c) (r2 := r2) hS hK.cq (fun v x1 u1 a b o => hMc v x1 u1 a b o.2) T2
  have fin := main .pre [] { fn := S, tmps := args ++ Array.replicate (nt - args.size) undef, todo := [.code (mapC φ body)], defers := [], mode := .run, kind := .normal } { fn := S2, tmps := args ++ Array.replicate (nt - args.size) undef, todo := [.code (mapC φ body)], defers := [], mode := .run, kind := .normal } { fn := S, tmps := args ++ Array.replicate (nt - args.size) undef, todo := [.code body], defers := [], mode := .run, kind := .normal } x u rfl rfl
    ⟨⟨rfl, fun it hit => by rw [List.mem_singleton.1 hit]; exact hK.fit, fun _ _ => rfl, rfl, rfl, rfl⟩, rfl, rfl, rfl, rfl, hsl0, by dsimp only; omega, by dsimp only; omega⟩
    ⟨fun _ => .far (pre := []) (fun _ h => by cases h) hK.ahead, hslq⟩ trivial mids_nil hV (vr_sealW hV) (sealed_sealW x) ⟨hL.okU x u hV hO, hLw⟩ T1
  exact fin
end
end Go.Goes

-- Look
/-
  What an operation that went well tells of the world.
-/
namespace Go.Goes
open Go.Conc
set_option linter.unusedVariables false

theorem bind_ok {P : Program} {α β : Type} {m : Sem α} {f : α → Sem β} {w w' : World} {b : β} (h : (m >>= f).run P w = .ok b w') : ∃ a w1, m.run P w = .ok a w1 ∧ (f a).run P w1 = .ok b w' := by
  have h : Sem.run P (Sem.bind m f) w = .ok b w' := h
  rw [Sem.run_bind'] at h
  cases e : m.run P w with
  | ok a w1 => rw [e] at h; exact ⟨a, w1, rfl, h⟩
  | halt x w1 => rw [e] at h; cases h
theorem pure_ok {P : Program} {α : Type} {a b : α} {w w' : World} (h : (Pure.pure a : Sem α).run P w = .ok b w') : b = a ∧ w' = w := by
  have h' : (Result.ok a w : Result α) = .ok b w' := h
  injection h' with h1 h2; exact ⟨h1.symm, h2.symm⟩
theorem stuck_ok {P : Program} {α : Type} {s : String} {b : α} {w w' : World} (h : (stuck s : Sem α).run P w = .ok b w') : False := by
  have h' : (Result.halt (.stuck s) w : Result α) = .ok b w' := h
  cases h'
theorem unsupported_ok {P : Program} {α : Type} {s : Unsupported} {b : α} {w w' : World} (h : (unsupported s : Sem α).run P w = .ok b w') : False := by
  have h' : (Result.halt (.unsupported s) w : Result α) = .ok b w' := h
  cases h'
theorem under_ok {P : Program} {t : TypeId} {d d' : TypeDesc} {w w' : World} (e : P.underlying t = some d) (h : (underlying t).run P w = .ok d' w') : d' = d ∧ w' = w := by
  unfold underlying at h
  obtain ⟨p, w1, h1, h2⟩ := bind_ok h
  have h1' : (Result.ok P w : Result Program) = .ok p w1 := h1
  injection h1' with a b
  subst a b
  rw [e] at h2
  exact pure_ok h2
theorem info_ok {P : Program} {t : TypeId} {i i' : TypeInfo} {w w' : World} (e : P.info? t = some i) (h : (typeInfo t).run P w = .ok i' w') : i' = i ∧ w' = w := by
  unfold typeInfo at h
  obtain ⟨p, w1, h1, h2⟩ := bind_ok h
  have h1' : (Result.ok P w : Result Program) = .ok p w1 := h1
  injection h1' with a b
  subst a b
  rw [e] at h2
  exact pure_ok h2
theorem size_ok {P : Program} {t : TypeId} {i : TypeInfo} {n : Nat} {w w' : World} (e : P.info? t = some i) (h : (sizeOf t).run P w = .ok n w') : n = i.size ∧ w' = w := by
  unfold sizeOf at h
  obtain ⟨a, w1, h1, h2⟩ := bind_ok h
  obtain ⟨rfl, rfl⟩ := info_ok e h1
  exact pure_ok h2

/-- A value's operation. -/
theorem value_ok {P : Program} {m : Sem Value} {w w' : World} {nx : Next} (h : (do Pure.pure (Next.value (← m)) : Sem Next).run P w = .ok nx w') : ∃ v, nx = .value v ∧ m.run P w = .ok v w' := by
  obtain ⟨v, w1, h1, h2⟩ := bind_ok h
  obtain ⟨rfl, rfl⟩ := pure_ok h2
  exact ⟨v, rfl, h1⟩

/-- What goes well leaves the world as it was. -/
def Still {α : Type} (P : Program) (m : Sem α) : Prop := ∀ w a w', m.run P w = .ok a w' → w' = w
theorem still_bind {P : Program} {α β : Type} {m : Sem α} {f : α → Sem β} (hm : Still P m) (hf : ∀ a, Still P (f a)) : Still P (m >>= f) := by
  intro w b w' h
  obtain ⟨a, w1, h1, h2⟩ := bind_ok h
  rw [hf a _ _ _ h2, hm _ _ _ h1]
theorem still_pure {P : Program} {α : Type} (a : α) : Still P (Pure.pure a : Sem α) := fun w b w' h => (pure_ok h).2
theorem still_stuck {P : Program} {α : Type} (s : String) : Still P (stuck s : Sem α) := fun w b w' h => (stuck_ok h).elim
theorem still_unsupported {P : Program} {α : Type} (s : Unsupported) : Still P (unsupported s : Sem α) := fun w b w' h => (unsupported_ok h).elim
theorem still_program {P : Program} : Still P Go.program := fun w b w' h => by
  have h' : (Result.ok P w : Result Program) = .ok b w' := h
  injection h' with a b; exact b.symm
theorem still_shape {P : Program} (r : Nat) : Still P (shape r) := fun w b w' h => by
  have h' : (Result.ok (w.shape? r) w : Result _) = .ok b w' := h
  injection h' with a b; exact b.symm
theorem getObj_ok {P : Program} {r : Nat} {o : Obj} {w w' : World} (h : (getObj r).run P w = .ok o w') : w.heap[r]? = some o ∧ w' = w := by
  unfold getObj at h
  simp only [Sem.run] at h
  split at h
  · cases h
  · rename_i e
    injection h with a b
    exact ⟨by rw [e, a], b.symm⟩
  · cases h
theorem still_getObj {P : Program} (r : Nat) : Still P (getObj r) := fun w b w' h => (getObj_ok h).2
theorem load_ok {P : Program} {a : Addr} {v : Value} {w w' : World} (h : (load a).run P w = .ok v w') : w' = w ∧ (w.cell? a = some v ∨ ∃ l, w.farLoad P a false = .ok (v, l)) := by
  unfold load at h
  simp only [Sem.run] at h
  split at h
  · rename_i e
    injection h with a b
    exact ⟨b.symm, .inl (by rw [e, a])⟩
  · split at h
    · rename_i e
      injection h with a b
      subst a
      exact ⟨b.symm, .inr ⟨_, e⟩⟩
    · cases h
theorem still_ite {P : Program} {α : Type} {c : Prop} [Decidable c] {a b : Sem α} (ha : Still P a) (hb : Still P b) : Still P (if c then a else b) := by split <;> assumption
theorem still_typeInfo {P : Program} (t : TypeId) : Still P (typeInfo t) := by
  unfold typeInfo
  refine still_bind still_program (fun p => ?_)
  split
  · exact still_pure _
  · exact still_stuck _
theorem still_viewAt {P : Program} (r : Nat) : Still P (viewAt r) := by
  unfold viewAt
  refine still_bind (still_shape _) (fun s => ?_)
  refine still_ite (still_pure _) (still_bind (still_getObj _) (fun o => ?_))
  split <;> exact still_pure _
theorem still_numberAt {P : Program} (r : Nat) : Still P (numberAt r) := by
  unfold numberAt
  refine still_bind (still_shape _) (fun s => ?_)
  refine still_ite (still_pure _) (still_bind (still_getObj _) (fun o => ?_))
  split <;> exact still_pure _
theorem still_noView {P : Program} (a : Addr) : Still P (noView a) := by
  unfold noView
  refine still_bind (still_viewAt _) (fun s => still_ite (still_unsupported _) (still_pure _))
theorem still_byteOf {P : Program} (a : Addr) : Still P (byteOf a) := by
  unfold byteOf
  repeat' (first | exact still_pure _ | exact still_stuck _ | exact still_unsupported _ | exact still_program | exact still_shape _ | exact still_noView _ | refine still_bind ?_ (fun _ => ?_) | refine still_ite ?_ ?_ | split | dsimp only)
theorem still_addrMod {P : Program} (k : IntKind) (a : Addr) (n : Int) : Still P (Op.addrMod k a n) := by
  unfold Op.addrMod
  repeat' (first | exact still_pure _ | exact still_stuck _ | exact still_unsupported _ | exact still_program | exact still_shape _ | exact still_typeInfo _ | exact still_byteOf _ | refine still_bind ?_ (fun _ => ?_) | refine still_ite ?_ ?_ | split | dsimp only)
theorem bounds_ok {P : Program} {α : Type} {k : IntKind} {i n : Int} {c : BoundsCode} {b : α} {w w' : World} (h : (boundsPanic k i n c : Sem α).run P w = .ok b w') : False := by
  have hr : ∀ (s : Bool) (w1 : World), (runtimePanic (.bounds (IntKind.i64.wrap i) n s c) : Sem α).run P w1 = .ok b w' → False := fun s w1 h2 => by
    have h3 : (Result.halt (.panic (.iface P.rt.boundsError (.agg #[.int .i64 (IntKind.i64.wrap i), .int .i64 n, .bool s, .int .u8 c.toNat]))) w1 : Result α) = .ok b w' := h2
    cases h3
  unfold boundsPanic at h
  dsimp only at h
  split at h
  · obtain ⟨s, w1, _, h2⟩ := bind_ok h
    exact hr _ _ h2
  · obtain ⟨s, w1, _, h2⟩ := bind_ok h
    exact hr _ _ h2
theorem len_look {P : Program} {t e : TypeId} {tt : TypeId} {x v : Value} {w w' : World} (ht : P.underlying t = some (.slice e)) (h : (Builtin.len_ #[t] tt #[x]).run P w = .ok v w') : (∃ p n c, x = .slice p n c ∧ v = goInt n) ∧ w' = w := by
  unfold Builtin.len_ at h
  obtain ⟨d, w1, h1, h2⟩ := bind_ok h
  obtain ⟨rfl, rfl⟩ := under_ok ht h1
  cases x <;> first | exact (stuck_ok h2).elim | skip
  rename_i p n c
  obtain ⟨rfl, rfl⟩ := pure_ok h2
  exact ⟨⟨p, n, c, rfl, rfl⟩, rfl⟩
theorem index_look {P : Program} {t e : TypeId} {i : TypeInfo} {p : Option Addr} {n c : Nat} {k : Int} {kk : IntKind} {v : Value} {w w' : World} (ht : P.underlying t = some (.slice e)) (hi : P.info? e = some i)
    (h : (Instr.indexAt t (.slice p n c) (.int kk k)).run P w = .ok v w') : (∃ a, p = some a ∧ 0 ≤ k ∧ k < n ∧ v = .pointer (some (a.add (k.toNat * i.size)))) ∧ w' = w := by
  unfold Instr.indexAt at h
  obtain ⟨q, w1, h1, hA⟩ := bind_ok h
  obtain ⟨rfl, rfl⟩ := pure_ok (a := (kk, k)) h1
  clear h h1
  obtain ⟨d, w2, h2, hB⟩ := bind_ok hA
  obtain ⟨rfl, rfl⟩ := under_ok ht h2
  clear hA h2
  obtain ⟨q, w3, h3, hC⟩ := bind_ok hB
  obtain ⟨rfl, rfl⟩ := pure_ok h3
  clear hB h3
  obtain ⟨d, w4, h4, hD⟩ := bind_ok hC
  obtain ⟨rfl, rfl⟩ := under_ok ht h4
  clear hC h4
  dsimp only at hD
  rw [Bool.and_false] at hD
  cases p with
  | none => exact (bounds_ok hD).elim
  | some a =>
    dsimp only at hD
    split at hD
    · rename_i hk
      obtain ⟨m, w5, h5, hE⟩ := bind_ok hD
      obtain ⟨rfl, rfl⟩ := size_ok hi h5
      obtain ⟨rfl, rfl⟩ := pure_ok hE
      exact ⟨⟨a, rfl, hk.1, hk.2, rfl⟩, rfl⟩
    · exact (bounds_ok hD).elim
/-- The sum of a number and one. -/
theorem add_look {P : Program} {a : Int} {t : TypeId} {v : Value} {w w' : World} (h0 : 0 ≤ a) (h1 : a < 2 ^ 62) (h : (binOp .add t (.int .i64 a) (.int .i64 1)).run P w = .ok v w') : v = .int .i64 (a + 1) ∧ w' = w := by
  have h' : (Pure.pure (Value.int .i64 (IntKind.i64.wrap (a + 1))) : Sem Value).run P w = .ok v w' := h
  obtain ⟨rfl, rfl⟩ := pure_ok h'
  refine ⟨?_, rfl⟩
  congr 1
  rw [IntKind.wrap_i64]; omega
theorem sum_look {P : Program} {a b : Int} {t : TypeId} {v : Value} {w w' : World} (h0 : 0 ≤ a + b) (h1 : a + b < 2 ^ 62) (h : (binOp .add t (.int .i64 a) (.int .i64 b)).run P w = .ok v w') : v = .int .i64 (a + b) ∧ w' = w := by
  have h' : (Pure.pure (Value.int .i64 (IntKind.i64.wrap (a + b))) : Sem Value).run P w = .ok v w' := h
  obtain ⟨rfl, rfl⟩ := pure_ok h'
  refine ⟨?_, rfl⟩
  congr 1
  rw [IntKind.wrap_i64]; omega
theorem less_look {P : Program} {a b : Int} {t : TypeId} {v : Value} {w w' : World} (h : (binOp .lss t (.int .i64 a) (.int .i64 b)).run P w = .ok v w') : v = .bool (a < b) ∧ w' = w := by
  have h' : (Pure.pure (Value.bool (a < b)) : Sem Value).run P w = .ok v w' := h
  exact pure_ok h'
/-- What is compared with a whole number is one. -/
theorem int_look {P : Program} {x : Value} {b : Int} {t : TypeId} {v : Value} {w w' : World} (h : (binOp .lss t x (.int .i64 b)).run P w = .ok v w') : (∃ a, x = .int .i64 a ∧ v = .bool (a < b)) ∧ w' = w := by
  cases x with
  | int k a =>
    by_cases e : k = .i64
    · subst e
      obtain ⟨rfl, rfl⟩ := less_look h
      exact ⟨⟨a, rfl, rfl⟩, rfl⟩
    · unfold binOp at h
      simp only [ne_eq, e, not_false_eq_true, if_true] at h
      exact (stuck_ok h).elim
  | pointer p => cases p <;> exact (unsupported_ok h).elim
  | _ => exact (stuck_ok h).elim
/-- A place whose address is taken by number is none in memory seen as another type. -/
theorem place_look {P : Program} {a : Addr} {t : TypeId} {v : Value} {w w' : World} (h : (binOp .rem t (.pointer (some a)) (.int .u64 1)).run P w = .ok v w') : (∀ b u, w.heap[a.block]? ≠ some (.view b u)) ∧ w' = w := by
  have h' : (do Op.addrMod .u64 (← behindNumber a).1 1 : Sem Value).run P w = .ok v w' := h
  refine ⟨fun b u hv => ?_, ?_⟩
  · have hs : w.shape? a.block = none := by unfold World.shape?; rw [hv]
    obtain ⟨⟨a', l⟩, w1, h1, h2⟩ := bind_ok h'
    unfold behindNumber numberAt at h1
    obtain ⟨x, w2, h3, h4⟩ := bind_ok h1
    obtain ⟨s, w3, h5, h6⟩ := bind_ok h3
    have h5' : (Result.ok (w.shape? a.block) w : Result (Option (TypeId × Nat))) = .ok s w3 := h5
    injection h5' with e1 e2
    subst e1 e2
    rw [hs] at h6
    obtain ⟨o, w4, h7, h8⟩ := bind_ok (show (do match ← getObj a.block with | .number a lost => pure (some (a, lost)) | _ => pure none : Sem (Option (Addr × Bool))).run P _ = _ from h6)
    obtain ⟨e3, rfl⟩ := getObj_ok h7
    rw [hv] at e3
    cases e3
    obtain ⟨rfl, rfl⟩ := pure_ok h8
    have h9 := pure_ok h4
    obtain ⟨h10, rfl⟩ := h9
    cases h10
    unfold Op.addrMod at h2
    obtain ⟨s, w5, h11, h12⟩ := bind_ok h2
    have h11' : (Result.ok (w1.shape? a.block) w1 : Result (Option (TypeId × Nat))) = .ok s w5 := h11
    injection h11' with e1 e2
    subst e1 e2
    rw [hs] at h12
    exact unsupported_ok h12
  · exact (still_bind (by unfold behindNumber; exact still_bind (still_numberAt _) (fun _ => still_pure _)) (fun _ => still_addrMod _ _ _)) _ _ _ h'
/-- A load that goes well, no memory seen as another type: there is the cell. -/
theorem load_look {P : Program} {a : Addr} {v : Value} {w w' : World} (hn : ∀ b u, w.heap[a.block]? ≠ some (.view b u)) (h : (load a).run P w = .ok v w') : w.cell? a = some v ∧ w' = w := by
  obtain ⟨rfl, h1 | ⟨l, h1⟩⟩ := load_ok h
  · exact ⟨h1, rfl⟩
  · unfold World.farLoad at h1
    split at h1
    · rename_i b u hb
      exact (hn b u hb).elim
    · cases h1
theorem add_block (a : Addr) (n : Nat) : (a.add n).block = a.block := by unfold Addr.add; split <;> rfl
/-- The value of one cell. -/
theorem one_look {P : Program} {t : TypeId} {a : Addr} {v : Value} {w w' : World} {e : TypeId} (ht : P.underlying t = some (.slice e)) (hn : ∀ b u, w.heap[a.block]? ≠ some (.view b u)) (h : (Instr.loadAt t (.pointer (some a))).run P w = .ok v w') : w.cell? a = some v ∧ w' = w := by
  have h0 : (loadVar t a).run P w = .ok v w' := h
  unfold loadVar isAgg at h0
  obtain ⟨b, w1, h1, h2⟩ := bind_ok h0
  obtain ⟨d, w2, h3, h4⟩ := bind_ok h1
  obtain ⟨rfl, rfl⟩ := under_ok ht h3
  obtain ⟨rfl, rfl⟩ := pure_ok h4
  exact load_look hn h2
/-- The value of two cells. -/
theorem two_look {P : Program} {t : TypeId} {a : Addr} {v : Value} {w w' : World} {fs : Array Field} {i : TypeInfo} (ht : P.underlying t = some (.struct fs)) (hi : P.info? t = some i) (hsz : i.size = 2) (hn : ∀ b u, w.heap[a.block]? ≠ some (.view b u))
    (h : (Instr.loadAt t (.pointer (some a))).run P w = .ok v w') : (∃ x y, w.cell? (a.add 0) = some x ∧ w.cell? (a.add 1) = some y ∧ v = .agg #[x, y]) ∧ w' = w := by
  have h0 : (loadVar t a).run P w = .ok v w' := h
  unfold loadVar isAgg at h0
  obtain ⟨b, w1, h1, h2⟩ := bind_ok h0
  obtain ⟨d, w2, h3, h4⟩ := bind_ok h1
  obtain ⟨rfl, rfl⟩ := under_ok ht h3
  obtain ⟨rfl, rfl⟩ := pure_ok h4
  obtain ⟨n, w3, h5, h6⟩ := bind_ok (show (do pure (Value.agg (← loadCells a (← sizeOf t))) : Sem Value).run P _ = _ from h2)
  obtain ⟨rfl, rfl⟩ := size_ok hi h5
  rw [hsz] at h6
  unfold loadCells at h6
  obtain ⟨cs, w4, h7, h8⟩ := bind_ok h6
  obtain ⟨rfl, rfl⟩ := pure_ok h8
  unfold loadCellsFrom at h7
  obtain ⟨x, w5, h9, h10⟩ := bind_ok h7
  obtain ⟨e1, rfl⟩ := load_look (by rw [add_block]; exact hn) h9
  unfold loadCellsFrom at h10
  obtain ⟨y, w6, h11, h12⟩ := bind_ok h10
  obtain ⟨e2, rfl⟩ := load_look (by rw [add_block]; exact hn) h11
  unfold loadCellsFrom at h12
  obtain ⟨rfl, rfl⟩ := pure_ok h12
  exact ⟨⟨x, y, e1, e2, rfl⟩, rfl⟩
/-- A field of two. -/
theorem field_look {P : Program} {t : TypeId} {fs : Array Field} {f : Field} {v : Value} {cs : Array Value} {k : Nat} {d : IntKind} {w w' : World} (ht : P.underlying t = some (.struct fs)) (hf : fs[k]? = some f) (hI : P.underlying f.type = some (.int d)) (h : (Instr.field t (.agg cs) k).run P w = .ok v w') : cs[f.offset]? = some v ∧ w' = w := by
  unfold Instr.field at h
  obtain ⟨u, w1, h1, h2⟩ := bind_ok h
  obtain ⟨rfl, rfl⟩ := under_ok ht h1
  dsimp only at h2
  rw [hf] at h2
  obtain ⟨c, w2, h3, h4⟩ := bind_ok h2
  obtain ⟨rfl, rfl⟩ := pure_ok (show (Pure.pure cs : Sem (Array Value)).run P _ = _ from h3)
  unfold part isAgg at h4
  obtain ⟨b, w3, h5, h6⟩ := bind_ok h4
  obtain ⟨u, w4, h7, h8⟩ := bind_ok h5
  obtain ⟨rfl, rfl⟩ := under_ok hI h7
  obtain ⟨rfl, rfl⟩ := pure_ok h8
  have h9 : (match c[f.offset]? with | some v => pure v | none => stuck "part: no such cell" : Sem Value).run P _ = .ok v w' := h6
  split at h9
  · rename_i e
    obtain ⟨rfl, rfl⟩ := pure_ok h9
    exact ⟨e, rfl⟩
  · exact (stuck_ok h9).elim
end Go.Goes

-- Check
/-
  The check ahead of the twin's stroke: from its tree, what the lists hold.
-/
namespace Go.Goes
open Go.Conc
set_option linter.unusedVariables false

def opx (d : Option Tmp) (o : Op) (t : TypeId) : Oper := { dst := d, op := o, type := t, pos := "", after := #[], guard := none }
def at_ (fn : FuncId) (tmps : Array Value) (todo : List Item) : Frame := { fn := fn, tmps := tmps, todo := todo, defers := [], mode := .run, kind := .normal }
def x0 (x : World) : World := x.re (fun _ _ => 0) 0

section
variable {P : Program} {F : FuncId → Prop} {Stop : Frame → World → Prop} {rest : List Frame} {x : World}
theorem Tr.op_look (hre : ∀ fr u w, (∀ τ d, u.re τ d = w.re τ d) → Stop fr u → Stop fr w) (hSr : ∀ fr w, Stop fr w → fr.mode = .returning) {fr : Frame} {o : Oper} (h : Tr P F Stop fr rest x) (hm : fr.mode = .run) (ho : AtOp fr o) :
    ∃ nx w', (execOp fr.eval o).run P (x0 x) = .ok nx w' ∧ (w' = x0 x → Tr P F Stop (({ nx := nx, w := x, k := 0, fs := #[] } : OpTo).top P fr) (({ nx := nx, w := x, k := 0, fs := #[] } : OpTo).rest fr rest) x) := by
  obtain ⟨y, hy, ky⟩ := h.op_get hSr hm ho
  have hy0 := (hy (fun _ _ => 0) 0).1
  have K := ky (fun _ _ => 0) 0
  rw [Sem.runT_eq] at hy0
  refine ⟨_, _, (Prod.mk.inj hy0).1, fun e => ?_⟩
  have ge : ∀ τ d, (y (fun _ _ => 0) 0).w.re τ d = x.re τ d := (re_inj e).2
  exact K.re hre ge
theorem Tr.val_at (hre : ∀ fr u w, (∀ τ d, u.re τ d = w.re τ d) → Stop fr u → Stop fr w) (hSr : ∀ fr w, Stop fr w → fr.mode = .returning) {fn : FuncId} {tmps : Array Value} {ops : Array Oper} {i : Nat} {l : List Nat} {k : List Item} {o : Oper} {d : Tmp}
    (h : Tr P F Stop (at_ fn tmps (.inRegion ops (i :: l) :: k)) rest x) (ho : ops[i]? = some o) (hg : o.guard = none) (hd : o.dst = some d) {Φ : Value → Prop}
    (hlook : ∀ nx w', (execOp (at_ fn tmps (.inRegion ops (i :: l) :: k)).eval o).run P (x0 x) = .ok nx w' → ∃ v, nx = .value v ∧ w' = x0 x ∧ Φ v) :
    ∃ v, Φ v ∧ Tr P F Stop (at_ fn (tmps.setIfInBounds d v) (.inRegion ops l :: k)) rest x := by
  obtain ⟨nx, w', h1, h2⟩ := h.op_look hre hSr rfl (o := o) ⟨ops, i, l, k, rfl, ho, by unfold Region.wanted; rw [hg]⟩
  obtain ⟨v, rfl, e, hv⟩ := hlook _ _ h1
  refine ⟨v, hv, ?_⟩
  have h3 := h2 e
  have e2 : (at_ fn tmps (.inRegion ops (i :: l) :: k)).finish v = at_ fn (tmps.setIfInBounds d v) (.inRegion ops l :: k) := by
    unfold at_ Frame.finish
    simp [ho, hd]
  rw [← e2]
  exact h3
end

theorem exec_len (ρ : Operand → Value) (d : Option Tmp) (t tt : TypeId) (a : Operand) : execOp ρ (opx d (.call { callee := .builtin .len, args := #[a], argTypes := #[t] }) tt) = (do Pure.pure (Next.value (← Builtin.len_ #[t] tt #[ρ a])) : Sem Next) := by
  show (do Pure.pure (Next.value (← Builtin.len_ #[t] tt (#[a].map ρ))) : Sem Next) = _
  simp
theorem exec_call (ρ : Operand → Value) (hρ : ∀ f, ρ (.func f) = .func (.func f) #[] #[]) (d : Option Tmp) (tt : TypeId) (f : FuncId) (as : List Operand) (ts : Array TypeId) : execOp ρ (opx d (.call { callee := .value (.func f), args := as.toArray, argTypes := ts }) tt) = callFunc f (as.map ρ).toArray := by
  have e : resolve ρ { callee := .value (.func f), args := as.toArray, argTypes := ts } tt = Pure.pure { target := .fn (.func f) #[], args := #[] ++ as.toArray.map ρ } := by
    unfold resolve; simp only [hρ]; rfl
  unfold execOp opx
  dsimp only
  rw [e]
  show callFunc f ((#[] ++ as.toArray.map ρ) ++ #[]) = _
  simp

theorem bin_ok {P : Program} {ρ : Operand → Value} {d : Option Tmp} {op : BinOp} {t t2 tt : TypeId} {a b : Operand} {w w' : World} {nx : Next} (h1 : op = .lss ∨ op = .rem ∨ op = .add) (h : (execOp ρ (opx d (.binOp op t a b t2) tt)).run P w = .ok nx w') : ∃ v, nx = .value v ∧ (binOp op t (ρ a) (ρ b)).run P w = .ok v w' := by
  obtain ⟨v, rfl, h2⟩ := value_ok (m := (do eqGuard op t a b (ρ a) (ρ b); binOp op t (ρ a) (ρ b))) h
  refine ⟨v, rfl, ?_⟩
  obtain ⟨u, w1, h3, h4⟩ := bind_ok h2
  have e : (eqGuard op t a b (ρ a) (ρ b)) = (Pure.pure () : Sem Unit) := by rcases h1 with rfl | rfl | rfl <;> rfl
  rw [e] at h3
  obtain ⟨_, rfl⟩ := pure_ok h3
  exact h4

/-- The types of the lists. -/
structure Ts (P : Program) (tI tPt tSl tLs : TypeId) where
  fs : Array Field
  f0 : Field
  f1 : Field
  iPt : TypeInfo
  iSl : TypeInfo
  hPt : P.underlying tPt = some (.struct fs)
  h0 : fs[0]? = some f0
  h1 : fs[1]? = some f1
  t0 : P.underlying f0.type = some (.int .i64)
  t1 : P.underlying f1.type = some (.int .i64)
  o0 : f0.offset = 0
  o1 : f1.offset = 1
  hi : P.info? tPt = some iPt
  s2 : iPt.size = 2
  hSl : P.underlying tSl = some (.slice tPt)
  hj : P.info? tSl = some iSl
  s1 : iSl.size = 1
  hLs : P.underlying tLs = some (.slice tSl)
  hI : P.underlying tI = some (.int .i64)

def bigP : Int := 1048577
def bigL : Int := 4300000000001
def bigS : Int := 2900000000001
def oLen (t tI : TypeId) : Oper := opx (some 3) (.call { callee := .builtin .len, args := #[.tmp 0], argTypes := #[t] }) tI
def oLt (tI : TypeId) : Oper := opx (some 4) (.binOp .lss tI (.tmp 1) (.tmp 3) tI) tI
def oMax (tI : TypeId) (big : Int) : Oper := opx (some 5) (.binOp .lss tI (.tmp 3) (.const (.int .i64 big)) tI) tI
def oNo (tI : TypeId) : Oper := opx (some 5) (.field tI (.const (.int .i64 0)) 0) tI
def oAt (t tI : TypeId) : Oper := opx (some 6) (.indexAddr t (.tmp 0) (.tmp 1)) tI
def oRem (tI : TypeId) : Oper := opx (some 7) (.binOp .rem tI (.tmp 6) (.const (.int .u64 1)) tI) tI
def oLoad (t : TypeId) : Oper := opx (some 8) (.load t (.tmp 6)) t
def oX (tPt tI : TypeId) : Oper := opx (some 9) (.field tPt (.tmp 8) 0) tI
def oX0 (tI : TypeId) : Oper := opx (some 10) (.binOp .lss tI (.tmp 9) (.const (.int .i64 0)) tI) tI
def oY (tPt tI : TypeId) : Oper := opx (some 11) (.field tPt (.tmp 8) 1) tI
def oY0 (tI : TypeId) : Oper := opx (some 12) (.binOp .lss tI (.tmp 11) (.const (.int .i64 0)) tI) tI
def oNext (tI : TypeId) : Oper := opx (some 13) (.binOp .add tI (.tmp 1) (.const (.int .i64 1)) tI) tI
def oCall (f : FuncId) (a : Tmp) (b c : Operand) (ts : Array TypeId) (tI : TypeId) : Oper := opx none (.call { callee := .value (.func f), args := [.tmp a, b, c].toArray, argTypes := ts }) tI
def opsA (t tI : TypeId) (big : Int) : Array Oper := #[oLen t tI, oLt tI, oMax tI big]
def opsX (tI : TypeId) : Array Oper := #[oNo tI]
def ops1 (tI tPt tSl : TypeId) (w1 : FuncId) : Array Oper := #[oAt tSl tI, oRem tI, oLoad tPt, oX tPt tI, oX0 tI, oY tPt tI, oY0 tI, oNext tI, oCall w1 0 (.tmp 13) (.tmp 2) #[tSl, tI, tI] tI]
def bodyW (t tI : TypeId) (big : Int) (ops : Array Oper) : Code := .seq (.region 0 (opsA t tI big) false) (.cond (.tmp 5) (.cond (.tmp 4) (.region 1 ops false) .skip) (.region 2 (opsX tI) false))

section
variable {P : Program} {F : FuncId → Prop} {Stop : Frame → World → Prop} {rest : List Frame} {x : World} {tI tPt tSl tLs : TypeId}
/-- The first piece: the length is asked for. -/
theorem head_look (hre : ∀ fr u w, (∀ τ d, u.re τ d = w.re τ d) → Stop fr u → Stop fr w) (hSr : ∀ fr w, Stop fr w → fr.mode = .returning) (hI : P.underlying tI = some (.int .i64)) {t e : TypeId} (ht : P.underlying t = some (.slice e)) {big : Int} {ops : Array Oper} {fn : FuncId} {v z : Value} {k : Nat} {m : List Value}
    (h : Tr P F Stop (at_ fn ([v, .int .i64 k, z, undef, undef, undef] ++ m).toArray [.code (bodyW t tI big ops)]) rest x) :
    ∃ p n c, v = .slice p n c ∧ (n : Int) < big ∧ ((n ≤ k ∧ Tr P F Stop { (at_ fn ([v, .int .i64 k, z, .int .i64 n, .bool false, .bool true] ++ m).toArray []) with mode := .returning } rest x) ∨
      (k < n ∧ Tr P F Stop (at_ fn ([v, .int .i64 k, z, .int .i64 n, .bool true, .bool true] ++ m).toArray [.inRegion ops (List.range ops.size)]) rest x)) := by
  have a1 := h.ctl_inv hSr rfl (fr' := at_ fn ([v, .int .i64 k, z, undef, undef, undef] ++ m).toArray [.code (.region 0 (opsA t tI big) false), .code (.cond (.tmp 5) (.cond (.tmp 4) (.region 1 ops false) .skip) (.region 2 (opsX tI) false))]) rfl
  have a2 := a1.ctl_inv hSr rfl (fr' := at_ fn ([v, .int .i64 k, z, undef, undef, undef] ++ m).toArray [.inRegion (opsA t tI big) [0, 1, 2], .code (.cond (.tmp 5) (.cond (.tmp 4) (.region 1 ops false) .skip) (.region 2 (opsX tI) false))]) rfl
  clear h a1
  obtain ⟨n1, ⟨p, n, c, hv, rfl⟩, a3⟩ := a2.val_at hre hSr (o := oLen t tI) (d := 3) rfl rfl rfl (Φ := fun r => ∃ p n c, v = .slice p n c ∧ r = .int .i64 (n : Int)) (fun nx w' hr => by
    unfold oLen at hr
    rw [exec_len] at hr
    obtain ⟨r, rfl, h2⟩ := value_ok hr
    obtain ⟨⟨p, n, c, hv, rfl⟩, rfl⟩ := len_look (x := v) ht h2
    exact ⟨_, rfl, rfl, p, n, c, hv, rfl⟩)
  subst hv
  clear a2
  have a4 : Tr P F Stop (at_ fn ([Value.slice p n c, .int .i64 k, z, .int .i64 n, undef, undef] ++ m).toArray [.inRegion (opsA t tI big) [1, 2], .code (.cond (.tmp 5) (.cond (.tmp 4) (.region 1 ops false) .skip) (.region 2 (opsX tI) false))]) rest x := by simpa using a3
  clear a3
  obtain ⟨n2, rfl, a5⟩ := a4.val_at hre hSr (o := oLt tI) (d := 4) rfl rfl rfl (Φ := fun r => r = .bool ((k : Int) < n)) (fun nx w' hr => by
    obtain ⟨r, rfl, h2⟩ := bin_ok (.inl rfl) hr
    obtain ⟨rfl, rfl⟩ := less_look (a := k) (b := n) h2
    exact ⟨_, rfl, rfl, rfl⟩)
  clear a4
  have a6 : Tr P F Stop (at_ fn ([Value.slice p n c, .int .i64 k, z, .int .i64 n, .bool ((k : Int) < n), undef] ++ m).toArray [.inRegion (opsA t tI big) [2], .code (.cond (.tmp 5) (.cond (.tmp 4) (.region 1 ops false) .skip) (.region 2 (opsX tI) false))]) rest x := by simpa using a5
  clear a5
  obtain ⟨n3, rfl, a7⟩ := a6.val_at hre hSr (o := oMax tI big) (d := 5) rfl rfl rfl (Φ := fun r => r = .bool ((n : Int) < big)) (fun nx w' hr => by
    obtain ⟨r, rfl, h2⟩ := bin_ok (.inl rfl) hr
    obtain ⟨rfl, rfl⟩ := less_look (a := n) (b := big) h2
    exact ⟨_, rfl, rfl, rfl⟩)
  clear a6
  have a8 : Tr P F Stop (at_ fn ([Value.slice p n c, .int .i64 k, z, .int .i64 n, .bool ((k : Int) < n), .bool ((n : Int) < big)] ++ m).toArray [.inRegion (opsA t tI big) [], .code (.cond (.tmp 5) (.cond (.tmp 4) (.region 1 ops false) .skip) (.region 2 (opsX tI) false))]) rest x := by simpa using a7
  clear a7
  have a9 := a8.ctl_inv hSr rfl (fr' := at_ fn ([Value.slice p n c, .int .i64 k, z, .int .i64 n, .bool ((k : Int) < n), .bool ((n : Int) < big)] ++ m).toArray [.code (.cond (.tmp 5) (.cond (.tmp 4) (.region 1 ops false) .skip) (.region 2 (opsX tI) false))]) rfl
  clear a8
  by_cases hb : (n : Int) < big
  · rw [decide_eq_true hb] at a9
    refine ⟨p, n, c, rfl, hb, ?_⟩
    have b1 := a9.ctl_inv hSr rfl (fr' := at_ fn ([Value.slice p n c, .int .i64 k, z, .int .i64 n, .bool ((k : Int) < n), .bool true] ++ m).toArray [.code (.cond (.tmp 4) (.region 1 ops false) .skip)]) rfl
    clear a9
    by_cases hk : (k : Int) < n
    · rw [decide_eq_true hk] at b1
      have b2 := b1.ctl_inv hSr rfl (fr' := at_ fn ([Value.slice p n c, .int .i64 k, z, .int .i64 n, .bool true, .bool true] ++ m).toArray [.code (.region 1 ops false)]) rfl
      exact .inr ⟨by omega, b2.ctl_inv hSr rfl rfl⟩
    · rw [decide_eq_false hk] at b1
      have b2 := b1.ctl_inv hSr rfl (fr' := at_ fn ([Value.slice p n c, .int .i64 k, z, .int .i64 n, .bool false, .bool true] ++ m).toArray [.code .skip]) rfl
      have b3 := b2.ctl_inv hSr rfl (fr' := at_ fn ([Value.slice p n c, .int .i64 k, z, .int .i64 n, .bool false, .bool true] ++ m).toArray []) rfl
      exact .inl ⟨by omega, b3.ctl_inv hSr rfl rfl⟩
  · rw [decide_eq_false hb] at a9
    have b1 := a9.ctl_inv hSr rfl (fr' := at_ fn ([Value.slice p n c, .int .i64 k, z, .int .i64 n, .bool ((k : Int) < n), .bool false] ++ m).toArray [.code (.region 2 (opsX tI) false)]) rfl
    have b2 := b1.ctl_inv hSr rfl (fr' := at_ fn ([Value.slice p n c, .int .i64 k, z, .int .i64 n, .bool ((k : Int) < n), .bool false] ++ m).toArray [.inRegion (opsX tI) [0]]) rfl
    obtain ⟨_, hf, _⟩ := b2.val_at hre hSr (o := oNo tI) (d := 5) rfl rfl rfl (Φ := fun r => False) (fun nx w' hr => by
      obtain ⟨r, rfl, h2⟩ := value_ok (m := Instr.field tI (.int .i64 0) 0) hr
      unfold Instr.field at h2
      obtain ⟨u, w1, h3, h4⟩ := bind_ok h2
      obtain ⟨rfl, rfl⟩ := under_ok hI h3
      exact (stuck_ok h4).elim)
    exact hf.elim

/-- The two numbers of a point in a list. -/
def PtAt (x : World) (p : Option Addr) (j : Nat) : Prop := ∃ a X Y, p = some a ∧ x.cell? ((a.add (j * 2)).add 0) = some (.int .i64 X) ∧ x.cell? ((a.add (j * 2)).add 1) = some (.int .i64 Y)
theorem round_look (hre : ∀ fr u w, (∀ τ d, u.re τ d = w.re τ d) → Stop fr u → Stop fr w) (hSr : ∀ fr w, Stop fr w → fr.mode = .returning) (hT : Ts P tI tPt tSl tLs) {w1 fn : FuncId} {p : Option Addr} {n c k : Nat} {z : Value} (hkn : k < n) (hn : (n : Int) < bigP)
    (hc : ∀ args w, (callFunc w1 args).run P w = .ok (.enter w1 args) w)
    (h : Tr P F Stop (at_ fn ([Value.slice p n c, .int .i64 k, z, .int .i64 n, .bool true, .bool true] ++ [undef, undef, undef, undef, undef, undef, undef, undef]).toArray [.inRegion (ops1 tI tPt tSl w1) [0, 1, 2, 3, 4, 5, 6, 7, 8]]) rest x) :
    PtAt x p k ∧ ∃ tmps, Tr P F Stop (Frame.enter P w1 #[.slice p n c, .int .i64 ((k + 1 : Nat) : Int), z] .normal) (at_ fn tmps [.inRegion (ops1 tI tPt tSl w1) [8]] :: rest) x := by
  obtain ⟨_, ⟨a, rfl, rfl⟩, a1⟩ := h.val_at hre hSr (o := oAt tSl tI) (d := 6) rfl rfl rfl (Φ := fun r => ∃ a, p = some a ∧ r = .pointer (some (a.add (k * 2)))) (fun nx w' hr => by
    obtain ⟨r, rfl, h2⟩ := value_ok (m := Instr.indexAt tSl (.slice p n c) (.int .i64 k)) hr
    obtain ⟨⟨a, ha, _, _, rfl⟩, rfl⟩ := index_look hT.hSl hT.hi h2
    rw [hT.s2]
    exact ⟨_, rfl, rfl, a, ha, by simp⟩)
  clear h
  have b1 : Tr P F Stop (at_ fn [Value.slice (some a) n c, .int .i64 k, z, .int .i64 n, .bool true, .bool true, .pointer (some (a.add (k * 2))), undef, undef, undef, undef, undef, undef, undef].toArray [.inRegion (ops1 tI tPt tSl w1) [1, 2, 3, 4, 5, 6, 7, 8]]) rest x := by simpa using a1
  clear a1
  obtain ⟨v6, hnv, a2⟩ := b1.val_at hre hSr (o := oRem tI) (d := 7) rfl rfl rfl (Φ := fun r => ∀ b u, x.heap[(a.add (k * 2)).block]? ≠ some (.view b u)) (fun nx w' hr => by
    obtain ⟨r, rfl, h2⟩ := bin_ok (.inr (.inl rfl)) hr
    obtain ⟨h3, rfl⟩ := place_look (a := a.add (k * 2)) h2
    exact ⟨_, rfl, rfl, h3⟩)
  clear b1
  have b2 : Tr P F Stop (at_ fn [Value.slice (some a) n c, .int .i64 k, z, .int .i64 n, .bool true, .bool true, .pointer (some (a.add (k * 2))), v6, undef, undef, undef, undef, undef, undef].toArray [.inRegion (ops1 tI tPt tSl w1) [2, 3, 4, 5, 6, 7, 8]]) rest x := by simpa using a2
  clear a2
  obtain ⟨_, ⟨X, Y, hX, hY, rfl⟩, a3⟩ := b2.val_at hre hSr (o := oLoad tPt) (d := 8) rfl rfl rfl (Φ := fun r => ∃ X Y, x.cell? ((a.add (k * 2)).add 0) = some X ∧ x.cell? ((a.add (k * 2)).add 1) = some Y ∧ r = .agg #[X, Y]) (fun nx w' hr => by
    obtain ⟨r, rfl, h2⟩ := value_ok (m := Instr.loadAt tPt (.pointer (some (a.add (k * 2))))) hr
    obtain ⟨⟨X, Y, h3, h4, rfl⟩, rfl⟩ := two_look hT.hPt hT.hi hT.s2 (w := x0 x) hnv h2
    exact ⟨_, rfl, rfl, X, Y, h3, h4, rfl⟩)
  clear b2
  have b3 : Tr P F Stop (at_ fn [Value.slice (some a) n c, .int .i64 k, z, .int .i64 n, .bool true, .bool true, .pointer (some (a.add (k * 2))), v6, .agg #[X, Y], undef, undef, undef, undef, undef].toArray [.inRegion (ops1 tI tPt tSl w1) [3, 4, 5, 6, 7, 8]]) rest x := by simpa using a3
  clear a3
  obtain ⟨v8, hv8, a4⟩ := b3.val_at hre hSr (o := oX tPt tI) (d := 9) rfl rfl rfl (Φ := fun r => r = X) (fun nx w' hr => by
    obtain ⟨r, rfl, h2⟩ := value_ok (m := Instr.field tPt (.agg #[X, Y]) 0) hr
    obtain ⟨h3, rfl⟩ := field_look hT.hPt hT.h0 hT.t0 h2
    rw [hT.o0] at h3
    exact ⟨_, rfl, rfl, by simpa using h3.symm⟩)
  clear b3
  rw [hv8] at a4
  have b4 : Tr P F Stop (at_ fn [Value.slice (some a) n c, .int .i64 k, z, .int .i64 n, .bool true, .bool true, .pointer (some (a.add (k * 2))), v6, .agg #[X, Y], X, undef, undef, undef, undef].toArray [.inRegion (ops1 tI tPt tSl w1) [4, 5, 6, 7, 8]]) rest x := by simpa using a4
  clear a4
  obtain ⟨v9, ⟨X', rfl⟩, a5⟩ := b4.val_at hre hSr (o := oX0 tI) (d := 10) rfl rfl rfl (Φ := fun r' => ∃ X', X = .int .i64 X') (fun nx w' hr => by
    obtain ⟨r', rfl, h2⟩ := bin_ok (.inl rfl) hr
    obtain ⟨⟨X', h3, _⟩, rfl⟩ := int_look (x := X) h2
    exact ⟨_, rfl, rfl, X', h3⟩)
  clear b4
  have b5 : Tr P F Stop (at_ fn [Value.slice (some a) n c, .int .i64 k, z, .int .i64 n, .bool true, .bool true, .pointer (some (a.add (k * 2))), v6, .agg #[.int .i64 X', Y], .int .i64 X', v9, undef, undef, undef].toArray [.inRegion (ops1 tI tPt tSl w1) [5, 6, 7, 8]]) rest x := by simpa using a5
  clear a5
  obtain ⟨v10, hv10, a6⟩ := b5.val_at hre hSr (o := oY tPt tI) (d := 11) rfl rfl rfl (Φ := fun r => r = Y) (fun nx w' hr => by
    obtain ⟨r, rfl, h2⟩ := value_ok (m := Instr.field tPt (.agg #[.int .i64 X', Y]) 1) hr
    obtain ⟨h3, rfl⟩ := field_look hT.hPt hT.h1 hT.t1 h2
    rw [hT.o1] at h3
    exact ⟨_, rfl, rfl, by simpa using h3.symm⟩)
  clear b5
  rw [hv10] at a6
  have b6 : Tr P F Stop (at_ fn [Value.slice (some a) n c, .int .i64 k, z, .int .i64 n, .bool true, .bool true, .pointer (some (a.add (k * 2))), v6, .agg #[.int .i64 X', Y], .int .i64 X', v9, Y, undef, undef].toArray [.inRegion (ops1 tI tPt tSl w1) [6, 7, 8]]) rest x := by simpa using a6
  clear a6
  obtain ⟨v11, ⟨Y', rfl⟩, a7⟩ := b6.val_at hre hSr (o := oY0 tI) (d := 12) rfl rfl rfl (Φ := fun r' => ∃ X', Y = .int .i64 X') (fun nx w' hr => by
    obtain ⟨r', rfl, h2⟩ := bin_ok (.inl rfl) hr
    obtain ⟨⟨X', h3, _⟩, rfl⟩ := int_look (x := Y) h2
    exact ⟨_, rfl, rfl, X', h3⟩)
  clear b6
  have b7 : Tr P F Stop (at_ fn [Value.slice (some a) n c, .int .i64 k, z, .int .i64 n, .bool true, .bool true, .pointer (some (a.add (k * 2))), v6, .agg #[.int .i64 X', .int .i64 Y'], .int .i64 X', v9, .int .i64 Y', v11, undef].toArray [.inRegion (ops1 tI tPt tSl w1) [7, 8]]) rest x := by simpa using a7
  clear a7
  obtain ⟨_, rfl, a8⟩ := b7.val_at hre hSr (o := oNext tI) (d := 13) rfl rfl rfl (Φ := fun r => r = .int .i64 ((k + 1 : Nat) : Int)) (fun nx w' hr => by
    obtain ⟨r, rfl, h2⟩ := bin_ok (.inr (.inr rfl)) hr
    obtain ⟨rfl, rfl⟩ := add_look (a := k) (by omega) (by unfold bigP at hn; omega) h2
    exact ⟨_, rfl, rfl, by simp⟩)
  clear b7
  have b8 : Tr P F Stop (at_ fn [Value.slice (some a) n c, .int .i64 k, z, .int .i64 n, .bool true, .bool true, .pointer (some (a.add (k * 2))), v6, .agg #[.int .i64 X', .int .i64 Y'], .int .i64 X', v9, .int .i64 Y', v11, .int .i64 ((k + 1 : Nat) : Int)].toArray [.inRegion (ops1 tI tPt tSl w1) [8]]) rest x := by simpa using a8
  clear a8
  obtain ⟨nx, w', h1, h2⟩ := b8.op_look hre hSr rfl (o := oCall w1 0 (.tmp 13) (.tmp 2) #[tSl, tI, tI] tI) ⟨ops1 tI tPt tSl w1, 8, [], [], rfl, rfl, rfl⟩
  unfold oCall at h1
  rw [exec_call _ (fun _ => rfl)] at h1
  rw [hc] at h1
  injection h1 with e1 e2
  subst e1
  have h3 := h2 e2.symm
  exact ⟨⟨a, X', Y', rfl, hX, hY⟩, _, h3⟩

theorem ret_look (hre : ∀ fr u w, (∀ τ d, u.re τ d = w.re τ d) → Stop fr u → Stop fr w) {fr c : Frame} (h : Tr P F Stop fr (c :: rest) x) (hm : fr.mode = .returning) {fn : Func} (hfn : P.funcs[fr.fn]? = some fn) (hr : fn.results = #[]) : Tr P F Stop (c.finish (.tuple #[])) rest x := by
  obtain ⟨fn', hfn', y, hy, ky⟩ := h.ret_get hm
  rw [hfn] at hfn'
  cases hfn'
  have h1 := hy (fun _ _ => 0) 0
  have K := ky (fun _ _ => 0) 0
  have e : results fn fr.tmps = Pure.pure (.tuple #[]) := by unfold results; rw [hr]; simp
  rw [e, Sem.runT_eq] at h1
  obtain ⟨e1, e2⟩ := pure_ok (Prod.mk.inj h1).1
  rw [e1] at K
  exact K.re hre (re_inj e2).2
theorem call_enter {f : FuncId} {fn : Func} (h : P.funcs[f]? = some fn) (hb : fn.body.isSome = true) (hn : (fn.name == "runtime.NumGoroutine") = false) (args : Array Value) (w : World) : (callFunc f args).run P w = .ok (.enter f args) w := by
  unfold callFunc
  have e1 : fn.body.isNone = false := by cases e : fn.body <;> simp_all
  show Sem.run P ((match P.funcs[f]? with | none => _ | some fn => _ : Sem Next)) w = _
  rw [h]
  simp only [hn, e1, Bool.false_eq_true, if_false]
  rfl
/-- **The inner check**: its list's points are there. -/
theorem w1_look (hre : ∀ fr u w, (∀ τ d, u.re τ d = w.re τ d) → Stop fr u → Stop fr w) (hSr : ∀ fr w, Stop fr w → fr.mode = .returning) (hT : Ts P tI tPt tSl tLs) {w1 : FuncId} {fn : Func} (hfn : P.funcs[w1]? = some fn) (hb : fn.body = some (bodyW tSl tI bigP (ops1 tI tPt tSl w1))) (hnt : fn.ntmps = 14) (hres : fn.results = #[]) (hname : (fn.name == "runtime.NumGoroutine") = false) :
    ∀ (f k : Nat) (v z : Value) (c : Frame) (rest : List Frame), (∀ p n cc, v = .slice p n cc → n - k ≤ f) → Tr P F Stop (Frame.enter P w1 #[v, .int .i64 (k : Int), z] .normal) (c :: rest) x →
      ∃ p n cc, v = .slice p n cc ∧ (n : Int) < bigP ∧ (∀ j, k ≤ j → j < n → PtAt x p j) ∧ Tr P F Stop (c.finish (.tuple #[])) rest x := by
  intro f
  induction f with
  | zero =>
    intro k v z c rest hf h
    rw [enter_frame hfn hb hnt] at h
    obtain ⟨p, n, cc, rfl, hn, ⟨hk, h1⟩ | ⟨hk, h1⟩⟩ := head_look (m := [undef, undef, undef, undef, undef, undef, undef, undef]) hre hSr hT.hI hT.hSl h
    · exact ⟨p, n, cc, rfl, hn, fun j h1 h2 => absurd h2 (by omega), ret_look hre h1 rfl hfn hres⟩
    · exact absurd (hf p n cc rfl) (by omega)
  | succ f ih =>
    intro k v z c rest hf h
    rw [enter_frame hfn hb hnt] at h
    obtain ⟨p, n, cc, rfl, hn, ⟨hk, h1⟩ | ⟨hk, h1⟩⟩ := head_look (m := [undef, undef, undef, undef, undef, undef, undef, undef]) hre hSr hT.hI hT.hSl h
    · exact ⟨p, n, cc, rfl, hn, fun j h1 h2 => absurd h2 (by omega), ret_look hre h1 rfl hfn hres⟩
    · obtain ⟨hp, tmps, h2⟩ := round_look hre hSr hT hk hn (fun args w => call_enter hfn (by rw [hb]; rfl) hname args w) h1
      obtain ⟨p', n', cc', e, _, hall, h3⟩ := ih (k + 1) _ _ _ _ (fun p0 n0 c0 e0 => by injection e0 with e1 e2 e3; have := hf p n cc rfl; omega) h2
      injection e with e1 e2 e3
      subst e1 e2 e3
      have h4 := h3.ctl_inv hSr rfl (fr' := at_ w1 tmps []) rfl
      have h5 := h4.ctl_inv hSr rfl rfl
      refine ⟨p, n, cc, rfl, hn, fun j hj hjn => ?_, ret_look hre h5 rfl hfn hres⟩
      rcases Nat.eq_or_lt_of_le hj with e | e
      · rw [← e]; exact hp
      · exact hall j e hjn
end
end Go.Goes

-- Check2
/-
  The outer check and the check itself: from its tree, what the lists hold.
-/
namespace Go.Goes
open Go.Conc
set_option linter.unusedVariables false

def oLen2 (t tI : TypeId) : Oper := opx (some 9) (.call { callee := .builtin .len, args := #[.tmp 8], argTypes := #[t] }) tI
def oSum (tI : TypeId) : Oper := opx (some 10) (.binOp .add tI (.tmp 2) (.tmp 9) tI) tI
def oLim (tI : TypeId) : Oper := opx (some 11) (.binOp .lss tI (.tmp 10) (.const (.int .i64 bigS)) tI) tI
def oStop (tI : TypeId) : Oper := { opx (some 12) (.field tI (.const (.int .i64 0)) 0) tI with guard := some (6, false) }
def opsO (tI tSl tLs : TypeId) (w1 w0 : FuncId) : Array Oper := #[oAt tLs tI, oRem tI, oLoad tSl, oCall w1 8 (.const (.int .i64 0)) (.const (.int .i64 0)) #[tSl, tI, tI] tI, oLen2 tSl tI, oSum tI, oLim tI, oStop tI, oNext tI, oCall w0 0 (.tmp 13) (.tmp 10) #[tLs, tI, tI] tI]
def oW (tI : TypeId) : Oper := opx (some 2) (.binOp .lss tI (.tmp 1) (.const (.int .i64 0)) tI) tI
def opsC (tI tLs : TypeId) (w0 : FuncId) : Array Oper := #[oW tI, oCall w0 0 (.const (.int .i64 0)) (.const (.int .i64 0)) #[tLs, tI, tI] tI]
def bodyC (tI tLs : TypeId) (w0 : FuncId) : Code := .region 0 (opsC tI tLs w0) false
def fnW (name : String) (ps : Array TypeId) (body : Code) (nt : Nat) : Func := { name := name, origin := "", params := ps, resultTypes := #[], nfree := 0, ntmps := nt, results := #[], body := some body, norace := false, tmpNames := #[] }

/-- How long the lists are, and all together. -/
def lnOf (x : World) (p : Option Addr) (j : Nat) : Nat := match p with | some a => (match x.cell? (a.add j) with | some (.slice _ n _) => n | _ => 0) | none => 0
def sumN (ln : Nat → Nat) : Nat → Nat | 0 => 0 | n + 1 => sumN ln n + ln n
/-- A list of a list of lists. -/
def LineAt (x : World) (p : Option Addr) (j : Nat) : Prop := ∃ a q n c, p = some a ∧ x.cell? (a.add j) = some (.slice q n c) ∧ (n : Int) < bigP ∧ ∀ i, i < n → PtAt x q i

section
variable {P : Program} {F : FuncId → Prop} {Stop : Frame → World → Prop} {rest : List Frame} {x : World} {tI tPt tSl tLs : TypeId}
theorem outer_look (hre : ∀ fr u w, (∀ τ d, u.re τ d = w.re τ d) → Stop fr u → Stop fr w) (hSr : ∀ fr w, Stop fr w → fr.mode = .returning) (hT : Ts P tI tPt tSl tLs) {w1 w0 fn : FuncId} {fn1 : Func} (hfn : P.funcs[w1]? = some fn1) (hb : fn1.body = some (bodyW tSl tI bigP (ops1 tI tPt tSl w1))) (hnt : fn1.ntmps = 14) (hres : fn1.results = #[]) (hname : (fn1.name == "runtime.NumGoroutine") = false)
    {p : Option Addr} {n c k s : Nat} (hkn : k < n) (hn : (n : Int) < bigL) (hs : (s : Int) < bigS)
    (hc : ∀ args w, (callFunc w0 args).run P w = .ok (.enter w0 args) w)
    (h : Tr P F Stop (at_ fn ([Value.slice p n c, .int .i64 k, .int .i64 s, .int .i64 n, .bool true, .bool true] ++ [undef, undef, undef, undef, undef, undef, undef, undef]).toArray [.inRegion (opsO tI tSl tLs w1 w0) [0, 1, 2, 3, 4, 5, 6, 7, 8, 9]]) rest x) :
    LineAt x p k ∧ ((s + lnOf x p k : Nat) : Int) < bigS ∧ ∃ tmps, Tr P F Stop (Frame.enter P w0 #[.slice p n c, .int .i64 ((k + 1 : Nat) : Int), .int .i64 ((s + lnOf x p k : Nat) : Int)] .normal) (at_ fn tmps [.inRegion (opsO tI tSl tLs w1 w0) [9]] :: rest) x := by
  obtain ⟨_, ⟨a, rfl, rfl⟩, a1⟩ := h.val_at hre hSr (o := oAt tLs tI) (d := 6) rfl rfl rfl (Φ := fun r => ∃ a, p = some a ∧ r = .pointer (some (a.add k))) (fun nx w' hr => by
    obtain ⟨r, rfl, h2⟩ := value_ok (m := Instr.indexAt tLs (.slice p n c) (.int .i64 k)) hr
    obtain ⟨⟨a, ha, _, _, rfl⟩, rfl⟩ := index_look hT.hLs hT.hj h2
    rw [hT.s1]
    exact ⟨_, rfl, rfl, a, ha, by simp⟩)
  clear h
  have b1 : Tr P F Stop (at_ fn [Value.slice (some a) n c, .int .i64 k, .int .i64 s, .int .i64 n, .bool true, .bool true, .pointer (some (a.add k)), undef, undef, undef, undef, undef, undef, undef].toArray [.inRegion (opsO tI tSl tLs w1 w0) [1, 2, 3, 4, 5, 6, 7, 8, 9]]) rest x := by simpa using a1
  clear a1
  obtain ⟨v6, hnv, a2⟩ := b1.val_at hre hSr (o := oRem tI) (d := 7) rfl rfl rfl (Φ := fun r => ∀ b u, x.heap[(a.add k).block]? ≠ some (.view b u)) (fun nx w' hr => by
    obtain ⟨r, rfl, h2⟩ := bin_ok (.inr (.inl rfl)) hr
    obtain ⟨h3, rfl⟩ := place_look (a := a.add k) h2
    exact ⟨_, rfl, rfl, h3⟩)
  clear b1
  have b2 : Tr P F Stop (at_ fn [Value.slice (some a) n c, .int .i64 k, .int .i64 s, .int .i64 n, .bool true, .bool true, .pointer (some (a.add k)), v6, undef, undef, undef, undef, undef, undef].toArray [.inRegion (opsO tI tSl tLs w1 w0) [2, 3, 4, 5, 6, 7, 8, 9]]) rest x := by simpa using a2
  clear a2
  obtain ⟨v7, hL, a3⟩ := b2.val_at hre hSr (o := oLoad tSl) (d := 8) rfl rfl rfl (Φ := fun r => x.cell? (a.add k) = some r) (fun nx w' hr => by
    obtain ⟨r, rfl, h2⟩ := value_ok (m := Instr.loadAt tSl (.pointer (some (a.add k)))) hr
    obtain ⟨h3, rfl⟩ := one_look hT.hSl (w := x0 x) hnv h2
    exact ⟨_, rfl, rfl, h3⟩)
  clear b2
  have b3 : Tr P F Stop (at_ fn [Value.slice (some a) n c, .int .i64 k, .int .i64 s, .int .i64 n, .bool true, .bool true, .pointer (some (a.add k)), v6, v7, undef, undef, undef, undef, undef].toArray [.inRegion (opsO tI tSl tLs w1 w0) [3, 4, 5, 6, 7, 8, 9]]) rest x := by simpa using a3
  clear a3
  obtain ⟨nx, w', h1, h2⟩ := b3.op_look hre hSr rfl (o := oCall w1 8 (.const (.int .i64 0)) (.const (.int .i64 0)) #[tSl, tI, tI] tI) ⟨opsO tI tSl tLs w1 w0, 3, [4, 5, 6, 7, 8, 9], [], rfl, rfl, rfl⟩
  clear b3
  unfold oCall at h1
  rw [exec_call _ (fun _ => rfl)] at h1
  rw [call_enter hfn (by rw [hb]; rfl) hname] at h1
  injection h1 with e1 e2
  subst e1
  have h3 := h2 e2.symm
  clear h2 e2
  obtain ⟨q, m, cc, rfl, hm, hall, h4⟩ := w1_look hre hSr hT hfn hb hnt hres hname (match v7 with | .slice _ m _ => m | _ => 0) 0 v7 (.int .i64 0) (at_ fn [Value.slice (some a) n c, .int .i64 k, .int .i64 s, .int .i64 n, .bool true, .bool true, .pointer (some (a.add k)), v6, v7, undef, undef, undef, undef, undef].toArray [.inRegion (opsO tI tSl tLs w1 w0) [3, 4, 5, 6, 7, 8, 9]]) rest (fun p n cc e => by subst e; simp) h3
  clear h3
  have hm' : lnOf x (some a) k = m := by unfold lnOf; simp only [hL]
  rw [hm']
  have b4 : Tr P F Stop (at_ fn [Value.slice (some a) n c, .int .i64 k, .int .i64 s, .int .i64 n, .bool true, .bool true, .pointer (some (a.add k)), v6, .slice q m cc, undef, undef, undef, undef, undef].toArray [.inRegion (opsO tI tSl tLs w1 w0) [4, 5, 6, 7, 8, 9]]) rest x := h4
  clear h4
  obtain ⟨_, rfl, a5⟩ := b4.val_at hre hSr (o := oLen2 tSl tI) (d := 9) rfl rfl rfl (Φ := fun r => r = .int .i64 (m : Int)) (fun nx w' hr => by
    unfold oLen2 at hr
    rw [exec_len] at hr
    obtain ⟨r, rfl, h2⟩ := value_ok hr
    obtain ⟨⟨p', n', c', hv, rfl⟩, rfl⟩ := len_look (x := .slice q m cc) hT.hSl h2
    injection hv with e1 e2 e3
    exact ⟨_, rfl, rfl, by rw [e2]; rfl⟩)
  clear b4
  have b5 : Tr P F Stop (at_ fn [Value.slice (some a) n c, .int .i64 k, .int .i64 s, .int .i64 n, .bool true, .bool true, .pointer (some (a.add k)), v6, .slice q m cc, .int .i64 m, undef, undef, undef, undef].toArray [.inRegion (opsO tI tSl tLs w1 w0) [5, 6, 7, 8, 9]]) rest x := by simpa using a5
  clear a5
  obtain ⟨_, rfl, a6⟩ := b5.val_at hre hSr (o := oSum tI) (d := 10) rfl rfl rfl (Φ := fun r => r = .int .i64 ((s + m : Nat) : Int)) (fun nx w' hr => by
    obtain ⟨r, rfl, h2⟩ := bin_ok (.inr (.inr rfl)) hr
    obtain ⟨rfl, rfl⟩ := sum_look (a := s) (b := m) (by omega) (by unfold bigS at hs; unfold bigP at hm; omega) h2
    exact ⟨_, rfl, rfl, by simp⟩)
  clear b5
  have b6 : Tr P F Stop (at_ fn [Value.slice (some a) n c, .int .i64 k, .int .i64 s, .int .i64 n, .bool true, .bool true, .pointer (some (a.add k)), v6, .slice q m cc, .int .i64 m, .int .i64 ((s + m : Nat) : Int), undef, undef, undef].toArray [.inRegion (opsO tI tSl tLs w1 w0) [6, 7, 8, 9]]) rest x := by simpa using a6
  clear a6
  obtain ⟨_, rfl, a7⟩ := b6.val_at hre hSr (o := oLim tI) (d := 11) rfl rfl rfl (Φ := fun r => r = .bool (((s + m : Nat) : Int) < bigS)) (fun nx w' hr => by
    obtain ⟨r, rfl, h2⟩ := bin_ok (.inl rfl) hr
    obtain ⟨rfl, rfl⟩ := less_look (a := ((s + m : Nat) : Int)) (b := bigS) h2
    exact ⟨_, rfl, rfl, rfl⟩)
  clear b6
  have b7 : Tr P F Stop (at_ fn [Value.slice (some a) n c, .int .i64 k, .int .i64 s, .int .i64 n, .bool true, .bool true, .pointer (some (a.add k)), v6, .slice q m cc, .int .i64 m, .int .i64 ((s + m : Nat) : Int), .bool (((s + m : Nat) : Int) < bigS), undef, undef].toArray [.inRegion (opsO tI tSl tLs w1 w0) [7, 8, 9]]) rest x := by simpa using a7
  clear a7
  by_cases hlim : ((s + m : Nat) : Int) < bigS
  · rw [decide_eq_true hlim] at b7
    have b8 := b7.ctl_inv hSr rfl (fr' := at_ fn [Value.slice (some a) n c, .int .i64 k, .int .i64 s, .int .i64 n, .bool true, .bool true, .pointer (some (a.add k)), v6, .slice q m cc, .int .i64 m, .int .i64 ((s + m : Nat) : Int), .bool true, undef, undef].toArray [.inRegion (opsO tI tSl tLs w1 w0) [8, 9]]) rfl
    clear b7
    obtain ⟨_, rfl, a8⟩ := b8.val_at hre hSr (o := oNext tI) (d := 13) rfl rfl rfl (Φ := fun r => r = .int .i64 ((k + 1 : Nat) : Int)) (fun nx w' hr => by
      obtain ⟨r, rfl, h2⟩ := bin_ok (.inr (.inr rfl)) hr
      obtain ⟨rfl, rfl⟩ := add_look (a := k) (by omega) (by unfold bigL at hn; omega) h2
      exact ⟨_, rfl, rfl, by simp⟩)
    clear b8
    have b9 : Tr P F Stop (at_ fn [Value.slice (some a) n c, .int .i64 k, .int .i64 s, .int .i64 n, .bool true, .bool true, .pointer (some (a.add k)), v6, .slice q m cc, .int .i64 m, .int .i64 ((s + m : Nat) : Int), .bool true, undef, .int .i64 ((k + 1 : Nat) : Int)].toArray [.inRegion (opsO tI tSl tLs w1 w0) [9]]) rest x := by simpa using a8
    clear a8
    obtain ⟨nx, w', h1, h2⟩ := b9.op_look hre hSr rfl (o := oCall w0 0 (.tmp 13) (.tmp 10) #[tLs, tI, tI] tI) ⟨opsO tI tSl tLs w1 w0, 9, [], [], rfl, rfl, rfl⟩
    unfold oCall at h1
    rw [exec_call _ (fun _ => rfl)] at h1
    rw [hc] at h1
    injection h1 with e1 e2
    subst e1
    have h3 := h2 e2.symm
    exact ⟨⟨a, q, m, cc, rfl, hL, hm, fun i hi => hall i (Nat.zero_le _) hi⟩, hlim, _, h3⟩
  · rw [decide_eq_false hlim] at b7
    obtain ⟨nx, w', h1, h2⟩ := b7.op_look hre hSr rfl (o := oStop tI) ⟨opsO tI tSl tLs w1 w0, 7, [8, 9], [], rfl, rfl, rfl⟩
    obtain ⟨r, rfl, hf⟩ := value_ok (m := Instr.field tI (.int .i64 0) 0) h1
    unfold Instr.field at hf
    obtain ⟨u, w1, h3, h4⟩ := bind_ok hf
    obtain ⟨rfl, rfl⟩ := under_ok hT.hI h3
    exact (stuck_ok h4).elim
/-- **The outer check**: its lists are there. -/
theorem w0_look (hre : ∀ fr u w, (∀ τ d, u.re τ d = w.re τ d) → Stop fr u → Stop fr w) (hSr : ∀ fr w, Stop fr w → fr.mode = .returning) (hT : Ts P tI tPt tSl tLs) {w1 w0 : FuncId} {fn1 fn : Func} (hfn1 : P.funcs[w1]? = some fn1) (hb1 : fn1.body = some (bodyW tSl tI bigP (ops1 tI tPt tSl w1))) (hnt1 : fn1.ntmps = 14) (hres1 : fn1.results = #[]) (hname1 : (fn1.name == "runtime.NumGoroutine") = false)
    (hfn : P.funcs[w0]? = some fn) (hb : fn.body = some (bodyW tLs tI bigL (opsO tI tSl tLs w1 w0))) (hnt : fn.ntmps = 14) (hres : fn.results = #[]) (hname : (fn.name == "runtime.NumGoroutine") = false) :
    ∀ (f k s : Nat) (v : Value) (c : Frame) (rest : List Frame), (∀ p n cc, v = .slice p n cc → n - k ≤ f ∧ k ≤ n ∧ s = sumN (lnOf x p) k) → (s : Int) < bigS → Tr P F Stop (Frame.enter P w0 #[v, .int .i64 (k : Int), .int .i64 (s : Int)] .normal) (c :: rest) x →
      ∃ p n cc, v = .slice p n cc ∧ (n : Int) < bigL ∧ (sumN (lnOf x p) n : Int) < bigS ∧ (∀ j, k ≤ j → j < n → LineAt x p j) ∧ Tr P F Stop (c.finish (.tuple #[])) rest x := by
  intro f
  induction f with
  | zero =>
    intro k s v c rest hf hs h
    rw [enter_frame hfn hb hnt] at h
    obtain ⟨p, n, cc, rfl, hn, ⟨hk, h1⟩ | ⟨hk, h1⟩⟩ := head_look (m := [undef, undef, undef, undef, undef, undef, undef, undef]) hre hSr hT.hI hT.hLs h
    · obtain ⟨h2, h3, h4⟩ := hf p n cc rfl
      have e : k = n := by omega
      subst e
      exact ⟨p, k, cc, rfl, hn, by rw [← h4]; exact hs, fun j h1 h2 => absurd h2 (by omega), ret_look hre h1 rfl hfn hres⟩
    · exact absurd (hf p n cc rfl).1 (by omega)
  | succ f ih =>
    intro k s v c rest hf hs h
    rw [enter_frame hfn hb hnt] at h
    obtain ⟨p, n, cc, rfl, hn, ⟨hk, h1⟩ | ⟨hk, h1⟩⟩ := head_look (m := [undef, undef, undef, undef, undef, undef, undef, undef]) hre hSr hT.hI hT.hLs h
    · obtain ⟨h2, h3, h4⟩ := hf p n cc rfl
      have e : k = n := by omega
      subst e
      exact ⟨p, k, cc, rfl, hn, by rw [← h4]; exact hs, fun j h1 h2 => absurd h2 (by omega), ret_look hre h1 rfl hfn hres⟩
    · obtain ⟨hp, hlim, tmps, h2⟩ := outer_look hre hSr hT hfn1 hb1 hnt1 hres1 hname1 hk hn hs (fun args w => call_enter hfn (by rw [hb]; rfl) hname args w) h1
      obtain ⟨p', n', cc', e, _, hsum, hall, h3⟩ := ih (k + 1) (s + lnOf x p k) _ _ _ (fun p0 n0 c0 e0 => by
        injection e0 with e1 e2 e3
        subst e1 e2 e3
        obtain ⟨h5, h6, h7⟩ := hf p n cc rfl
        exact ⟨by omega, by omega, by rw [h7]; rfl⟩) hlim h2
      injection e with e1 e2 e3
      subst e1 e2 e3
      have h4 := h3.ctl_inv hSr rfl (fr' := at_ w0 tmps []) rfl
      have h5 := h4.ctl_inv hSr rfl rfl
      refine ⟨p, n, cc, rfl, hn, hsum, fun j hj hjn => ?_, ret_look hre h5 rfl hfn hres⟩
      rcases Nat.eq_or_lt_of_le hj with e | e
      · rw [← e]; exact hp
      · exact hall j e hjn
/-- **The check**: from its tree, the lists and the width. -/
theorem c_look (hre : ∀ fr u w, (∀ τ d, u.re τ d = w.re τ d) → Stop fr u → Stop fr w) (hSr : ∀ fr w, Stop fr w → fr.mode = .returning) (hT : Ts P tI tPt tSl tLs) {w1 w0 fC : FuncId} {fn1 fn fnC : Func} (hfn1 : P.funcs[w1]? = some fn1) (hb1 : fn1.body = some (bodyW tSl tI bigP (ops1 tI tPt tSl w1))) (hnt1 : fn1.ntmps = 14) (hres1 : fn1.results = #[]) (hname1 : (fn1.name == "runtime.NumGoroutine") = false)
    (hfn : P.funcs[w0]? = some fn) (hb : fn.body = some (bodyW tLs tI bigL (opsO tI tSl tLs w1 w0))) (hnt : fn.ntmps = 14) (hres : fn.results = #[]) (hname : (fn.name == "runtime.NumGoroutine") = false)
    (hfnC : P.funcs[fC]? = some fnC) (hbC : fnC.body = some (bodyC tI tLs w0)) (hntC : fnC.ntmps = 3) (hresC : fnC.results = #[])
    {lv wv : Value} {c : Frame} {rest : List Frame} (h : Tr P F Stop (Frame.enter P fC #[lv, wv] .normal) (c :: rest) x) :
    ∃ p n cc width, lv = .slice p n cc ∧ wv = .int .i64 width ∧ (n : Int) < bigL ∧ (sumN (lnOf x p) n : Int) < bigS ∧ (∀ j, j < n → LineAt x p j) ∧ Tr P F Stop (c.finish (.tuple #[])) rest x := by
  rw [enter_frame hfnC hbC hntC] at h
  have a1 := h.ctl_inv hSr rfl (fr' := at_ fC #[lv, wv, undef] [.inRegion (opsC tI tLs w0) [0, 1]]) rfl
  clear h
  obtain ⟨v2, ⟨width, rfl⟩, a2⟩ := a1.val_at hre hSr (o := oW tI) (d := 2) rfl rfl rfl (Φ := fun _ => ∃ a, wv = .int .i64 a) (fun nx w' hr => by
    obtain ⟨r', rfl, h2⟩ := bin_ok (.inl rfl) hr
    obtain ⟨⟨X', h3, _⟩, rfl⟩ := int_look (x := wv) h2
    exact ⟨_, rfl, rfl, X', h3⟩)
  clear a1
  have b2 : Tr P F Stop (at_ fC [lv, .int .i64 width, v2].toArray [.inRegion (opsC tI tLs w0) [1]]) (c :: rest) x := by simpa using a2
  clear a2
  obtain ⟨nx, w', h1, h2⟩ := b2.op_look hre hSr rfl (o := oCall w0 0 (.const (.int .i64 0)) (.const (.int .i64 0)) #[tLs, tI, tI] tI) ⟨opsC tI tLs w0, 1, [], [], rfl, rfl, rfl⟩
  clear b2
  unfold oCall at h1
  rw [exec_call _ (fun _ => rfl)] at h1
  rw [call_enter hfn (by rw [hb]; rfl) hname] at h1
  injection h1 with e1 e2
  subst e1
  have h3 := h2 e2.symm
  clear h2 e2
  obtain ⟨q, m, cc, rfl, hm, hsum, hall, h4⟩ := w0_look hre hSr hT hfn1 hb1 hnt1 hres1 hname1 hfn hb hnt hres hname (match lv with | .slice _ m _ => m | _ => 0) 0 0 lv (at_ fC [lv, .int .i64 width, v2].toArray [.inRegion (opsC tI tLs w0) [1]]) (c :: rest) (fun p n cc e => by subst e; exact ⟨by simp, Nat.zero_le _, rfl⟩) (by unfold bigS; decide) h3
  have h5 : Tr P F Stop (at_ fC [.slice q m cc, .int .i64 width, v2].toArray [.inRegion (opsC tI tLs w0) []]) (c :: rest) x := h4
  have h6 := h5.ctl_inv hSr rfl (fr' := at_ fC [.slice q m cc, .int .i64 width, v2].toArray []) rfl
  have h7 := h6.ctl_inv hSr rfl rfl
  exact ⟨q, m, cc, width, rfl, rfl, hm, hsum, fun j hj => hall j (Nat.zero_le _) hj, ret_look hre h7 rfl hfnC hresC⟩
end
end Go.Goes

-- Check3
/-
  Worlds that hold the same rows below a block, but for frozen marks.
-/
namespace Go.Goes
open Go.Conc
set_option linter.unusedVariables false

/-- The rows below B are as they were. -/
def Okc (B : Nat) (x w : World) : Prop := ∀ k, k < B → ∀ c e f, x.heap[k]? = some (.cells c e f) → ∃ f', w.heap[k]? = some (.cells c e f')
theorem okc_refl (B : Nat) (x : World) : Okc B x x := fun k _ c e f h => ⟨f, h⟩
theorem okc_V {B : Nat} {x : World} : ∀ fz x' u, Vr fz x' u → Okc B x u → Okc B x x' := by
  intro fz x' u hV hO k hk c e f h
  obtain ⟨f', hu⟩ := hO k hk c e f h
  have hlt : k < x'.heap.size := by rw [← hV.size]; exact (Array.getElem?_eq_some_iff.1 hu).1
  obtain ⟨o', h1, h2⟩ := hV.block k _ (Array.getElem?_eq_getElem hlt)
  rw [hu] at h1
  cases h1
  rcases h2 with h2 | ⟨_, _, _, _, _, _, _, _, h2⟩ | ⟨_, c', e', f1, f2, h2, h3, _⟩
  · exact ⟨f', by rw [Array.getElem?_eq_getElem hlt, h2]⟩
  · cases h2
  · cases h3
    exact ⟨f1, by rw [Array.getElem?_eq_getElem hlt, h2]⟩
theorem okc_U {B : Nat} {x : World} : ∀ x' u, Vr true x' u → Okc B x x' → Okc B x u := by
  intro x' u hV hO k hk c e f h
  obtain ⟨f', hx⟩ := hO k hk c e f h
  obtain ⟨f2, h1, _⟩ := hV.cells hx
  exact ⟨f2, h1⟩
theorem okc_B {B : Nat} {x : World} : ∀ u u' : World, (∀ k, k < B → u'.heap[k]? = u.heap[k]?) → Okc B x u → Okc B x u' := by
  intro u u' he hO k hk c e f h
  obtain ⟨f', hx⟩ := hO k hk c e f h
  exact ⟨f', by rw [he k hk]; exact hx⟩
theorem cell_lt {x : World} {a : Addr} {v : Value} (h : x.cell? a = some v) : a.block < x.heap.size := by
  unfold World.cell? at h
  cases e : x.heap[a.block]? with
  | none => rw [e] at h; cases h
  | some o => exact (Array.getElem?_eq_some_iff.1 e).1
/-- A cell is read there as here. -/
theorem okc_cell {B : Nat} {x w : World} (hO : Okc B x w) {a : Addr} {v : Value} (hB : a.block < B) (h : x.cell? a = some v) : w.cell? a = some v := by
  unfold World.cell? at h
  split at h
  · rename_i c e f hc
    obtain ⟨f', hw⟩ := hO _ hB _ _ _ hc
    unfold World.cell?
    rw [hw]
    exact h
  · cases h
end Go.Goes

-- Stroke9
/-
  The closed facts that stroke_ends asks of a program, as checks that reckon.
-/
namespace Go.Goes
open Go.Conc
set_option linter.unusedVariables false
def outB (q : Nat) : Operand → Bool
  | .tmp t => t != q
  | _ => true
theorem outB_out {q : Nat} {x : Operand} (h : outB q x = true) : opOut (· = q) x := by
  cases x <;> simp_all [outB, opOut]
def opsOutB (q : Nat) (o : Oper) : Bool := o.op.operands.all (outB q)
theorem map_same {ρ ρ' : Operand → Value} {l : Array Operand} (h : ∀ x ∈ l, ρ' x = ρ x) : l.map ρ' = l.map ρ := Array.map_congr_left h
theorem parts_same {ρ ρ' : Operand → Value} {l : Array (Nat × Operand)} (h : ∀ x ∈ (l.toList.map (·.2)).toArray, ρ' x = ρ x) : l.map (fun (i, x) => (i, ρ' x)) = l.map (fun (i, x) => (i, ρ x)) := by
  refine Array.map_congr_left fun p hp => ?_
  obtain ⟨i, x⟩ := p
  dsimp only
  rw [h x (by simp only [List.mem_toArray, List.mem_map]; exact ⟨(i, x), Array.mem_toList_iff.2 hp, rfl⟩)]
theorem sameOp_of {P : Program} {fs : List FuncId} {q : Nat} {o : Oper} (hs : simOpB P fs o = true) (h : opsOutB q o = true) : SameOp (· = q) o := by
  intro ρ ρ' hρ
  have hall : ∀ x ∈ o.op.operands, ρ' x = ρ x := fun x hx => hρ x (outB_out (by unfold opsOutB at h; exact Array.all_eq_true_iff_forall_mem.1 h x hx))
  unfold simOpB at hs
  unfold execOp
  obtain ⟨dst, op, type, pos, after, guard⟩ := o
  dsimp only at hs hall ⊢
  cases op <;> dsimp only at hs hall ⊢ <;> try (cases hs; done)
  case move x => rw [hall x (by simp [Op.operands])]
  case assign x => rw [hall x (by simp [Op.operands])]
  case pick c a b => rw [hall c (by simp [Op.operands]), hall a (by simp [Op.operands]), hall b (by simp [Op.operands])]
  case box t x => rw [hall x (by simp [Op.operands])]
  case build t ps => rw [parts_same hall]
  case buildSlice t n ps => rw [parts_same hall]
  case load t a => rw [hall a (by simp [Op.operands])]
  case store t a x => rw [hall a (by simp [Op.operands]), hall x (by simp [Op.operands])]
  case binOp op t x y t2 => rw [hall x (by simp [Op.operands]), hall y (by simp [Op.operands])]
  case unOp op t x => rw [hall x (by simp [Op.operands])]
  case convert s d x => rw [hall x (by simp [Op.operands])]
  case nilCheck x => rw [hall x (by simp [Op.operands])]
  case makeFunc f a b => rw [map_same (fun x hx => hall x (by simp [Op.operands, hx])), map_same (l := b) (fun x hx => hall x (by simp [Op.operands, hx]))]
  case makeChan t s => rw [hall s (by simp [Op.operands])]
  case makeSlice t l c => rw [hall l (by simp [Op.operands]), hall c (by simp [Op.operands])]
  case fieldAddr s x f => rw [hall x (by simp [Op.operands])]
  case field s x f => rw [hall x (by simp [Op.operands])]
  case indexAddr t x i => rw [hall x (by simp [Op.operands]), hall i (by simp [Op.operands])]
  case index t x i => rw [hall x (by simp [Op.operands]), hall i (by simp [Op.operands])]
  case extract t i => rw [hall t (by simp [Op.operands])]
  case call c =>
    have ha : c.args.map ρ' = c.args.map ρ := map_same (fun x hx => hall x (by simp [Op.operands, Call.operands, hx]))
    unfold resolve
    rw [ha]
    cases hc : c.callee with
    | builtin b => rfl
    | invoke r n => dsimp only; rw [hall r (by simp [Op.operands, Call.operands, hc])]
    | value f => dsimp only; rw [hall f (by simp [Op.operands, Call.operands, hc])]
/-- The twin's operations. -/
def phi (q : Nat) (fY : FuncId) (ats : Array TypeId) (o : Oper) : Oper :=
  match o.op with
  | .go _ => { o with dst := some q, op := .call { callee := .value (.func fY), args := #[.tmp 0], argTypes := ats } }
  | .recv .. => { o with op := .extract (.tmp q) 2 }
  | _ => o
def stillB (o : Oper) : Bool := match o.op with | .go _ | .recv .. => false | _ => true
theorem phi_still {q : Nat} {fY : FuncId} {ats : Array TypeId} {o : Oper} (h : stillB o = true) : phi q fY ats o = o := by
  unfold stillB at h; unfold phi
  cases ho : o.op <;> rw [ho] at h <;> first | rfl | cases h
def mkB (o : Oper) : Bool := match o.op with | .makeChan .. => true | _ => false
def dstB (q ch : Nat) (o : Oper) : Bool := o.dst != some q && o.dst != some ch && o.dst != some 0
theorem dstB_of {q ch : Nat} {o : Oper} (h : dstB q ch o = true) : o.dst ≠ some q ∧ o.dst ≠ some ch ∧ o.dst ≠ some 0 := by
  simp only [dstB, Bool.and_eq_true, bne_iff_ne] at h; exact ⟨h.1.1, h.1.2, h.2⟩
def plainB (P : Program) (fs : List FuncId) (q ch : Nat) (o : Oper) : Bool := simOpB P fs o && opsOutB q o && stillB o && dstB q ch o && !mkB o
theorem plainB_of {P : Program} {fs : List FuncId} {q ch : Nat} {fY : FuncId} {ats : Array TypeId} {o : Oper} (h : plainB P fs q ch o = true) : PlainS P fs (phi q fY ats) q ch o := by
  simp only [plainB, Bool.and_eq_true, Bool.not_eq_true'] at h
  obtain ⟨⟨⟨⟨h1, h2⟩, h3⟩, h4⟩, h5⟩ := h
  exact ⟨phi_still h3, h1, sameOp_of h1 h2, dstB_of h4, fun t s e => by unfold mkB at h5; rw [e] at h5; cases h5⟩
def extB (q ch : Nat) (o : Oper) : Bool := (match o.op with | .extract (.tmp t) j => t == q && decide (j < 2) | _ => false) && dstB q ch o
theorem extB_of {q ch : Nat} {fY : FuncId} {ats : Array TypeId} {o : Oper} (h : extB q ch o = true) : ∃ j, ExtS (phi q fY ats) q ch o j := by
  simp only [extB, Bool.and_eq_true] at h
  obtain ⟨h1, h2⟩ := h
  cases ho : o.op <;> rw [ho] at h1 <;> try (cases h1; done)
  rename_i t j
  cases t <;> try (cases h1; done)
  simp only [Bool.and_eq_true, beq_iff_eq, decide_eq_true_eq] at h1
  obtain ⟨rfl, h3⟩ := h1
  exact ⟨j, ho, h3, phi_still (by unfold stillB; rw [ho]), dstB_of h2⟩
/-- A receive from the channel's slot, of elements whose zero is z. -/
def rcvB (P : Program) (tz : TypeId) (q ch : Nat) (o : Oper) : Bool := match o.op with | .recv ty (.tmp t) true => ty == tz && t == ch && o.dst == some q && o.guard.isNone | _ => false
section
variable {P : Program} {fs : List FuncId} {tz : TypeId} {q ch : Nat} {z : Value} {f0 fY : FuncId} {ats : Array TypeId}
theorem rcvB_of {o : Oper} (h : rcvB P tz q ch o = true) (hz : ∀ ty ch' o, o.op = .recv ty (.tmp ch') true → rcvB P tz q ch o = true → ∀ (ρ : Operand → Value) (w : World), (execOp ρ o).runT P w #[] = (.ok (Next.comm #[{ chan := ρ (.tmp ch'), send := none, zero := z }] true (.recv true)) w, #[])) : RcvS P (phi q fY ats) q ch z o := by
  have h0 := h
  unfold rcvB at h
  cases ho : o.op <;> rw [ho] at h <;> try (cases h; done)
  rename_i ty t b
  cases t <;> try (cases h; done)
  cases b <;> try (cases h; done)
  simp only [Bool.and_eq_true, beq_iff_eq, Option.isNone_iff_eq_none] at h
  obtain ⟨⟨⟨_, rfl⟩, h2⟩, h3⟩ := h
  exact ⟨h2, h3, by unfold phi; rw [ho], hz _ _ _ ho h0⟩
def kdB (P : Program) (fs : List FuncId) (tz : TypeId) (q ch : Nat) (o : Oper) : Bool := plainB P fs q ch o || extB q ch o || rcvB P tz q ch o
def ZeroIs (P : Program) (tz : TypeId) (q ch : Nat) (z : Value) : Prop := ∀ ty ch' o, o.op = .recv ty (.tmp ch') true → rcvB P tz q ch o = true → ∀ (ρ : Operand → Value) (w : World), (execOp ρ o).runT P w #[] = (.ok (Next.comm #[{ chan := ρ (.tmp ch'), send := none, zero := z }] true (.recv true)) w, #[])
theorem zeroIs_of {tz e : TypeId} {d : ChanDir} {i : TypeInfo} {z : Value} {q ch : Nat} (h1 : P.underlying tz = some (.chan d e)) (h2 : P.info? e = some i) (h3 : i.zero = some z) : ZeroIs P tz q ch z := by
  intro ty ch' o ho hr ρ w
  have ht : ty = tz := by
    unfold rcvB at hr
    rw [ho] at hr
    simp only [Bool.and_eq_true, beq_iff_eq] at hr
    exact hr.1.1.1
  subst ht
  unfold execOp
  rw [ho]
  show Sem.runT P (Sem.bind (underlying ty) _) w #[] = _
  unfold underlying
  show Sem.runT P (Sem.bind (match P.underlying ty with | some d => (Pure.pure d : Sem TypeDesc) | none => stuck "no such type") _) w #[] = _
  rw [h1]
  show Sem.runT P (Sem.bind (Sem.bind (Sem.bind Go.program _) _) _) w #[] = _
  show Sem.runT P (Sem.bind (Sem.bind (match P.info? e with | some i => (Pure.pure i : Sem TypeInfo) | none => stuck "no such type") _) _) w #[] = _
  rw [h2]
  show Sem.runT P (Sem.bind (match i.zero with | some v => (Pure.pure v : Sem Value) | none => _) _) w #[] = _
  rw [h3]
  rfl
def allCB (p : Oper → Bool) : Code → Bool
  | .region _ ops _ => ops.all p
  | .seq a b | .cond _ a b => allCB p a && allCB p b
  | .block _ c | .loop c => allCB p c
  | .skip | .exit _ | .ret => true
  | _ => false
def allIB (p : Oper → Bool) : Item → Bool
  | .code c | .inLoop c => allCB p c
  | .inBlock _ => true
  | .inRegion ops _ => ops.all p
  | _ => false
theorem ops_all {p : Oper → Bool} {Q : Oper → Prop} (hp : ∀ o, p o = true → Q o) {ops : Array Oper} (h : ops.all p = true) : ∀ (i : Nat) o, ops[i]? = some o → Q o := fun i o ho => hp o (Array.all_eq_true_iff_forall_mem.1 h o (Array.mem_of_getElem? ho))
theorem allCB_of {p : Oper → Bool} {Q : Oper → Prop} (hp : ∀ o, p o = true → Q o) : ∀ c, allCB p c = true → AllC Q c := fun c => by
  induction c with
  | region id ops d => exact fun h => ops_all hp h
  | seq a b iha ihb => intro h; simp only [allCB, Bool.and_eq_true] at h; exact ⟨iha h.1, ihb h.2⟩
  | cond c a b iha ihb => intro h; simp only [allCB, Bool.and_eq_true] at h; exact ⟨iha h.1, ihb h.2⟩
  | block id c ih => exact fun h => ih h
  | loop c ih => exact fun h => ih h
  | skip => exact fun _ => trivial
  | exit _ => exact fun _ => trivial
  | ret => exact fun _ => trivial
  | _ => intro h; cases h
theorem allIB_of {p : Oper → Bool} {Q : Oper → Prop} (hp : ∀ o, p o = true → Q o) {l : List Item} (h : l.all (allIB p) = true) : AllL Q l := fun it hit => by
  have h1 := List.all_eq_true.1 h it hit
  cases it with
  | code c => exact allCB_of hp c h1
  | inLoop c => exact allCB_of hp c h1
  | inBlock _ => trivial
  | inRegion ops l => exact ops_all hp h1
  | _ => cases h1
theorem kdB_of (hz : ZeroIs P tz q ch z) {o : Oper} (h : kdB P fs tz q ch o = true) : Kd P fs (phi q fY ats) q ch z o := by
  simp only [kdB, Bool.or_eq_true] at h
  rcases h with (h | h) | h
  · exact .inl (plainB_of h)
  · exact .inr (.inl (extB_of h))
  · exact .inr (.inr (rcvB_of h hz))
/-- A move: its source and its place. -/
def mvB (q : Nat) (o : Oper) : Option (Nat × Nat) :=
  match o.op, o.dst, o.guard with
  | .move (.tmp s), some d, none | .assign (.tmp s), some d, none => if s != q && decide (d < q) && d != 0 then some (s, d) else none
  | _, _, _ => none
theorem mvB_of {o : Oper} {s d : Nat} (h : mvB q o = some (s, d)) : MvS (phi q fY ats) q o s d := by
  unfold mvB at h
  split at h
  · rename_i s' d' h1 h2 h3
    split at h
    · rename_i hc
      cases h
      simp only [Bool.and_eq_true, bne_iff_ne, decide_eq_true_eq] at hc
      exact ⟨.inl h1, h2, phi_still (by unfold stillB; rw [h1]), h3, hc.1.1, hc.1.2, hc.2⟩
    · cases h
  · rename_i s' d' h1 h2 h3
    split at h
    · rename_i hc
      cases h
      simp only [Bool.and_eq_true, bne_iff_ne, decide_eq_true_eq] at hc
      exact ⟨.inr h1, h2, phi_still (by unfold stillB; rw [h1]), h3, hc.1.1, hc.1.2, hc.2⟩
    · cases h
  · cases h
/-- One operation of the straight piece. -/
def lstepB (q : Nat) (f0 : FuncId) : Tk → Oper → Option Tk
  | .none, o => match o.op, o.dst, o.guard with
    | .makeChan _ (.const (.int .i64 0)), some d, none => if decide (d < q) && d != 0 then some (.made [d] [0]) else none
    | _, _, _ => none
  | .made KC KL, o => match o.op with
    | .go c => match c.callee, c.args.toList with
      | .value (.func f), [.tmp a, .tmp s] => if f == f0 && o.dst.isNone && o.guard.isNone && KL.contains a && KC.contains s then some (.gone KC) else none
      | _, _ => none
    | _ => match mvB q o with
      | some (s, d) => if KC.contains s && !KL.contains d then some (.made (d :: KC) KL) else if KL.contains s && !KC.contains d then some (.made KC (d :: KL)) else none
      | none => none
  | .gone KC, o => match mvB q o with
    | some (s, d) => if KC.contains s then some (.gone (d :: KC)) else none
    | none => none
theorem lstepB_of {tk tk' : Tk} {o : Oper} (h : lstepB q f0 tk o = some tk') : LStep (phi q fY ats) q f0 fY tk o tk' := by
  cases tk with
  | none =>
    unfold lstepB at h
    dsimp only at h
    split at h
    · rename_i t d h1 h2 h3
      split at h
      · rename_i hc
        cases h
        simp only [Bool.and_eq_true, bne_iff_ne, decide_eq_true_eq] at hc
        exact .mk h1 (fun _ => rfl) h2 (phi_still (by unfold stillB; rw [h1])) h3 hc
      · cases h
    · cases h
  | made KC KL =>
    unfold lstepB at h
    dsimp only at h
    split at h
    · rename_i c ho
      split at h
      · rename_i f a s hcal harg
        split at h
        · rename_i hc
          cases h
          simp only [Bool.and_eq_true, beq_iff_eq, Option.isNone_iff_eq_none, List.contains_iff_mem] at hc
          obtain ⟨⟨⟨⟨rfl, h2⟩, h3⟩, h4⟩, h5⟩ := hc
          obtain ⟨cl, ar, at'⟩ := c
          dsimp only at hcal harg
          have har : ar = #[.tmp a, .tmp s] := by rw [← Array.toArray_toList (xs := ar), harg]
          subst hcal har
          exact .go ho h2 h3 (by unfold phi; rw [ho]) h4 h5
        · cases h
      · cases h
    · split at h
      · rename_i s d hmv
        split at h
        · rename_i hc
          cases h
          simp only [Bool.and_eq_true, Bool.not_eq_true', List.contains_iff_mem] at hc
          exact .mvC (mvB_of hmv) hc.1 (fun hm => by have := hc.2; rw [List.contains_iff_mem.2 hm] at this; cases this)
        · split at h
          · rename_i hc
            cases h
            simp only [Bool.and_eq_true, Bool.not_eq_true', List.contains_iff_mem] at hc
            exact .mvL (mvB_of hmv) hc.1 (fun hm => by have := hc.2; rw [List.contains_iff_mem.2 hm] at this; cases this)
          · cases h
      · cases h
  | gone KC =>
    unfold lstepB at h
    dsimp only at h
    split at h
    · rename_i s d hmv
      split at h
      · rename_i hc
        cases h
        exact .mvG (mvB_of hmv) (List.contains_iff_mem.1 hc)
      · cases h
    · cases h
def lineB (P : Program) (fs : List FuncId) (tz : TypeId) (q ch : Nat) (f0 : FuncId) : Nat → Tk → List Item → Bool
  | 0, _, _ => false
  | n + 1, tk, .code (.seq a b) :: k => lineB P fs tz q ch f0 n tk (.code a :: .code b :: k)
  | n + 1, tk, .code (.region _ ops false) :: k => lineB P fs tz q ch f0 n tk (.inRegion ops (List.range ops.size) :: k)
  | n + 1, tk, .code (.block id c) :: k => lineB P fs tz q ch f0 n tk (.code c :: .inBlock id :: k)
  | n + 1, tk, .code (.loop c) :: k => lineB P fs tz q ch f0 n tk (.code c :: .inLoop c :: k)
  | n + 1, tk, .inRegion ops [] :: k => lineB P fs tz q ch f0 n tk k
  | n + 1, tk, .inRegion ops (i :: l) :: k =>
    match ops[i]? with
    | none => false
    | some o =>
      match lstepB q f0 tk o with
      | some tk' => lineB P fs tz q ch f0 n tk' (.inRegion ops l :: k)
      | none => match tk with
        | .gone KC => rcvB P tz q ch o && KC.contains ch && (Item.inRegion ops (i :: l) :: k).all (allIB (kdB P fs tz q ch))
        | _ => false
  | _, _, _ => false
theorem lineB_of (hz : ZeroIs P tz q ch z) : ∀ (n : Nat) (tk : Tk) (l : List Item), lineB P fs tz q ch f0 n tk l = true → Line P fs (phi q fY ats) q ch z f0 fY tk l := by
  intro n
  induction n with
  | zero => intro tk l h; simp [lineB] at h
  | succ n ih =>
    intro tk l h
    unfold lineB at h
    split at h
    · exact absurd ‹_› (by omega)
    · rename_i e; cases e; exact .seq (ih _ _ h)
    · rename_i e; cases e; exact .reg (ih _ _ h)
    · rename_i e; cases e; exact .blk (ih _ _ h)
    · rename_i e; cases e; exact .lop (ih _ _ h)
    · rename_i e; cases e; exact .done (ih _ _ h)
    · rename_i e
      cases e
      split at h
      · cases h
      · rename_i o ho
        split at h
        · rename_i tk' hs
          exact .op ho (lstepB_of hs) (ih _ _ h)
        · split at h
          · simp only [Bool.and_eq_true, List.contains_iff_mem] at h
            exact .run ho (rcvB_of h.1.1 hz) h.1.2 (allIB_of (fun o ho => kdB_of hz ho) h.2)
          · cases h
    · cases h
/-- What lies ahead of the straight piece: k codes in a row. -/
def aheadB (P : Program) (fs : List FuncId) (tz : TypeId) (q ch : Nat) (f0 : FuncId) (n : Nat) : Nat → Code → Bool
  | 0, c => lineB P fs tz q ch f0 n .none [.code c]
  | k + 1, .seq a b => allCB (plainB P fs q ch) a && aheadB P fs tz q ch f0 n k b
  | _, _ => false
theorem aheadB_of (hz : ZeroIs P tz q ch z) {n : Nat} : ∀ (k : Nat) (c : Code), aheadB P fs tz q ch f0 n k c = true → Ahd2 P fs (phi q fY ats) q ch z f0 fY c := by
  intro k
  induction k with
  | zero => intro c h; exact .here (lineB_of hz _ _ _ h)
  | succ k ih =>
    intro c h
    cases c <;> try (simp [aheadB] at h; done)
    rename_i a b
    simp only [aheadB, Bool.and_eq_true] at h
    exact .more (allCB_of (fun o ho => plainB_of ho) a h.1) (ih b h.2)
/-- The replaced operations fit. -/
def fitOpsB (q : Nat) (ops : Array Oper) : Bool := ops.all fun o =>
  (match o.op with | .go _ => o.dst.isNone | .recv .. => o.dst == some q | _ => true) &&
  (match o.guard with | none => true | some (j, _) => match ops[j]? with | some p => stillB p && p.dst != some q | none => true)
def fitCB (q : Nat) : Code → Bool
  | .region _ ops _ => fitOpsB q ops
  | .seq a b => fitCB q a && fitCB q b
  | .cond c a b => outB q c && fitCB q a && fitCB q b
  | .block _ c | .loop c => fitCB q c
  | .scope _ | .goto _ | .label _ | .rangeFunc .. => false
  | _ => true
theorem fitOpsB_of {ops : Array Oper} (h : fitOpsB q ops = true) : FitOps (phi q fY ats) (· = q) ops := by
  have hall := fun (i : Nat) o (ho : ops[i]? = some o) => Array.all_eq_true_iff_forall_mem.1 h o (Array.mem_of_getElem? ho)
  refine ⟨fun i o ho => ?_, fun i o ho => ?_, fun i o ho => ?_, fun i o j b ho hg p hp => ?_⟩
  · unfold phi; split <;> rfl
  · have h1 := hall i o ho
    simp only [Bool.and_eq_true] at h1
    unfold phi
    split
    · rename_i hop
      rw [hop] at h1
      have := Option.isNone_iff_eq_none.1 h1.1
      exact .inr ⟨fun t e => (by rw [this] at e; cases e), fun t e => (by cases e; rfl)⟩
    · exact .inl rfl
    · exact .inl rfl
  · unfold phi; split <;> rfl
  · have h1 := hall i o ho
    simp only [Bool.and_eq_true] at h1
    have h2 := h1.2
    rw [hg] at h2
    dsimp only at h2
    rw [hp] at h2
    simp only [Bool.and_eq_true, bne_iff_ne] at h2
    exact ⟨by rw [phi_still h2.1], fun t e e' => h2.2 (by rw [e, e'])⟩
theorem fitCB_of : ∀ c, fitCB q c = true → FitC (phi q fY ats) (· = q) c := fun c => by
  induction c with
  | region id ops d => exact fun h => fitOpsB_of h
  | seq a b iha ihb => intro h; simp only [fitCB, Bool.and_eq_true] at h; exact ⟨iha h.1, ihb h.2⟩
  | cond c a b iha ihb => intro h; simp only [fitCB, Bool.and_eq_true] at h; exact ⟨outB_out h.1.1, iha h.1.2, ihb h.2⟩
  | block id c ih => exact fun h => ih h
  | loop c ih => exact fun h => ih h
  | scope _ _ => intro h; cases h
  | goto _ => intro h; cases h
  | label _ => intro h; cases h
  | rangeFunc _ _ _ _ _ => intro h; cases h
  | _ => exact fun _ => trivial
end
end Go.Goes

-- Stroke10
/-
  The twin's table of functions: one function replaced, others added at the end.
-/
namespace Go.Goes
open Go.Conc
set_option linter.unusedVariables false
def twinFns (P : Program) (S : FuncId) (fS : Func) (more : List Func) : Array Func := P.funcs.setIfInBounds S fS ++ more.toArray
section
variable {P : Program} {S : FuncId} {fS : Func} {more : List Func}
theorem twin_old {f : FuncId} (hf : f < P.funcs.size) (hne : f ≠ S) : (twinFns P S fS more)[f]? = P.funcs[f]? := by
  unfold twinFns
  rw [Array.getElem?_append_left (by simpa using hf), Array.getElem?_setIfInBounds_ne (Ne.symm hne)]
theorem twin_S (hS : S < P.funcs.size) : (twinFns P S fS more)[S]? = some fS := by
  unfold twinFns
  rw [Array.getElem?_append_left (by simpa using hS), Array.getElem?_setIfInBounds_self_of_lt hS]
theorem twin_new {i : Nat} : (twinFns P S fS more)[P.funcs.size + i]? = more[i]? := by
  unfold twinFns
  rw [Array.getElem?_append_right (by simp)]
  simp
def okCodeB (P : Program) (fs : List FuncId) : Code → Bool
  | .region _ ops _ => ops.all (simOpB P fs)
  | .seq a b | .cond _ a b => okCodeB P fs a && okCodeB P fs b
  | .block _ c | .loop c | .scope c => okCodeB P fs c
  | .rangeFunc .. => false
  | _ => true
theorem okCodeB_of {fs : List FuncId} : ∀ c, okCodeB P fs c = true → OkCode P fs c := fun c => by
  induction c with
  | region id ops d => exact fun h => ops_all (fun o ho => ho) h
  | seq a b iha ihb => intro h; simp only [okCodeB, Bool.and_eq_true] at h; exact ⟨iha h.1, ihb h.2⟩
  | cond c a b iha ihb => intro h; simp only [okCodeB, Bool.and_eq_true] at h; exact ⟨iha h.1, ihb h.2⟩
  | block id c ih => exact fun h => ih h
  | loop c ih => exact fun h => ih h
  | scope c ih => exact fun h => ih h
  | rangeFunc _ _ _ _ _ => intro h; cases h
  | _ => exact fun _ => trivial
/-- Functions of both programs whose code is followed. -/
def okFnsB (P : Program) (fs : List FuncId) (S : FuncId) : Bool := fs.all fun f => decide (f < P.funcs.size) && (f == S || match (P.funcs[f]?).bind (·.body) with | some b => okCodeB P fs b | none => true)
theorem tw_of {fs : List FuncId} (h : okFnsB P fs S = true) (hS : S < P.funcs.size) {fn : Func} (hfn : P.funcs[S]? = some fn) (hb : fS.body.isSome = fn.body.isSome) (hname : (fS.name == "runtime.NumGoroutine") = (fn.name == "runtime.NumGoroutine")) (hnr : fS.norace = fn.norace) (hmore : more.all (fun f => !f.norace) = true) : Tw P (twinFns P S fS more) fs S := by
  have hall := fun f hf => List.all_eq_true.1 h f hf
  have hlt : ∀ f ∈ fs, f < P.funcs.size := fun f hf => by have := hall f hf; simp only [Bool.and_eq_true, decide_eq_true_eq] at this; exact this.1
  refine ⟨fun f hf fn' hfn' => ?_, fun f hf hne => twin_old (hlt f hf) hne, fun f => ?_, fun f hf hne fn' body hfn' hbody => ?_⟩
  · by_cases e : f = S
    · subst e
      rw [hfn] at hfn'
      cases hfn'
      exact ⟨fS, twin_S hS, hb, hname⟩
    · exact ⟨fn', by rw [twin_old (hlt f hf) e]; exact hfn', rfl, rfl⟩
  · by_cases hlt : f < P.funcs.size
    · by_cases e : f = S
      · subst e; rw [twin_S hS, hfn]; simp [hnr]
      · rw [twin_old hlt e]
    · obtain ⟨i, rfl⟩ : ∃ i, f = P.funcs.size + i := ⟨f - P.funcs.size, (Nat.add_sub_of_le (Nat.le_of_not_lt hlt)).symm⟩
      rw [twin_new, Array.getElem?_eq_none (xs := P.funcs) (Nat.le_add_right _ _)]
      cases hm : more[i]? with
      | none => rfl
      | some g =>
        have := List.all_eq_true.1 hmore g (List.mem_of_getElem? hm)
        simp at this
        simp [this]
  · have := hall f hf
    simp only [Bool.and_eq_true, decide_eq_true_eq, Bool.or_eq_true, beq_iff_eq] at this
    rcases this.2 with e | h2
    · exact (hne e).elim
    · rw [hfn', Option.bind_some, hbody] at h2
      exact okCodeB_of _ h2
end
end Go.Goes

-- Check4
/-
  The functions that the twin has besides: the edges from behind, the sender told as data.
-/
namespace Go.Goes
open Go.Conc
set_option linter.unusedVariables false

/-- The sender's operations, told as data. -/
def phiZ (acc : Nat) (o : Oper) : Oper :=
  match o.op with
  | .send ch x => { o with dst := some acc, op := .makeFunc (.func 0) #[] #[.tmp acc, ch, x] }
  | .call c => match c.callee with
    | .builtin .close => { o with dst := some acc, op := .makeFunc (.func 1) #[] #[.tmp acc, c.args.getD 0 (.const undef)] }
    | _ => o
  | _ => o
def calls (d : Tmp) (f : FuncId) (as : Array Operand) (t : TypeId) : Oper := opx (some d) (.call { callee := .value (.func f), args := as, argTypes := #[] }) t
/-- Values ahead of what follows. -/
def Lapp : List Value → Value → Value
  | [], a => a
  | v :: vs, a => .tuple #[v, .bool true, Lapp vs a]
theorem lv_lapp (z : Value) : ∀ vs, Lv z vs = Lapp vs (.tuple #[z, .bool false])
  | [] => rfl
  | v :: vs => by unfold Lv Lapp; rw [lv_lapp z vs]
theorem lapp_append (a : Value) : ∀ l m, Lapp (l ++ m) a = Lapp l (Lapp m a)
  | [], _ => rfl
  | v :: l, m => by simp only [List.cons_append, Lapp]; rw [lapp_append a l m]
end Go.Goes

-- Send3
/-
  The sender's twin: its closed facts as checks that reckon.
-/
namespace Go.Goes
open Go.Conc
set_option linter.unusedVariables false
def isCloseB (o : Oper) : Bool := match o.op with | .call c => (match c.callee with | .builtin .close => true | _ => false) | _ => false
def plainZB (P : Program) (acc : Nat) (o : Oper) : Bool := (match o.op with | .send .. => false | _ => true) && !isCloseB o && roOpB o && simOpB P [] o && opsOutB acc o && o.dst != some acc && o.guard.isNone
theorem plainZB_of {P : Program} {acc : Nat} {o : Oper} (h : plainZB P acc o = true) : Plain (phiZ acc) acc o := by
  simp only [plainZB, Bool.and_eq_true, Bool.not_eq_true', bne_iff_ne, ne_eq, Option.isNone_iff_eq_none] at h
  obtain ⟨⟨⟨⟨⟨⟨h1, h2⟩, h3⟩, h4⟩, h5⟩, h6⟩, h7⟩ := h
  refine ⟨?_, h3, sameOp_of h4 h5, h6, h7⟩
  unfold phiZ
  unfold isCloseB at h2
  split <;> first | rfl | skip
  · rename_i e; rw [e] at h1; cases h1
  · rename_i e
    rw [e] at h2
    dsimp only at h2
    split <;> first | rfl | skip
    rename_i e2
    rw [e2] at h2
    cases h2
def sendZB (acc : Nat) (o : Oper) : Bool := match o.op with | .send ch x => o.dst.isNone && o.guard.isNone && outB acc ch && outB acc x | _ => false
theorem sendZB_of {acc : Nat} {o : Oper} (h : sendZB acc o = true) : ∃ ch x, IsSend (phiZ acc) acc o ch x := by
  unfold sendZB at h
  split at h
  · rename_i ch x e
    simp only [Bool.and_eq_true, Option.isNone_iff_eq_none] at h
    obtain ⟨⟨⟨h1, h2⟩, h3⟩, h4⟩ := h
    exact ⟨ch, x, e, h1, h2, by unfold phiZ; rw [e], outB_out h3, outB_out h4⟩
  · cases h
def nccB (P : Program) (acc : Nat) : Code → Bool
  | .region _ ops _ => ops.all fun o => plainZB P acc o || sendZB acc o
  | .seq a b | .cond _ a b => nccB P acc a && nccB P acc b
  | .block _ c | .loop c => nccB P acc c
  | .skip | .exit _ => true
  | _ => false
theorem nccB_of {P : Program} {acc : Nat} : ∀ c, nccB P acc c = true → NCC (phiZ acc) acc c := fun c => by
  induction c with
  | region id ops d =>
    intro h i o ho
    have h2 := Array.all_eq_true_iff_forall_mem.1 h o (Array.mem_of_getElem? ho)
    rw [Bool.or_eq_true] at h2
    exact h2.imp plainZB_of sendZB_of
  | seq a b iha ihb => intro h; simp only [nccB, Bool.and_eq_true] at h; exact ⟨iha h.1, ihb h.2⟩
  | cond c a b iha ihb => intro h; simp only [nccB, Bool.and_eq_true] at h; exact ⟨iha h.1, ihb h.2⟩
  | block id c ih => exact fun h => ih h
  | loop c ih => exact fun h => ih h
  | skip => exact fun _ => trivial
  | exit id => exact fun _ => trivial
  | _ => intro h; cases h
def closeZB (acc : Nat) (o : Oper) : Bool := match o.op with
  | .call { callee := .builtin .close, args := ⟨[ch]⟩, .. } => o.dst.isNone && o.guard.isNone && outB acc ch
  | _ => false
theorem closeZB_of {acc : Nat} {o : Oper} (h : closeZB acc o = true) : ∃ ch ats, IsClose (phiZ acc) acc o ch ats := by
  unfold closeZB at h
  split at h
  · rename_i ch ats e
    simp only [Bool.and_eq_true, Option.isNone_iff_eq_none] at h
    obtain ⟨⟨h1, h2⟩, h3⟩ := h
    exact ⟨ch, ats, e, h1, h2, by unfold phiZ; rw [e]; rfl, outB_out h3⟩
  · cases h
def knownZB (P : Program) (acc : Nat) (o : Oper) : Bool := plainZB P acc o || sendZB acc o || closeZB acc o
theorem fitOpsZ_of {P : Program} {acc : Nat} {ops : Array Oper} (h : (ops.all fun o => knownZB P acc o) = true) : FitOps (phiZ acc) (· = acc) ops := by
  have hall : ∀ (i : Nat) o, ops[i]? = some o → Plain (phiZ acc) acc o ∨ (∃ ch x, IsSend (phiZ acc) acc o ch x) ∨ ∃ ch ats, IsClose (phiZ acc) acc o ch ats := fun i o ho => by
    have h2 := Array.all_eq_true_iff_forall_mem.1 h o (Array.mem_of_getElem? ho)
    simp only [knownZB, Bool.or_eq_true] at h2
    rcases h2 with (h2 | h2) | h2
    · exact .inl (plainZB_of h2)
    · exact .inr (.inl (sendZB_of h2))
    · exact .inr (.inr (closeZB_of h2))
  refine ⟨fun i o ho => ?_, fun i o ho => ?_, fun i o ho => ?_, fun i o j b ho hg p hp => ?_⟩
  · rcases hall i o ho with h1 | ⟨_, _, h1⟩ | ⟨_, _, h1⟩
    · rw [h1.same]
    · rw [h1.to]
    · rw [h1.to]
  · rcases hall i o ho with h1 | ⟨_, _, h1⟩ | ⟨_, _, h1⟩
    · exact .inl (by rw [h1.same])
    · exact .inr ⟨fun t e => (by rw [h1.dst] at e; cases e), fun t e => (by rw [h1.to] at e; cases e; rfl)⟩
    · exact .inr ⟨fun t e => (by rw [h1.dst] at e; cases e), fun t e => (by rw [h1.to] at e; cases e; rfl)⟩
  · rcases hall i o ho with h1 | ⟨_, _, h1⟩ | ⟨_, _, h1⟩
    · rw [h1.same]
    · rw [h1.to]
    · rw [h1.to]
  · have e : o.guard = none := by
      rcases hall i o ho with h1 | ⟨_, _, h1⟩ | ⟨_, _, h1⟩
      · exact h1.guard
      · exact h1.guard
      · exact h1.guard
    rw [e] at hg; cases hg
def fitZB (P : Program) (acc : Nat) : Code → Bool
  | .region _ ops _ => ops.all fun o => knownZB P acc o
  | .seq a b => fitZB P acc a && fitZB P acc b
  | .cond c a b => outB acc c && fitZB P acc a && fitZB P acc b
  | .block _ c | .loop c => fitZB P acc c
  | .skip | .exit _ | .ret => true
  | _ => false
theorem fitZB_of {P : Program} {acc : Nat} : ∀ c, fitZB P acc c = true → FitC (phiZ acc) (· = acc) c := fun c => by
  induction c with
  | region id ops d => exact fun h => fitOpsZ_of h
  | seq a b iha ihb => intro h; simp only [fitZB, Bool.and_eq_true] at h; exact ⟨iha h.1, ihb h.2⟩
  | cond c a b iha ihb => intro h; simp only [fitZB, Bool.and_eq_true] at h; exact ⟨outB_out h.1.1, iha h.1.2, ihb h.2⟩
  | block id c ih => exact fun h => ih h
  | loop c ih => exact fun h => ih h
  | skip => exact fun _ => trivial
  | exit id => exact fun _ => trivial
  | ret => exact fun _ => trivial
  | _ => intro h; cases h
/-- The last region closes at its end. -/
def lastB (P : Program) (acc n : Nat) (ops : Array Oper) : Bool := ops.size == n + 1 && (match ops[n]? with | some o => closeZB acc o | none => false) && (List.range n).all fun i => match ops[i]? with | some o => plainZB P acc o | none => false
theorem lastB_of {P : Program} {acc n : Nat} {ops : Array Oper} (h : lastB P acc n ops = true) : LastOk (phiZ acc) acc ops (List.range ops.size) := by
  simp only [lastB, Bool.and_eq_true, beq_iff_eq] at h
  obtain ⟨⟨h1, h2⟩, h3⟩ := h
  cases e : ops[n]? with
  | none => rw [e] at h2; cases h2
  | some oc =>
    rw [e] at h2
    obtain ⟨ch, ats, hc⟩ := closeZB_of h2
    refine ⟨List.range n, n, oc, ch, ats, by rw [h1, List.range_succ], e, hc, fun i hi => ?_⟩
    have h4 := List.all_eq_true.1 h3 i hi
    cases e2 : ops[i]? with
    | none => rw [e2] at h4; cases h4
    | some o => rw [e2] at h4; exact ⟨o, rfl, plainZB_of h4⟩
end Go.Goes

-- Glue
/-
  From the law's own walk over the twin to the program's good run.
-/
namespace Go.Goes
open Go.Conc
set_option linter.unusedVariables false
section
variable {P : Program} {F' : Array Func} {fs : List FuncId} {S : FuncId} {FT : FuncId → Prop} {Post PostX : Value → World → Prop} {W : World}
/-- Where the law's tree ends. -/
def LStop (P : Program) (F' : Array Func) (f : FuncId) (PostX : Value → World → Prop) (fr : Frame) (x : World) : Prop := fr.fn = f ∧ ∃ τ d v, fr.leaving (tw P F') (x.re τ d) (.returned v) ∧ PostX v (x.re τ d)
theorem law_tr (hP : NoSteps (tw P F')) (hSD : (tw P F').follows .staticDataAhead = true) (hF : ∀ f, FT f → CalmFn (tw P F') FT f) {f : FuncId} (hf : FT f) {args : Array Value}
    (h : ∀ τ, Calls (tw P F') f args (W.re τ 0) (fun e W' => ∃ v, e = .returned v ∧ PostX v W')) : Tr (tw P F') FT (LStop P F' f PostX) (Frame.enter (tw P F') f args .normal) [] W := by
  have t := term_of_steps (R := fun τ fr w' => fr.fn = f ∧ ∃ v, fr.leaving (tw P F') w' (.returned v) ∧ PostX v w') hP hF (enter_calm (hF f hf) args) (w := W) fun τ => by
    obtain ⟨e, w', fr', ⟨v, rfl, hR⟩, hC, hfn, hl⟩ := h τ [dead]
    exact ⟨fr', w', hC, ⟨hfn, v, hl, hR⟩, fun ch hm => by rw [hl.1] at hm; cases hm⟩
  refine Tr.stops (fun fr u hst => ?_) (term_tr hP hSD hF (fun fr u w e hst => ?_) (fun fr w ch hst => ?_) t (enter_calm (hF f hf) args) (fun c hc => by cases hc))
  · obtain ⟨τ, d', h0, v, hl, hR⟩ := hst
    exact ⟨h0, τ, d', v, hl, hR⟩
  · obtain ⟨τ, d', h0, v, hl, hR⟩ := hst
    exact ⟨τ, d', h0, v, by rw [← e]; exact hl, by rw [← e]; exact hR⟩
  · obtain ⟨τ, d', h0, v, hl, hR⟩ := hst
    rw [hl.1]; simp
theorem law_stop (hT : Tw P F' fs S) {f : FuncId} {fn : Func} {r : Nat} (hfn : P.funcs[f]? = some fn) (hres : fn.results = #[.tmp r]) (hinit : P.inits.idxOf? f = none) (hpost : ∀ v x u τ d, PostX v (x.re τ d) → Vr true x u → Lw W u → ∀ τ d, Post v (u.re τ d))
    {fr : Frame} {x : World} (h : LStop P F' f PostX fr x) : MS P fs S Post W fr [] x := by
  intro hsh _ u hV hL
  obtain ⟨h0, τ, d, v, ⟨hm, hd, hk, fn1, hfn1, hr⟩, hp⟩ := h
  have e1 : fn1 = fn := by
    have h1 : F'[fr.fn]? = some fn1 := hfn1
    rw [hT.same _ hsh.known hsh.other, h0, hfn] at h1
    exact (Option.some.inj h1).symm
  subst e1
  have hv : v = fr.tmps.getD r undef := by
    rw [results_one hres] at hr
    injection hr with hr _
    exact hr.symm
  refine ends_end (v := v) (τ0 := τ) (d0 := d) ⟨hm, hd, hk, fn1, by rw [h0]; exact hfn, ?_⟩ (by rw [h0]; exact hinit) (hpost v x u τ d hp hV hL)
  rw [results_one hres, hv]
  rfl
/-- **The law's own run.** -/
theorem law_runs (hP : NoSteps (tw P F')) (hSD : (tw P F').follows .staticDataAhead = true) (hF : ∀ f, FT f → CalmFn (tw P F') FT f) (hT : Tw P F' fs S) (hsome : ∀ f ∈ fs, (P.funcs[f]?).isSome = true)
    (hstroke : ∀ args c r2 x, (∀ fn, P.funcs[S]? = some fn → args.size = fn.params.size) → Tr (tw P F') FT (Back (tw P F') FT (MS P fs S Post W) c r2) (Frame.enter (tw P F') S args .normal) [] x → ShF P fs S c → Waits c → (∀ c' ∈ r2, ShF P fs S c' ∧ Waits c') → ∀ u, Vr true x u → Lw W u → Ends P Post (G (Frame.enter P S args .normal) (c :: r2)) u)
    {f : FuncId} (hf : FT f) (hfs : f ∈ fs) (hfS : f ≠ S) {fn : Func} {r : Nat} (hfn : P.funcs[f]? = some fn) (hres : fn.results = #[.tmp r]) (hinit : P.inits.idxOf? f = none) {args : Array Value}
    (hpost : ∀ v x u τ d, PostX v (x.re τ d) → Vr true x u → Lw W u → ∀ τ d, Post v (u.re τ d))
    (h : ∀ τ, Calls (tw P F') f args (W.re τ 0) (fun e W' => ∃ v, e = .returned v ∧ PostX v W')) : Ends P Post (G (Frame.enter P f args .normal) []) W := by
  have t := law_tr hP hSD hF hf h
  have m := law_ends hT hsome (fun fr x hst => law_stop hT hfn hres hinit hpost hst) hstroke t
  rw [enter_same hT hfs hfS] at m
  exact m (enter_ok hT hfs hfS (hsome f hfs) args) (fun c hc => by cases hc) W (Vr.refl true W) (fun k o h _ => h)
/-- The run from its start, alone. -/
theorem good_of_ends {f : FuncId} {args : Array Value} (h : Ends P Post (G (Frame.enter P f args .normal) []) W) :
    ∃ M last o w' t', runNT P (M + 1) (solo (G (Frame.enter P f args .normal) []) W) #[] = (.ended o w', t') ∧ runN P M (solo (G (Frame.enter P f args .normal) []) W) = .next last ∧ step P last = .ended o w' ∧ Good P Post last o w' t' := by
  exact h #[G (Frame.enter P f args .normal) []] none #[] (fun _ => 0) W.tape W.drawn rfl (leavers_one P _) ⟨0, past_nil⟩
end
end Go.Goes

-- Glue2
/-
  The sender's script from its twin's walk; the stroke from what its check shows.
-/
namespace Go.Goes
open Go.Conc
set_option linter.unusedVariables false
theorem SD.world {P : Program} {c B : Nat} {tm : Bool} {w0 w1 : World} (he : ∀ k, k < B → k ≠ c → w1.heap[k]? = w0.heap[k]?) {vs : List Value} {g : Goroutine} (h : SD P c B tm w0 vs g) : SD P c B tm w1 vs g := by
  have hl : ∀ w, Lo c B w1 w → Lo c B w0 w := fun w h k hk hc => (h k hk hc).trans (he k hk hc)
  induction h with
  | step hrun x y es h next ih => exact .step hrun x y es (fun w a b => h w (hl w a) b) (fun w a b => ih w (hl w a) b)
  | send hrun g₂ z' es h next ih => exact .send hrun g₂ z' es (fun w a b => h w (hl w a) b) ih
  | close hrun hwake g₂ es k h hq => exact .close hrun hwake g₂ es k (fun w s r tm a b => h w s r tm (hl w a) b) hq
/-- The world of the low blocks alone. -/
def cutW (u : World) (B : Nat) : World := { u with heap := u.heap.extract 0 B }
theorem cutW_get {u : World} {B k : Nat} (h : k < B) : (cutW u B).heap[k]? = u.heap[k]? := by
  unfold cutW
  simp only [Array.getElem?_extract]
  by_cases hk : k < u.heap.size
  · rw [if_pos (by omega)]; simp
  · rw [if_neg (by omega), Array.getElem?_eq_none (by omega)]
theorem cutW_size {u : World} {B : Nat} (h : B ≤ u.heap.size) : (cutW u B).heap.size = B := by
  unfold cutW; simp; omega
theorem sends_of {P : Program} {F' : Array Func} {F : FuncId → Prop} {φ : Oper → Oper} (hP : NoSteps (tw P F')) (hSD : (tw P F').follows .staticDataAhead = true) (hF : ∀ f, F f → CalmFn (tw P F') F f) {f0 fz : FuncId} (hFz : F fz) {nt : Nat} {A : Code} {id : Nat} {ops : Array Oper} (hT : TwinOf φ P F' f0 fz nt A id ops)
    {fnz : Func} (hfz : F'[fz]? = some fnz) (hres : fnz.results = #[.tmp nt]) {args : Array Value} (hargs : args.size ≤ nt) {u : World} {c B : Nat} {vs : List Value} (hB : B ≤ c) (hc : c < u.heap.size)
    (h : ∀ τ, Calls (tw P F') fz args ((cutW u B).re τ 0) (fun e w' => e = .returned (closedV c vs) ∧ w'.heap.size = B)) : SD P c B false u vs (newborn P f0 args) := by
  have hs := cutW_size (u := u) (B := B) (by omega)
  have t := term_of_steps (R := fun τ fr w' => fr.fn = fz ∧ fr.leaving (tw P F') w' (.returned (closedV c vs)) ∧ w'.heap.size = B) hP hF (enter_calm (hF fz hFz) args) (w := cutW u B) fun τ => by
    obtain ⟨e, w', fr', ⟨rfl, hR⟩, hC, hfn, hl⟩ := h τ [dead]
    exact ⟨fr', w', hC, ⟨hfn, hl, hR⟩, fun ch hm => by rw [hl.1] at hm; cases hm⟩
  have tr : Tr (tw P F') F (SStop nt c B vs) (Frame.enter (tw P F') fz args .normal) [] (cutW u B) := by
    refine Tr.stops (fun fr w hst => ?_) (term_tr hP hSD hF (fun fr u w e hst => ?_) (fun fr w ch hst => ?_) t (enter_calm (hF fz hFz) args) (fun c hc => by cases hc))
    · obtain ⟨τ, d', h0, hl, hR⟩ := hst
      refine ⟨hl.1, Nat.le_of_eq hR, ?_⟩
      obtain ⟨_, _, _, fn, hf, hr⟩ := hl
      have e : fn = fnz := by
        have h1 : F'[fr.fn]? = some fn := hf
        rw [h0, hfz] at h1
        exact (Option.some.inj h1).symm
      subst e
      rw [results_one hres] at hr
      injection hr
    · obtain ⟨τ, d', h0, hl, hR⟩ := hst
      exact ⟨τ, d', h0, by rw [← e]; exact hl, by rw [← e]; exact hR⟩
    · obtain ⟨τ, d', h0, hl, hR⟩ := hst
      rw [hl.1]; simp
  refine SD.world (w0 := cutW u B) (fun k hk _ => (cutW_get hk).symm) (sd_of_tree hT (fun w1 hl hch k o ho => ?_) hs hargs tr)
  have hk : k < B := by rw [← hs]; exact (Array.getElem?_eq_some_iff.1 ho).1
  exact ⟨o, (hl k hk (by omega)).trans ho, .inl rfl⟩
theorem spot_none {x : World} {a : Addr} {v : Value} (h : x.cell? a = some v) : a.spot = none := by
  unfold World.cell? at h
  split at h
  · split at h
    · cases h
    · rename_i e; simpa using e
  · cases h
theorem add_none (s o n : Nat) : (⟨s, o, none⟩ : Addr).add n = ⟨s, o + n, none⟩ := by
  unfold Addr.add
  split
  · rename_i h; subst h; rfl
  · rfl
theorem add_zero (a : Addr) : a.add 0 = a := rfl
/-- The stroke, as the law asks for it. -/
theorem stroke_good {P : Program} {F' : Array Func} {fs fsl : List FuncId} {S S2 : FuncId} {FT FT2 : FuncId → Prop} {Post : Value → World → Prop} {W : World} {φ : Oper → Oper} {q ch r nt : Nat} {z : Value} {f0 fY fC : FuncId} {body : Code} {chk : Oper} {idc : Nat} (hK : Base P F' fs S S2 FT2 φ q ch r nt z f0 fY fC body chk idc 2)
    {fnS : Func} (hfS : P.funcs[S]? = some fnS) (hpar : fnS.params.size = 2) {ats : Array TypeId} (hop : chk.op = .call { callee := .value (.func fC), args := #[.tmp 0, .tmp 1], argTypes := ats })
    {tI tPt tSl tLs : TypeId} (hTs : Ts (tw P F') tI tPt tSl tLs) {w1 w0 : FuncId} {fn1 fn fnC : Func} (hfn1 : (tw P F').funcs[w1]? = some fn1) (hb1 : fn1.body = some (bodyW tSl tI bigP (ops1 tI tPt tSl w1))) (hnt1 : fn1.ntmps = 14) (hres1 : fn1.results = #[]) (hname1 : (fn1.name == "runtime.NumGoroutine") = false)
    (hfn : (tw P F').funcs[w0]? = some fn) (hb : fn.body = some (bodyW tLs tI bigL (opsO tI tSl tLs w1 w0))) (hnt : fn.ntmps = 14) (hres : fn.results = #[]) (hname : (fn.name == "runtime.NumGoroutine") = false)
    (hfnC : (tw P F').funcs[fC]? = some fnC) (hbC : fnC.body = some (bodyC tI tLs w0)) (hntC : fnC.ntmps = 3) (hresC : fnC.results = #[])
    (hlines : ∀ (x : World) (p : Option Addr) (n cc : Nat) (width : Int), (n : Int) < bigL → (sumN (lnOf x p) n : Int) < bigS → (∀ j, j < n → LineAt x p j) → ∃ aY vs0 Ok, Lines8 P F' S2 z f0 fY fC #[.slice p n cc, .int .i64 width] #[.slice p n cc, .int .i64 width] x.heap.size (.slice p n cc) aY vs0 Ok ∧ Ok x) :
    ∀ args c r2 x, (∀ fn, P.funcs[S]? = some fn → args.size = fn.params.size) → Tr (tw P F') FT (Back (tw P F') FT (MS P fsl S Post W) c r2) (Frame.enter (tw P F') S args .normal) [] x → ShF P fsl S c → Waits c → (∀ c' ∈ r2, ShF P fsl S c' ∧ Waits c') →
      ∀ u, Vr true x u → Lw W u → Ends P Post (G (Frame.enter P S args .normal) (c :: r2)) u := by
  intro args c r2 x hsz hT hsh hw hr2 u hV hL
  have hsz2 : args.size = 2 := (hsz fnS hfS).trans hpar
  obtain ⟨a0, a1, rfl⟩ : ∃ a0 a1, args = #[a0, a1] := by
    obtain ⟨l⟩ := args
    match l, hsz2 with
    | [a0, a1], _ => exact ⟨a0, a1, rfl⟩
  refine stroke_ends (Lw := Lw W) (args := #[a0, a1]) (cargs := #[a0, a1]) hK (fun v x1 u1 h hv hl => h (hsh.finish hw v) hr2 u1 hv hl) trivial rfl (fun f hf => ?_) (fun f hf => ?_) hT hV hL (fun u1 u2 he hl k o hk hn => ?_)
  · unfold execOp
    rw [hop]
    have e0 : f.eval (.tmp 0) = a0 := by show f.tmps.getD 0 undef = a0; rw [hf, Array.getD_eq_getD_getElem?, Array.getElem?_append_left (by simp)]; rfl
    have e1 : f.eval (.tmp 1) = a1 := by show f.tmps.getD 1 undef = a1; rw [hf, Array.getD_eq_getD_getElem?, Array.getElem?_append_left (by simp)]; rfl
    have e2 : f.eval (.func fC) = .func (.func fC) #[] #[] := rfl
    have e3 : (#[Operand.tmp 0, .tmp 1] : Array Operand).map f.eval = #[a0, a1] := by simp [e0, e1]
    simp only [resolve, e2, e3, Deferred.ofValue]
    show callFunc fC ((#[] ++ #[a0, a1]) ++ #[]) = _
    simp
  · obtain ⟨p, n, cc, width, rfl, rfl, h1, h2, h3, h4⟩ := c_look Back.re Back.returning hTs hfn1 hb1 hnt1 hres1 hname1 hfn hb hnt hres hname hfnC hbC hntC hresC hf
    obtain ⟨aY, vs0, Ok, h5, h6⟩ := hlines x p n cc width h1 h2 h3
    exact ⟨_, aY, vs0, Ok, h5, h6, _, h4⟩
  · have h1 := hL k o hk hn
    have h2 : k < x.heap.size := by rw [← hV.size]; exact (Array.getElem?_eq_some_iff.1 h1).1
    rw [he k h2]
    exact hl k o hk hn
end Go.Goes
