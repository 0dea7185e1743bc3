/-
  TwGoesB: texts of one claim, in one.
-/
import Derived.Test.YtmofjlonmggpmaaFnStrokeLinesM1

/-
  Goroutines: what they do, told without them. (Laid by glay.py.)
-/
set_option maxHeartbeats 2000000
set_option linter.all false
-- Tr
/-
  The tree of a calm piece, told step by step.
-/
namespace Go.Goes
open Go.Conc
set_option linter.unusedVariables false

structure OpTo where
  nx : Next
  w : World
  k : Nat
  fs : Array Event
/-- The frames behind an operation. -/
def OpTo.top (P : Program) (y : OpTo) (fr : Frame) : Frame := match y.nx with | .value v => fr.finish v | .skip => fr.finish undef | .enter f args => Frame.enter P f args .normal | _ => fr
def OpTo.rest (y : OpTo) (fr : Frame) (rest : List Frame) : List Frame := match y.nx with | .enter _ _ => fr :: rest | _ => rest
structure RetTo where
  v : Value
  w : World
  k : Nat
  fs : Array Event

inductive Tr (P : Program) (F : FuncId → Prop) (Stop : Frame → World → Prop) : Frame → List Frame → World → Prop
  | stop {fr : Frame} {w : World} (h : Stop fr w) : Tr P F Stop fr [] w
  | ctl {fr fr' : Frame} {rest : List Frame} {w : World} (hc : CalmF P F fr) (hm : fr.mode = .run) (h : ctl fr = some fr') (t : Tr P F Stop fr' rest w) : Tr P F Stop fr rest w
  | draw {fr : Frame} {id : Nat} {ops : Array Oper} {k : List Item} {rest : List Frame} {w : World} (hc : CalmF P F fr) (hm : fr.mode = .run) (h : AtDraw fr id ops k) (t : ∀ n : Nat, Tr P F Stop { fr with todo := .inRegion ops (Region.schedule (P.follows .mixedOrders) ops n) :: k } rest w) : Tr P F Stop fr rest w
  | op {fr : Frame} {o : Oper} {rest : List Frame} {w : World} (hc : CalmF P F fr) (hm : fr.mode = .run) (h : AtOp fr o) (y : (Nat → Question → Nat) → Nat → OpTo)
      (hy : ∀ τ d, (execOp fr.eval o).runT P (w.re τ d) #[] = (.ok (y τ d).nx ((y τ d).w.re τ (d + (y τ d).k)), (y τ d).fs) ∧ okNext F (y τ d).nx)
      (t : ∀ τ d, Tr P F Stop ((y τ d).top P fr) ((y τ d).rest fr rest) (y τ d).w) : Tr P F Stop fr rest w
  | ret {fr c : Frame} {fn : Func} {rest : List Frame} {w : World} (hc : CalmF P F fr) (hm : fr.mode = .returning) (hfn : P.funcs[fr.fn]? = some fn) (y : (Nat → Question → Nat) → Nat → RetTo)
      (hy : ∀ τ d, (results fn fr.tmps).runT P (w.re τ d) #[] = (.ok (y τ d).v ((y τ d).w.re τ (d + (y τ d).k)), (y τ d).fs))
      (t : ∀ τ d, Tr P F Stop (c.finish (y τ d).v) rest (y τ d).w) : Tr P F Stop fr (c :: rest) w

section
variable {P : Program} {F : FuncId → Prop} {Stop : Frame → World → Prop}
/-- The tape is nothing to it. -/
theorem Tr.re (hS : ∀ fr u w, (∀ τ d, u.re τ d = w.re τ d) → Stop fr u → Stop fr w) {fr : Frame} {rest : List Frame} {u : World} (h : Tr P F Stop fr rest u) : ∀ {w : World}, (∀ τ d, u.re τ d = w.re τ d) → Tr P F Stop fr rest w := by
  induction h with
  | stop h => intro w e; exact .stop (hS _ _ _ e h)
  | ctl hc hm h _ ih => intro w e; exact .ctl hc hm h (ih e)
  | draw hc hm h _ ih => intro w e; exact .draw hc hm h (fun n => ih n e)
  | op hc hm h y hy t ih => intro w e; exact .op hc hm h y (fun τ d => by rw [← e]; exact hy τ d) t
  | ret hc hm hfn y hy t ih => intro w e; exact .ret hc hm hfn y (fun τ d => by rw [← e]; exact hy τ d) t

theorem run_cases {fr : Frame} (hm : fr.mode = .run) (hc : CalmF P F fr) (h : ctl fr = none) : (∃ o, AtOp fr o ∧ CalmOp P F o) ∨ (∃ id ops k, AtDraw fr id ops k) ∨ (∀ cs w, ∃ o w' es, stepG P true (G fr cs) w = .ended o w' es) := by
  have hi := hc.items
  have hr := hc.round
  unfold ctl at h
  cases ht : fr.todo with
  | nil => rw [ht] at h; cases h
  | cons it k =>
    rw [ht] at h hi
    cases it with
    | inBlock id => cases h
    | inScope c => cases h
    | inLoop c => cases h
    | inRangeFunc l => exact hi.head.elim
    | endRangeFunc l => exact hi.head.elim
    | beginRound => exact hi.head.elim
    | call d b r s => exact hi.head.elim
    | extern r a => exact hi.head.elim
    | inRegion ops l =>
      cases l with
      | nil => cases h
      | cons i rest =>
        dsimp only at h
        cases ho : ops[i]? with
        | none => rw [ho] at h; cases h
        | some o =>
          rw [ho] at h
          by_cases hw : Region.wanted o (yielded ops fr.tmps) = true
          · exact .inl ⟨o, ⟨ops, i, rest, k, ht, ho, hw⟩, hi.head i o ho⟩
          · simp [hw] at h
    | code c =>
      cases c with
      | skip => cases h
      | label l => cases h
      | seq a b => cases h
      | block id c => cases h
      | loop c => cases h
      | scope c => cases h
      | ret => cases h
      | rangeFunc f ps a b => exact hi.head.elim
      | refuse why => exact .inr (.inr fun cs w => ⟨_, _, _, by simp [stepG, stepG.exec, G, hm, ht]; exact ⟨rfl, rfl, rfl⟩⟩)
      | exit id =>
        dsimp only at h
        cases he : exitTo id k with
        | some k' => rw [he] at h; cases h
        | none => exact .inr (.inr fun cs w => ⟨_, _, _, by simp [stepG, stepG.exec, G, hm, ht, he, hr]; exact ⟨rfl, rfl, rfl⟩⟩)
      | goto l =>
        dsimp only at h
        cases he : gotoIn l k with
        | some k' => rw [he] at h; cases h
        | none => exact .inr (.inr fun cs w => ⟨_, _, _, by simp [stepG, stepG.exec, G, hm, ht, he, hr]; exact ⟨rfl, rfl, rfl⟩⟩)
      | cond c a b =>
        dsimp only at h
        refine .inr (.inr fun cs w => ⟨.stuck "cond: bool expected" (fr.pos P), w, #[], ?_⟩)
        simp only [stepG, stepG.exec, G, hm, ht]
        generalize fr.eval c = v at h
        cases v <;> first | (cases h; done) | rfl
      | region id ops draw =>
        cases draw with
        | false => cases h
        | true => exact .inr (.inl ⟨id, ops, k, ht⟩)
end
end Go.Goes

-- Tr2
/-
  From 'Term' to the tree.
-/
namespace Go.Goes
open Go.Conc
set_option linter.unusedVariables false
section
variable {P : Program} {F : FuncId → Prop} {Stop : Frame → World → Prop}
theorem ctl_calm {fr fr' : Frame} (hc : CalmF P F fr) (h : ctl fr = some fr') : CalmF P F fr' := by
  have hi := hc.items
  unfold ctl at h
  cases ht : fr.todo with
  | nil => rw [ht] at h; cases h; have := hc.back; rw [ht] at this; exact this
  | cons it k =>
    rw [ht] at h hi
    have hk := hi.tail
    cases it with
    | inBlock id => cases h; exact hc.to hk
    | inScope c => cases h; exact hc.to hk
    | inLoop c => cases h; exact hc.to (.cons (it := .code c) hi.head (.cons (it := .inLoop c) hi.head hk))
    | inRangeFunc l => exact hi.head.elim
    | endRangeFunc l => exact hi.head.elim
    | beginRound => exact hi.head.elim
    | call d b r s => exact hi.head.elim
    | extern r a => exact hi.head.elim
    | inRegion ops l =>
      cases l with
      | nil => cases h; exact hc.to hk
      | cons i rest =>
        dsimp only at h
        split at h
        · cases h
        · cases h; exact finish_calm hc ht undef
    | code c =>
      cases c with
      | skip => cases h; exact hc.to hk
      | label l => cases h; exact hc.to hk
      | seq a b => cases h; exact hc.to (.cons (it := .code a) hi.head.1 (.cons (it := .code b) hi.head.2 hk))
      | block id c => cases h; exact hc.to (.cons (it := .code c) hi.head (.cons (it := .inBlock id) trivial hk))
      | loop c => cases h; exact hc.to (.cons (it := .code c) hi.head (.cons (it := .inLoop c) hi.head hk))
      | scope c => cases h; exact hc.to (.cons (it := .code c) hi.head (.cons (it := .inScope c) hi.head hk))
      | ret => cases h; have := hc.back; rw [ht] at this; exact this
      | rangeFunc f ps a b => exact hi.head.elim
      | refuse why => cases h
      | exit id => obtain ⟨k', h1, rfl⟩ := Option.map_eq_some_iff.1 h; exact hc.to (exitTo_calm hk h1)
      | goto l => obtain ⟨k', h1, rfl⟩ := Option.map_eq_some_iff.1 h; exact hc.to (gotoIn_calm hk h1)
      | cond c a b =>
        dsimp only at h
        split at h
        · rename_i t _; cases h; exact hc.to (.cons (it := .code (if t then a else b)) (by cases t; exact hi.head.2; exact hi.head.1) hk)
        · cases h
      | region id ops draw =>
        cases draw with
        | false => cases h; exact hc.to (.cons (it := .inRegion ops (List.range ops.size)) hi.head hk)
        | true => cases h
theorem op_waits {fr : Frame} {o : Oper} (h : AtOp fr o) : Waits fr := let ⟨ops, i, rest, k, ht, _, _⟩ := h; ⟨ops, i, rest, k, ht⟩
theorem waits_finish {fr : Frame} (hc : CalmF P F fr) (h : Waits fr) (v : Value) : CalmF P F (fr.finish v) := let ⟨ops, i, rest, k, ht⟩ := h; finish_calm hc ht v
theorem waits_nocall {fr : Frame} (h : Waits fr) : ∀ d b r s l, fr.todo ≠ .call d b r s :: l := by
  obtain ⟨ops, i, rest, k, ht⟩ := h
  intro d b r s l e
  rw [ht] at e; cases e
theorem G_inj {fr fr' : Frame} {cs cs' : List Frame} (h : G fr cs = G fr' cs') : fr = fr' ∧ cs = cs' := by
  have h1 := congrArg Goroutine.frame h
  have h2 := congrArg Goroutine.callers h
  exact ⟨h1, h2⟩

/-- Once it panics it does not come to its stop. -/
theorem term_panics (hSp : ∀ fr w ch, Stop fr w → fr.mode ≠ .panicking ch) {fr : Frame} {rest : List Frame} {w : World} (h : Term P Stop fr rest w) : ∀ ch, fr.mode = .panicking ch → fr.defers = [] → (P.funcs[fr.fn]?).isSome = true → (∀ c ∈ rest, Below1 P F c) → False := by
  induction h with
  | stop h => intro ch hm _ _ _; exact hSp _ _ _ h hm
  | @step fr rest w x h t ih =>
    intro ch hm hd hk hr
    have h0 := (h (fun _ _ => 0) 0).2
    cases rest with
    | nil =>
      have h1 := h0 [dead] (fun _ _ => 0) 0 (fun _ _ => rfl)
      rw [List.nil_append, raise_on hm hd hk dead []] at h1
      injection h1 with e1 _ _
      have := congrArg List.length (G_inj e1).2
      simp at this
    | cons c r =>
      have h1 := h0 [] (fun _ _ => 0) 0 (fun _ _ => rfl)
      rw [List.cons_append, raise_on hm hd hk c (r ++ [])] at h1
      injection h1 with e1 e2 e3
      obtain ⟨e4, e5⟩ := G_inj e1
      obtain ⟨hc, _⟩ := hr c (List.mem_cons_self ..)
      have hcm : c.raise ch = { c with mode := .panicking ch } := by
        unfold Frame.raise; rcases hc.mode with h1 | h1 <;> rw [h1]
      refine ih (fun _ _ => 0) 0 ch ?_ ?_ ?_ ?_
      · rw [← e4, hcm]
      · rw [← e4, hcm]; exact hc.defers
      · rw [← e4, hcm]; exact hc.known
      · rw [List.append_nil, List.append_nil] at e5
        rw [← e5]
        exact fun c' hc' => hr c' (List.mem_cons_of_mem _ hc')

theorem early_ended (hP : NoSteps P) (hSD : P.follows .staticDataAhead = true) (fr : Frame) (cs : List Frame) (g : Nat) (w : World) : ∃ o w', early P fr cs none g w = .ended o w' #[] := by
  exact ⟨.unsupported (.initOrder g) (fr.pos P), w, by unfold early; simp [hSD, hP g]⟩
/-- An operation that goes on. -/
theorem apply_inv (hP : NoSteps P) (hSD : P.follows .staticDataAhead = true) {fr : Frame} (hm : fr.mode = .run) (hk : (fr.kind == CallKind.early) = false) {cs : List Frame} {s : Sem Next} (hs : Calm P (okNext F) s) {w : World} {τ : Nat → Question → Nat} {d : Nat} {g : Goroutine} {w1 : World} {es : Array Event}
    (h : stepG.apply P true fr cs none s (w.re τ d) = .go g w1 es) : (∃ (nx : Next) (u : World) (k : Nat) (fs : Array Event), s.runT P (w.re τ d) #[] = (.ok nx (u.re τ (d + k)), fs) ∧ okNext F nx) ∨ ∃ ch, g = G (fr.raise ch) cs := by
  obtain ⟨n, u, r, fs, ⟨h1, h1'⟩, h2, h3⟩ := hs.retape τ w d #[]
  have h4 := h3 τ d (fun _ _ => rfl)
  cases r with
  | ok nx => exact .inl ⟨nx, u, n, fs, h4, h1 nx rfl⟩
  | error e =>
    have hp := h1' e rfl
    refine .inr ?_
    cases e <;> try exact hp.elim
    case panic v =>
      simp only [stepG.apply, h4, Result.of, hk, GStep.after, if_true] at h
      injection h with e1 _ _
      exact ⟨[{ v, recovered := false }], e1.symm⟩
    case stuck s => simp only [stepG.apply, h4, Result.of, hk, GStep.after, if_true] at h; cases h
    case unsupported s =>
      exfalso
      by_cases hg : ∃ g, s = .initOrder g
      · obtain ⟨g0, rfl⟩ := hg
        obtain ⟨o, w', he⟩ := early_ended hP hSD fr cs g0 (u.re τ (d + n))
        simp only [stepG.apply, h4, Result.of, hk, GStep.after, if_true, he] at h
        cases h
      · simp only [stepG.apply, h4, Result.of, hk, GStep.after, if_true] at h
        cases s <;> first | exact absurd ⟨_, rfl⟩ hg | (cases h; done)
end
end Go.Goes

-- Tr3
/-
  From 'Term' to the tree: the theorem.
-/
namespace Go.Goes
open Go.Conc
set_option linter.unusedVariables false
section
variable {P : Program} {F : FuncId → Prop} {Stop : Frame → World → Prop}
theorem kind_normal {fr : Frame} (hc : CalmF P F fr) : (fr.kind == CallKind.early) = false := by rw [hc.kind]; rfl
theorem term_tr (hP : NoSteps P) (hSD : P.follows .staticDataAhead = true) (hF : ∀ f, F f → CalmFn P F f) (hS : ∀ fr u w, (∀ τ d, u.re τ d = w.re τ d) → Stop fr u → Stop fr w) (hSp : ∀ fr w ch, Stop fr w → fr.mode ≠ .panicking ch)
    {fr : Frame} {rest : List Frame} {w : World} (h : Term P Stop fr rest w) : CalmF P F fr → (∀ c ∈ rest, Below1 P F c) → Tr P F Stop fr rest w := by
  induction h with
  | stop h => intro _ _; exact .stop h
  | @step fr rest w x h t ih =>
    intro hc hr
    have hgo : ∀ (cs : List Frame) (τ : Nat → Question → Nat) (d : Nat), stepG P true (G fr (rest ++ cs)) (w.re τ d) = .go (G (x τ d).fr ((x τ d).rest ++ cs)) ((x τ d).u.re τ (d + (x τ d).k)) (x τ d).es := fun cs τ d => (h τ d).2 cs τ d (fun _ _ => rfl)
    rcases hc.mode with hm | hm
    · cases hctl : ctl fr with
      | some fr' =>
        have h1 := hgo [] (fun _ _ => 0) 0
        rw [ctl_step hm hc.round hctl] at h1
        injection h1 with e1 e2 e3
        obtain ⟨e4, e5⟩ := G_inj e1
        rw [List.append_nil, List.append_nil] at e5
        have hcalm := ctl_calm hc hctl
        have h2 := ih (fun _ _ => 0) 0 (by rw [← e4]; exact hcalm) (by rw [← e5]; exact hr)
        rw [← e4, ← e5] at h2
        exact .ctl hc hm hctl (h2.re hS (fun τ d => (((re_inj e2).2 τ d)).symm))
      | none =>
        rcases run_cases hm hc hctl with ⟨o, ho, hco⟩ | ⟨id, ops, k, hdr⟩ | hend
        · have key : ∀ τ d, ∃ y : OpTo, ((execOp fr.eval o).runT P (w.re τ d) #[] = (.ok y.nx (y.w.re τ (d + y.k)), y.fs) ∧ okNext F y.nx) ∧ Tr P F Stop (y.top P fr) (y.rest fr rest) y.w := by
            intro τ d
            have h1 := hgo [] τ d
            rw [op_step hm hc.round ho] at h1
            rcases apply_inv (F := F) hP hSD hm (kind_normal hc) (hco fr.eval (fun _ => rfl)) h1 with ⟨nx, u, n, fs, hrun, hok⟩ | ⟨ch, hg⟩
            · refine ⟨⟨nx, u, n, fs⟩, ⟨hrun, hok⟩, ?_⟩
              rw [apply_ok (kind_normal hc) (waits_nocall (op_waits ho)) hrun] at h1
              cases nx <;> try exact hok.elim
              case value v =>
                injection h1 with e1 e2 e3
                obtain ⟨e4, e5⟩ := G_inj e1
                rw [List.append_nil, List.append_nil] at e5
                have h2 := ih τ d (by rw [← e4]; exact waits_finish hc (op_waits ho) v) (by rw [← e5]; exact hr)
                rw [← e4, ← e5] at h2
                exact h2.re hS (fun τ d => ((re_inj e2).2 τ d).symm)
              case skip =>
                injection h1 with e1 e2 e3
                obtain ⟨e4, e5⟩ := G_inj e1
                rw [List.append_nil, List.append_nil] at e5
                have h2 := ih τ d (by rw [← e4]; exact waits_finish hc (op_waits ho) undef) (by rw [← e5]; exact hr)
                rw [← e4, ← e5] at h2
                exact h2.re hS (fun τ d => ((re_inj e2).2 τ d).symm)
              case enter f args =>
                injection h1 with e1 e2 e3
                obtain ⟨e4, e5⟩ := G_inj e1
                rw [List.append_nil, List.append_nil] at e5
                have h2 := ih τ d (by rw [← e4]; exact enter_calm (hF f hok) args) (by
                  rw [← e5]
                  intro c hcm
                  rcases List.mem_cons.1 hcm with rfl | hcm
                  · exact ⟨hc, op_waits ho⟩
                  · exact hr c hcm)
                rw [← e4, ← e5] at h2
                exact h2.re hS (fun τ d => ((re_inj e2).2 τ d).symm)
            · exfalso
              obtain ⟨e4, e5⟩ := G_inj hg.symm
              rw [List.append_nil, List.append_nil] at e5
              have hcm : fr.raise ch = { fr with mode := .panicking ch } := by unfold Frame.raise; rw [hm]
              exact term_panics (F := F) hSp (t τ d) ch (by rw [← e4, hcm]) (by rw [← e4, hcm]; exact hc.defers) (by rw [← e4, hcm]; exact hc.known) (by rw [← e5]; exact hr)
          exact .op hc hm ho (fun τ d => Classical.choose (key τ d)) (fun τ d => (Classical.choose_spec (key τ d)).1) (fun τ d => (Classical.choose_spec (key τ d)).2)
        · refine .draw hc hm hdr (fun n => ?_)
          have h1 := hgo [] (fun _ _ => n) 0
          rw [draw_step hm hdr] at h1
          injection h1 with e1 e2 e3
          obtain ⟨e4, e5⟩ := G_inj e1
          rw [List.append_nil, List.append_nil] at e5
          have hcalm : CalmF P F { fr with todo := .inRegion ops (Region.schedule (P.follows .mixedOrders) ops n) :: k } := by
            have hi := hc.items
            unfold AtDraw at hdr
            rw [hdr] at hi
            exact hc.to (.cons (it := .inRegion ops _) hi.head hi.tail)
          have h2 := ih (fun _ _ => n) 0 (by rw [← e4]; exact hcalm) (by rw [← e5]; exact hr)
          rw [← e4, ← e5] at h2
          exact h2.re hS (fun τ d => ((re_inj e2).2 τ d).symm)
        · exfalso
          obtain ⟨o, w', es, he⟩ := hend (rest ++ []) (w.re (fun _ _ => 0) 0)
          rw [hgo] at he; cases he
    · cases rest with
      | nil =>
        exfalso
        obtain ⟨k, u, es, o, _, hb⟩ := back_on hm hc w (fun _ _ => 0) 0
        have h1 := hgo [dead] (fun _ _ => 0) 0
        have h2 := hb dead [] (fun _ _ => 0) 0 (fun _ _ => rfl)
        rw [List.nil_append] at h1
        rw [h1] at h2
        cases o with
        | ok v =>
          injection h2 with e1 _ _
          have := congrArg List.length (G_inj e1).2
          simp at this
        | error z => cases h2
      | cons c rest =>
        obtain ⟨fn, hfn⟩ := Option.isSome_iff_exists.1 hc.known
        have key : ∀ τ d, ∃ y : RetTo, (results fn fr.tmps).runT P (w.re τ d) #[] = (.ok y.v (y.w.re τ (d + y.k)), y.fs) ∧ Tr P F Stop (c.finish y.v) rest y.w := by
          intro τ d
          obtain ⟨n, u, r, fs, ⟨h1, h1'⟩, h2, h3⟩ := (calm_results (P := P) fn fr.tmps).retape τ w d #[]
          have h4 := h3 τ d (fun _ _ => rfl)
          have hrun : (results fn fr.tmps).run P (w.re τ d) = Result.of r (u.re τ (d + n)) := by rw [Sem.runT_eq] at h4; exact (Prod.mk.inj h4).1
          have hev : (results fn fr.tmps).events P (w.re τ d) #[] = fs := by rw [Sem.runT_eq] at h4; exact (Prod.mk.inj h4).2
          have h5 := hgo [] τ d
          have hd := hc.defers
          have hkk := hc.kind
          cases r with
          | ok v =>
            refine ⟨⟨v, u, n, fs⟩, h4, ?_⟩
            have h6 : stepG P true (G fr (c :: rest ++ [])) (w.re τ d) = .go (G (c.finish v) (rest ++ [])) (u.re τ (d + n)) (seen P fr.fn fs) := by
              simp [stepG, unwind, doReturn, G, hm, hd, hkk, hfn, hrun, hev, Result.of, GStep.after]
            rw [h6] at h5
            injection h5 with e1 e2 e3
            obtain ⟨e4, e5⟩ := G_inj e1
            rw [List.append_nil, List.append_nil] at e5
            obtain ⟨hcc, hw⟩ := hr c (List.mem_cons_self ..)
            have h7 := ih τ d (by rw [← e4]; exact waits_finish hcc hw v) (by rw [← e5]; exact fun y hy => hr y (List.mem_cons_of_mem _ hy))
            rw [← e4, ← e5] at h7
            exact h7.re hS (fun τ d => ((re_inj e2).2 τ d).symm)
          | error z =>
            exfalso
            obtain ⟨k', u', es', o', _, hb⟩ := back_on hm hc w τ d
            have h6 := hb c (rest ++ []) τ d (fun _ _ => rfl)
            rw [show c :: (rest ++ []) = c :: rest ++ [] from rfl, h5] at h6
            cases o' with
            | error z' => cases h6
            | ok v' =>
              have hp := h1' z rfl
              cases z <;> try exact hp.elim
              all_goals
                simp [stepG, unwind, G, hm, hd, hfn, hrun, hev, Result.of, GStep.after] at h5
        exact .ret hc hm hfn (fun τ d => Classical.choose (key τ d)) (fun τ d => (Classical.choose_spec (key τ d)).1) (fun τ d => (Classical.choose_spec (key τ d)).2)
end
end Go.Goes

-- Inv
/-
  The tree, step by step; a call that is skipped; what lies below a call.
-/
namespace Go.Goes
open Go.Conc
set_option linter.unusedVariables false
section
variable {P : Program} {F : FuncId → Prop} {Stop : Frame → World → Prop}
theorem ctl_op {fr : Frame} {o : Oper} (h : AtOp fr o) : ctl fr = none := by
  obtain ⟨ops, i, rest, k, ht, ho, hw⟩ := h
  unfold ctl; rw [ht]; simp [ho, hw]
theorem ctl_draw {fr : Frame} {id : Nat} {ops : Array Oper} {k : List Item} (h : AtDraw fr id ops k) : ctl fr = none := by
  unfold AtDraw at h
  unfold ctl; rw [h]
theorem op_one {fr : Frame} {o o' : Oper} (h : AtOp fr o) (h' : AtOp fr o') : o' = o := by
  obtain ⟨ops, i, rest, k, ht, ho, _⟩ := h
  obtain ⟨ops', i', rest', k', ht', ho', _⟩ := h'
  rw [ht] at ht'; cases ht'
  rw [ho] at ho'; exact (Option.some.inj ho').symm
theorem op_not_draw {fr : Frame} {o : Oper} {id : Nat} {ops : Array Oper} {k : List Item} (h : AtOp fr o) (h' : AtDraw fr id ops k) : False := by
  obtain ⟨_, _, _, _, ht, _, _⟩ := h
  unfold AtDraw at h'
  rw [ht] at h'; cases h'
theorem Tr.ctl_inv (hSr : ∀ fr w, Stop fr w → fr.mode = .returning) {fr fr' : Frame} {rest : List Frame} {w : World} (h : Tr P F Stop fr rest w) (hm : fr.mode = .run) (hc : Goes.ctl fr = some fr') : Tr P F Stop fr' rest w := by
  cases h with
  | stop h => have := hSr _ _ h; rw [hm] at this; cases this
  | ctl _ _ h t => rw [h] at hc; cases hc; exact t
  | draw _ _ h t => rw [ctl_draw h] at hc; cases hc
  | op _ _ h y hy t => rw [ctl_op h] at hc; cases hc
  | ret _ hm' _ _ _ _ => rw [hm] at hm'; cases hm'
theorem Tr.draw_inv (hSr : ∀ fr w, Stop fr w → fr.mode = .returning) {fr : Frame} {id : Nat} {ops : Array Oper} {k : List Item} {rest : List Frame} {w : World} (h : Tr P F Stop fr rest w) (hm : fr.mode = .run) (hd : AtDraw fr id ops k) (n : Nat) : Tr P F Stop { fr with todo := .inRegion ops (Region.schedule (P.follows .mixedOrders) ops n) :: k } rest w := by
  cases h with
  | stop h => have := hSr _ _ h; rw [hm] at this; cases this
  | ctl _ _ h t => rw [ctl_draw hd] at h; cases h
  | draw _ _ h t =>
    unfold AtDraw at h hd
    rw [h] at hd; cases hd; exact t n
  | op _ _ h y hy t => exact (op_not_draw h hd).elim
  | ret _ hm' _ _ _ _ => rw [hm] at hm'; cases hm'
/-- What stands at a call's return. -/
def Back (P : Program) (F : FuncId → Prop) (M : Frame → List Frame → World → Prop) (c : Frame) (r2 : List Frame) (fr : Frame) (w : World) : Prop :=
  CalmF P F fr ∧ fr.mode = .returning ∧ ∃ fn, P.funcs[fr.fn]? = some fn ∧ ∀ τ d v u k fs, (results fn fr.tmps).runT P (w.re τ d) #[] = (.ok v (World.re u τ (d + k)), fs) → M (c.finish v) r2 u
theorem Back.re {M : Frame → List Frame → World → Prop} {c : Frame} {r2 : List Frame} : ∀ fr u w, (∀ τ d, u.re τ d = w.re τ d) → Back P F M c r2 fr u → Back P F M c r2 fr w := by
  rintro fr u w e ⟨h1, h2, fn, h3, h4⟩
  exact ⟨h1, h2, fn, h3, fun τ d v u' k fs hr => h4 τ d v u' k fs (by rw [e]; exact hr)⟩
theorem Back.returning {M : Frame → List Frame → World → Prop} {c : Frame} {r2 : List Frame} : ∀ fr w, Back P F M c r2 fr w → fr.mode = .returning := fun _ _ h => h.2.1
/-- The tree above each caller. -/
def Above (P : Program) (F : FuncId → Prop) (M : Frame → List Frame → World → Prop) (fr : Frame) (stack : List Frame) (w : World) : Prop := ∀ r1 c r2, stack = r1 ++ c :: r2 → Tr P F (Back P F M c r2) fr r1 w
/-- **By induction over the tree, with the trees above each caller.** -/
theorem Tr.induct {M : Frame → List Frame → World → Prop} (hMre : ∀ fr rest u w, (∀ τ d, u.re τ d = w.re τ d) → M fr rest u → M fr rest w)
    (hstop : ∀ fr w, Stop fr w → M fr [] w)
    (hctl : ∀ fr fr' rest w, CalmF P F fr → fr.mode = .run → Goes.ctl fr = some fr' → M fr' rest w → M fr rest w)
    (hdraw : ∀ fr id ops k rest w, CalmF P F fr → fr.mode = .run → AtDraw fr id ops k → (∀ n, M { fr with todo := .inRegion ops (Region.schedule (P.follows .mixedOrders) ops n) :: k } rest w) → M fr rest w)
    (hop : ∀ fr o rest w, CalmF P F fr → fr.mode = .run → AtOp fr o → ∀ y : (Nat → Question → Nat) → Nat → OpTo, (∀ τ d, (execOp fr.eval o).runT P (w.re τ d) #[] = (.ok (y τ d).nx ((y τ d).w.re τ (d + (y τ d).k)), (y τ d).fs) ∧ okNext F (y τ d).nx) →
      (∀ τ d, M ((y τ d).top P fr) ((y τ d).rest fr rest) (y τ d).w ∧ Above P F M ((y τ d).top P fr) ((y τ d).rest fr rest) (y τ d).w) → M fr rest w)
    (hret : ∀ fr c fn rest w, CalmF P F fr → fr.mode = .returning → P.funcs[fr.fn]? = some fn → ∀ y : (Nat → Question → Nat) → Nat → RetTo, (∀ τ d, (results fn fr.tmps).runT P (w.re τ d) #[] = (.ok (y τ d).v ((y τ d).w.re τ (d + (y τ d).k)), (y τ d).fs)) → (∀ τ d, M (c.finish (y τ d).v) rest (y τ d).w) → M fr (c :: rest) w)
    {fr : Frame} {stack : List Frame} {w : World} (h : Tr P F Stop fr stack w) : M fr stack w ∧ Above P F M fr stack w := by
  induction h with
  | stop h => exact ⟨hstop _ _ h, fun r1 c r2 e => by cases r1 <;> cases e⟩
  | ctl hc hm h t ih => exact ⟨hctl _ _ _ _ hc hm h ih.1, fun r1 c r2 e => .ctl hc hm h (ih.2 r1 c r2 e)⟩
  | draw hc hm h t ih => exact ⟨hdraw _ _ _ _ _ _ hc hm h (fun n => (ih n).1), fun r1 c r2 e => .draw hc hm h (fun n => (ih n).2 r1 c r2 e)⟩
  | @op fr o rest w hc hm h y hy t ih =>
    refine ⟨hop _ _ _ _ hc hm h y hy ih, fun r1 c r2 e => ?_⟩
    subst e
    exact .op hc hm h y hy (fun τ d => (ih τ d).2 ((y τ d).rest fr r1) c r2 (by unfold OpTo.rest; split <;> rfl))
  | @ret fr c0 fn rest w hc hm hfn y hy t ih =>
    refine ⟨hret _ _ _ _ _ hc hm hfn y hy (fun τ d => (ih τ d).1), fun r1 c r2 e => ?_⟩
    cases r1 with
    | nil =>
      rw [List.nil_append] at e
      cases e
      refine .stop ⟨hc, hm, fn, hfn, fun τ d v u k fs hr => ?_⟩
      have h1 := hy τ d
      rw [hr] at h1
      obtain ⟨e1, e2⟩ := Prod.mk.inj h1
      injection e1 with e3 e4
      rw [e3]
      exact hMre _ _ _ _ (fun τ d => ((re_inj e4).2 τ d).symm) (ih τ d).1
    | cons c1 r1 =>
      rw [List.cons_append] at e
      cases e
      exact .ret hc hm hfn y hy (fun τ d => (ih τ d).2 r1 c r2 rfl)
end
end Go.Goes

-- Sim1
/-
  The law's tree over the twin, carried over to the program: all but the stroke itself.
-/
namespace Go.Goes
open Go.Conc
set_option linter.unusedVariables false

def OkCode (P : Program) (fs : List FuncId) : Code → Prop
  | .region _ ops _ => ∀ (i : Nat) o, ops[i]? = some o → simOpB P fs o = true
  | .seq a b | .cond _ a b => OkCode P fs a ∧ OkCode P fs b
  | .block _ c | .loop c | .scope c => OkCode P fs c
  | .rangeFunc .. => False
  | _ => True
def OkItem (P : Program) (fs : List FuncId) : Item → Prop
  | .code c | .inLoop c | .inScope c => OkCode P fs c
  | .inBlock _ => True
  | .inRegion ops _ => ∀ (i : Nat) o, ops[i]? = some o → simOpB P fs o = true
  | _ => False
def OkItems (P : Program) (fs : List FuncId) (l : List Item) : Prop := ∀ it ∈ l, OkItem P fs it
structure Tw (P : Program) (F' : Array Func) (fs : List FuncId) (S : FuncId) : Prop where
  alike : Alike P F' fs
  same : ∀ f ∈ fs, f ≠ S → F'[f]? = P.funcs[f]?
  norace : ∀ f : FuncId, (F'[f]?).any (·.norace) = (P.funcs[f]?).any (·.norace)
  code : ∀ f ∈ fs, f ≠ S → ∀ fn body, P.funcs[f]? = some fn → fn.body = some body → OkCode P fs body
/-- A frame of a function that both programs have. -/
structure ShF (P : Program) (fs : List FuncId) (S : FuncId) (fr : Frame) : Prop where
  items : OkItems P fs fr.todo
  known : fr.fn ∈ fs
  other : fr.fn ≠ S
  waits : True

section
variable {P : Program} {F' : Array Func} {fs : List FuncId} {S : FuncId}
theorem OkItems.tail {it : Item} {l : List Item} (h : OkItems P fs (it :: l)) : OkItems P fs l := fun x hx => h x (List.mem_cons_of_mem _ hx)
theorem OkItems.head {it : Item} {l : List Item} (h : OkItems P fs (it :: l)) : OkItem P fs it := h it (List.mem_cons_self ..)
theorem OkItems.cons {it : Item} {l : List Item} (h1 : OkItem P fs it) (h2 : OkItems P fs l) : OkItems P fs (it :: l) := fun x hx => by
  rcases List.mem_cons.1 hx with rfl | hx
  · exact h1
  · exact h2 x hx
theorem exitTo_ok {id : Nat} : ∀ {l l' : List Item}, OkItems P fs l → exitTo id l = some l' → OkItems P fs l'
  | [], _, _, e => by simp [exitTo] at e
  | it :: l, l', h, e => by
    cases it with
    | inBlock id' =>
      simp only [exitTo] at e
      split at e
      · cases e; exact h.tail
      · exact exitTo_ok h.tail e
    | _ => simp only [exitTo] at e; exact exitTo_ok h.tail e
theorem findLabel_ok : ∀ {c rest : Code} {l : Nat}, OkCode P fs c → findLabel c l = some rest → OkCode P fs rest
  | .seq a b, rest, l, h, e => by
    unfold findLabel at e
    cases ha : findLabel a l with
    | some r => rw [ha] at e; cases e; exact ⟨findLabel_ok h.1 ha, h.2⟩
    | none => rw [ha] at e; exact findLabel_ok h.2 e
  | .label l', rest, l, _, e => by
    unfold findLabel at e
    split at e
    · cases e; trivial
    · cases e
  | .skip, _, _, _, e | .region .., _, _, _, e | .cond .., _, _, _, e | .block .., _, _, _, e | .loop _, _, _, _, e | .rangeFunc .., _, _, _, e | .exit _, _, _, _, e | .scope _, _, _, _, e | .goto _, _, _, _, e | .ret, _, _, _, e | .refuse _, _, _, _, e => by simp [findLabel] at e
theorem gotoIn_ok {l : Nat} : ∀ {k k' : List Item}, OkItems P fs k → gotoIn l k = some k' → OkItems P fs k'
  | [], _, _, e => by simp [gotoIn] at e
  | it :: k, k', h, e => by
    cases it with
    | inScope body =>
      simp only [gotoIn] at e
      cases hb : findLabel body l with
      | some r => rw [hb] at e; cases e; exact .cons (findLabel_ok (c := body) h.head hb) (.cons h.head h.tail)
      | none => rw [hb] at e; exact gotoIn_ok h.tail e
    | _ => simp only [gotoIn] at e; exact gotoIn_ok h.tail e
theorem ctl_fn {fr fr' : Frame} (h : ctl fr = some fr') : fr'.fn = fr.fn := by
  unfold ctl at h
  repeat' (first | (cases h; done) | (cases h; rfl) | (obtain ⟨k', _, rfl⟩ := Option.map_eq_some_iff.1 h; rfl) | split at h)
  all_goals (try (cases h; unfold Frame.finish; split <;> rfl))
theorem ctl_items {fr fr' : Frame} (hi : OkItems P fs fr.todo) (h : ctl fr = some fr') : OkItems P fs fr'.todo := by
  unfold ctl at h
  cases ht : fr.todo with
  | nil => rw [ht] at h; cases h; intro it hit; cases hit
  | cons it k =>
    rw [ht] at h hi
    have hk := hi.tail
    cases it with
    | inBlock id => cases h; exact hk
    | inScope c => cases h; exact hk
    | inLoop c => cases h; exact .cons (it := .code c) hi.head (.cons (it := .inLoop c) hi.head hk)
    | inRangeFunc l => exact hi.head.elim
    | endRangeFunc l => exact hi.head.elim
    | beginRound => exact hi.head.elim
    | call d b r s => exact hi.head.elim
    | extern r a => exact hi.head.elim
    | inRegion ops l =>
      cases l with
      | nil => cases h; exact hk
      | cons i rest =>
        dsimp only at h
        split at h
        · cases h
        · cases h
          unfold Frame.finish
          rw [ht]
          exact .cons (it := .inRegion ops rest) hi.head hk
    | code c =>
      cases c with
      | skip => cases h; exact hk
      | label l => cases h; exact hk
      | seq a b => cases h; exact .cons (it := .code a) hi.head.1 (.cons (it := .code b) hi.head.2 hk)
      | block id c => cases h; exact .cons (it := .code c) hi.head (.cons (it := .inBlock id) trivial hk)
      | loop c => cases h; exact .cons (it := .code c) hi.head (.cons (it := .inLoop c) hi.head hk)
      | scope c => cases h; exact .cons (it := .code c) hi.head (.cons (it := .inScope c) hi.head hk)
      | ret => cases h; exact hi
      | rangeFunc f ps a b => exact hi.head.elim
      | refuse why => cases h
      | exit id => obtain ⟨k', h1, rfl⟩ := Option.map_eq_some_iff.1 h; exact exitTo_ok hk h1
      | goto l => obtain ⟨k', h1, rfl⟩ := Option.map_eq_some_iff.1 h; exact gotoIn_ok hk h1
      | cond c a b =>
        dsimp only at h
        split at h
        · rename_i t _; cases h; exact .cons (it := .code (if t then a else b)) (by cases t; exact hi.head.2; exact hi.head.1) hk
        · cases h
      | region id ops draw =>
        cases draw with
        | false => cases h; exact .cons (it := .inRegion ops (List.range ops.size)) hi.head hk
        | true => cases h
theorem ShF.ctl {fr fr' : Frame} (h : ShF P fs S fr) (hc : Goes.ctl fr = some fr') : ShF P fs S fr' := ⟨ctl_items h.items hc, by rw [ctl_fn hc]; exact h.known, by rw [ctl_fn hc]; exact h.other, trivial⟩
theorem ShF.draw {fr : Frame} {id : Nat} {ops : Array Oper} {k : List Item} (h : ShF P fs S fr) (hd : AtDraw fr id ops k) (l : List Nat) : ShF P fs S { fr with todo := .inRegion ops l :: k } := by
  unfold AtDraw at hd
  have hi := h.items
  rw [hd] at hi
  exact ⟨.cons (it := .inRegion ops l) hi.head hi.tail, h.known, h.other, trivial⟩
theorem ShF.op {fr : Frame} {o : Oper} (h : ShF P fs S fr) (ho : AtOp fr o) : simOpB P fs o = true := by
  obtain ⟨ops, i, rest, k, ht, hoi, _⟩ := ho
  have hi := h.items
  rw [ht] at hi
  exact hi.head i o hoi
theorem ShF.finish {fr : Frame} (h : ShF P fs S fr) (hw : Waits fr) (v : Value) : ShF P fs S (fr.finish v) := by
  obtain ⟨ops, i, rest, k, ht⟩ := hw
  have hi := h.items
  rw [ht] at hi
  unfold Frame.finish
  rw [ht]
  exact ⟨.cons (it := .inRegion ops rest) hi.head hi.tail, h.known, h.other, trivial⟩
theorem enter_same (hT : Tw P F' fs S) {f : FuncId} (hf : f ∈ fs) (hS : f ≠ S) (args : Array Value) : Frame.enter (tw P F') f args .normal = Frame.enter P f args .normal := by
  unfold Frame.enter
  rw [show (tw P F').funcs[f]? = F'[f]? from rfl, hT.same f hf hS]
theorem enter_ok (hT : Tw P F' fs S) {f : FuncId} (hf : f ∈ fs) (hS : f ≠ S) (hs : (P.funcs[f]?).isSome = true) (args : Array Value) : ShF P fs S (Frame.enter P f args .normal) := by
  refine ⟨?_, hf, hS, trivial⟩
  obtain ⟨fn, hfn⟩ := Option.isSome_iff_exists.1 hs
  intro it hit
  simp only [Frame.enter, hfn, Option.bind_some] at hit
  cases hb : fn.body with
  | none => rw [hb] at hit; simp at hit; subst hit; trivial
  | some body =>
    rw [hb] at hit
    simp at hit
    subst hit
    exact hT.code f hf hS fn body hfn hb
theorem sim_results {fz : Bool} (fn : Func) (tmps : Array Value) : SimU P F' fz (results fn tmps) := by
  unfold results
  refine SimT.bind (sim_arrayMapM _ (fun x => ?_) _) (fun _ => sim_pure _)
  cases x with
  | tmp t => exact sim_pure _
  | cell a t => exact SimT.bind (sim_asAddr _) (fun _ => sim_loadVar _ _)
theorem Vr.re {fz : Bool} {x x' u : World} (h : Vr fz x u) (e : ∀ τ d, x.re τ d = x'.re τ d) : Vr fz x' u := by
  have h0 := e (fun _ _ => 0) 0
  have h1 : x'.heap = x.heap := (congrArg World.heap h0).symm
  have h2 : x'.os = x.os := (congrArg World.os h0).symm
  have h3 : x'.output = x.output := (congrArg World.output h0).symm
  exact ⟨by rw [h2]; exact h.os, by rw [h3]; exact h.output, by rw [h1]; exact h.size, by rw [h1]; exact h.block⟩
theorem sealed0 (x : World) : Sealed 0 x := ⟨Nat.zero_le _, fun k hk => absurd hk (by omega)⟩
theorem tame_of {fz : Bool} {B : Nat} {fs : Array Event} (h : ∀ e ∈ fs, e ∈ (#[] : Array Event) ∨ EvS fz B e) : ∀ e ∈ fs, Tame e := fun e he => ((h e he).resolve_left (by simp)).1
end
end Go.Goes

-- Objs
/-
  What is no row of cells stays as it is.
-/
namespace Go.Goes
open Go.Conc
set_option linter.unusedVariables false
section
variable {P : Program} {F' : Array Func}
theorem SimT.objs {fz : Bool} {α : Type} {Q : α → Prop} {m : Sem α} (hm : SimT P F' fz Q m) (hfz : fz = false) : ∀ (u : World) (es : Array Event) (a : α) (u1 : World) (fs : Array Event), m.runT P u es = (.ok a u1, fs) → ∀ (k : Nat) (o : Obj), u.heap[k]? = some o → (∀ c e f, o ≠ .cells c e f) → u1.heap[k]? = some o := by
  induction hm with
  | pure a h => intro u es a u1 fs hr k o ho _; cases hr; exact ho
  | halt h hh => intro u es a u1 fs hr; cases hr
  | dead s hd hc => intro u es a u1 fs hr; exact absurd hr (dead_run_ok hd _ _ _ _ _ _)
  | load md p k _ ih =>
    intro u es a u1 fs hr
    unfold Sem.runT at hr
    split at hr
    · exact ih _ _ _ _ _ _ hr
    · split at hr
      · exact ih _ _ _ _ _ _ hr
      · cases hr
  | store md p v k _ ih =>
    intro u es a u1 fs hr j o ho hne
    by_cases hv : ∃ xs, v = .agg xs ∨ v = .tuple xs
    · obtain ⟨xs, rfl | rfl⟩ := hv <;> cases hr
    · rw [store_eq hv] at hr
      cases hc : u.cell? p with
      | some q =>
        rw [hc] at hr
        dsimp only at hr
        split at hr
        · cases hr
        · refine ih _ _ _ _ _ hr j o ?_ hne
          unfold World.setCell
          rw [Array.getElem?_modify]
          split
          · rw [ho]
            cases o <;> first | rfl | exact absurd rfl (hne _ _ _)
          · exact ho
      | none =>
        rw [hc] at hr
        dsimp only at hr
        cases hf : u.farStore P p v (md == .atomic) with
        | error h => rw [hf] at hr; cases hr
        | ok y =>
          obtain ⟨u2, touched⟩ := y
          rw [hf] at hr
          unfold World.farStore at hf
          cases hb : u.heap[p.block]? with
          | none => rw [hb] at hf; cases hf
          | some b =>
            rw [hb] at hf
            cases b <;> try (cases hf; done)
            case view at_ t =>
              dsimp only at hf
              cases hvs : u.viewStore P at_ t p v (md == .atomic) with
              | error z => rw [hvs] at hf; cases hf
              | ok y =>
                rw [hvs] at hf
                cases hf
                obtain ⟨c, c', e, f, f', hx, hu, hsz, ex, hff, hst, hl1, hl2, hl3⟩ := viewStore_rel (P := P) (F' := P.funcs) (B := 0) (Vr.refl fz u) (sealed0 u) hvs
                refine ih _ _ _ _ _ hr j o ?_ hne
                rw [ex]
                by_cases hj : at_.block = j
                · subst hj; rw [hx] at ho; cases ho; exact absurd rfl (hne _ _ _)
                · simp [hj, ho]
  | new o k _ ih =>
    intro u es a u1 fs hr j o' ho hne
    refine ih _ _ _ _ _ _ hr j o' ?_ hne
    have hj : j < u.heap.size := (Array.getElem?_eq_some_iff.1 ho).1
    show (u.heap.push o)[j]? = some o'
    rw [Array.getElem?_push_lt hj, ← ho, Array.getElem?_eq_getElem hj]
  | shape r k _ ih => intro u es a u1 fs hr; exact ih _ _ _ _ _ _ hr
  | freeze a n k hf _ ih => rw [hfz] at hf; cases hf
  | frozen a k hf _ ih => rw [hfz] at hf; cases hf
  | getObj r k hc _ ih =>
    intro u es a u1 fs hr
    unfold Sem.runT at hr
    split at hr
    · cases hr
    · exact ih _ _ _ _ _ _ hr
    · cases hr
  | setObj r o k hf hv _ ih => rw [hfz] at hf; cases hf
  | choose q k _ ih =>
    intro u es a u1 fs hr
    unfold Sem.runT at hr
    split at hr
    · exact ih _ _ _ _ _ _ hr
    · have := ih _ _ _ _ _ _ hr; exact this
  | program k hk _ ih => intro u es a u1 fs hr; exact ih _ _ _ _ _ hr
  | mark m k hm _ ih => intro u es a u1 fs hr; exact ih _ _ _ _ _ hr
end
end Go.Goes

-- Sim2
/-
  The law's tree over the twin, carried over to the program.
-/
namespace Go.Goes
open Go.Conc
set_option linter.unusedVariables false
section
variable {P : Program} {F' : Array Func} {fs : List FuncId} {S : FuncId} {FT : FuncId → Prop} {Post : Value → World → Prop} {Stop : Frame → World → Prop}
/-- What is no row of cells is as it was. -/
def Lw (W u : World) : Prop := ∀ (k : Nat) (o : Obj), W.heap[k]? = some o → (∀ c e f, o ≠ .cells c e f) → u.heap[k]? = some o
variable {W : World}
variable (P F' fs S Post W) in
/-- What is shown of a node: from the frames that both programs share, in a world that is alike, the run ends well. -/
def MS (fr : Frame) (rest : List Frame) (x : World) : Prop := ShF P fs S fr → (∀ c ∈ rest, ShF P fs S c ∧ Waits c) → ∀ u, Vr true x u → Lw W u → Ends P Post (G fr rest) u

/-- One operation of a shared frame. -/
theorem op_follow {Pb : Program} {fz : Bool} {B : Nat} (hB : fz = true → B = 0) {fsb : List FuncId} (hA : Alike Pb F' fsb) {o : Oper} (ho : simOpB Pb fsb o = true) {fr : Frame} {x u : World} (hV : Vr fz x u) (hS : Sealed B x) {τ : Nat → Question → Nat} {d : Nat} {y : OpTo}
    (hy : (execOp fr.eval o).runT (tw Pb F') (x.re τ d) #[] = (.ok y.nx (y.w.re τ (d + y.k)), y.fs)) :
    ∃ u', Vr fz y.w u' ∧ Sealed B y.w ∧ (∀ k, k < B → u'.heap[k]? = u.heap[k]?) ∧ okNext (· ∈ fsb) y.nx ∧ (∀ e ∈ y.fs, EvS fz B e) ∧ u.heap.size ≤ u'.heap.size ∧
      ∀ τ' d', (∀ i, i < y.k → τ' (d' + i) = τ (d + i)) → (execOp fr.eval o).runT Pb (u.re τ' d') #[] = (.ok y.nx (u'.re τ' (d' + y.k)), y.fs) := by
  obtain ⟨n, x', u', h⟩ := (simOp_of (fz := fz) hA ho fr.eval (fun _ => rfl)).run hB τ x u d #[] hV hS _ _ _ hy
  obtain ⟨e1, e2⟩ := re_inj h.eq
  have e3 : n = y.k := by omega
  subst e3
  have hx : ∀ τ d, x'.re τ d = y.w.re τ d := fun τ d => (e2 τ d).symm
  have hh : y.w.heap = x'.heap := by have h0 := e2 (fun _ _ => 0) 0; exact (show (y.w.re (fun _ _ => 0) 0).heap = (x'.re (fun _ _ => 0) 0).heap by rw [h0])
  refine ⟨u', h.vr.re hx, ?_, h.low, h.q, fun e he => (h.evs e he).resolve_left (by simp), ?_, h.run⟩
  · unfold Sealed; rw [hh]; exact h.sealed_
  · rw [hV.size, h.vr.size]; exact h.more

theorem andThen_ok {α β : Type} {r : Result α} {f : α → World → Result β} {b : β} {w' : World} (h : r.andThen f = .ok b w') : ∃ a w1, r = .ok a w1 ∧ f a w1 = .ok b w' := by
  cases r <;> simp [Result.andThen] at h
  exact ⟨_, _, rfl, h⟩
theorem bind_ok0 {P : Program} {α β : Type} {m : Sem α} {f : α → Sem β} {w w' : World} {b : β} (h : (m >>= f).run P w = .ok b w') : ∃ a w1, m.run P w = .ok a w1 ∧ (f a).run P w1 = .ok b w' := by
  rw [Sem.run_bind] at h
  exact andThen_ok h
theorem value_not {P : Program} {m : Sem Value} {w w' : World} {f : FuncId} {args : Array Value} (h : (do Pure.pure (Next.value (← m)) : Sem Next).run P w = .ok (.enter f args) w') : False := by
  obtain ⟨v, w1, _, h2⟩ := bind_ok0 h
  cases h2
theorem unit_not {P : Program} {m : Sem Unit} {w w' : World} {f : FuncId} {args : Array Value} (h : (do m; Pure.pure Next.skip : Sem Next).run P w = .ok (.enter f args) w') : False := by
  obtain ⟨v, w1, _, h2⟩ := bind_ok0 h
  cases h2
theorem nil_not {P : Program} {w w' : World} {nx : Next} (h : (runtimePanic .nilDeref : Sem Next).run P w = .ok nx w') : False := by cases h
/-- A call's arguments are as many as the function's parameters. -/
theorem enter_args {P : Program} {fs : List FuncId} {o : Oper} (hs : simOpB P fs o = true) (ρ : Operand → Value) (hρ : ∀ f, ρ (.func f) = .func (.func f) #[] #[]) {f : FuncId} {args : Array Value} {w w' : World} (h : (execOp ρ o).run P w = .ok (.enter f args) w') : ∀ fn, P.funcs[f]? = some fn → args.size = fn.params.size := by
  unfold simOpB at hs
  unfold execOp at h
  obtain ⟨dst, op, type, pos, after, guard⟩ := o
  dsimp only at hs h
  cases op <;> dsimp only at hs h <;> first
    | (cases hs; done)
    | exact (value_not h).elim
    | exact (unit_not h).elim
    | (cases h; done)
    | skip
  case pick c a b =>
    obtain ⟨v, w1, _, h2⟩ := bind_ok0 h
    cases h2
  case nilCheck x =>
    exfalso
    split at h
    · exact nil_not h
    · exact nil_not h
    · exact nil_not h
    · split at h
      · exact nil_not h
      · obtain ⟨p, w1, _, h2⟩ := bind_ok0 h
        obtain ⟨p, w1, _, h2⟩ := bind_ok0 h2
        split at h2
        · obtain ⟨p, w1, _, h2⟩ := bind_ok0 h2
          cases h2
        · cases h2
      · cases h
    · cases h
  case call c =>
    obtain ⟨callee, as, argTypes⟩ := c
    cases callee with
    | builtin b =>
      cases b <;> dsimp only at hs <;> try (cases hs; done)
      case append => exact (value_not h).elim
      case len => exact (value_not h).elim
    | invoke r n => cases hs
    | value x =>
      cases x <;> dsimp only at hs <;> try (cases hs; done)
      case func g =>
        rw [Bool.and_eq_true] at hs
        obtain ⟨h1, h2⟩ := hs
        intro fn hf
        have e : resolve ρ { callee := .value (.func g), args := as, argTypes := argTypes } type = Pure.pure { target := .fn (.func g) #[], args := #[] ++ as.map ρ } := by
          unfold resolve; simp only [hρ]; rfl
        rw [e] at h
        have h3 : (callFunc g ((#[] ++ as.map ρ) ++ #[])).run P w = .ok (.enter f args) w' := h
        cases hg : P.funcs[g]? with
        | none => rw [hg] at h2; cases h2
        | some fn' =>
          rw [hg] at h2
          simp only [Option.any_some, Bool.and_eq_true, bne, Bool.not_eq_true', beq_iff_eq] at h2
          have h4 : (callFunc g ((#[] ++ as.map ρ) ++ #[])).run P w = .ok (.enter g ((#[] ++ as.map ρ) ++ #[])) w := by
            have e0 : fn'.body.isNone = false := by cases e : fn'.body <;> simp_all
            show ((match P.funcs[g]? with | none => stuck "call: no such function" | some fn => _ : Sem Next)).run P w = _
            rw [hg]
            simp only [h2.1.2, e0]
            rfl
          rw [h4] at h3
          injection h3 with h3 _
          injection h3 with h5 h6
          subst h5
          have e7 : fn' = fn := Option.some.inj (hg.symm.trans hf)
          subst e7
          rw [← h6, ← h2.2]
          simp
theorem law_ends (hT : Tw P F' fs S) (hsome : ∀ f ∈ fs, (P.funcs[f]?).isSome = true)
    (hstop : ∀ fr x, Stop fr x → MS P fs S Post W fr [] x)
    (hstroke : ∀ args c r2 x, (∀ fn, P.funcs[S]? = some fn → args.size = fn.params.size) → Tr (tw P F') FT (Back (tw P F') FT (MS P fs S Post W) c r2) (Frame.enter (tw P F') S args .normal) [] x → ShF P fs S c → Waits c → (∀ c' ∈ r2, ShF P fs S c' ∧ Waits c') → ∀ u, Vr true x u → Lw W u → Ends P Post (G (Frame.enter P S args .normal) (c :: r2)) u)
    {fr : Frame} {rest : List Frame} {x : World} (h : Tr (tw P F') FT Stop fr rest x) : MS P fs S Post W fr rest x := by
  refine (Tr.induct (M := MS P fs S Post W) ?_ hstop ?_ ?_ ?_ ?_ h).1
  · intro fr rest u w e hM h1 h2 v hV hL
    exact hM h1 h2 v (hV.re (fun τ d => (e τ d).symm)) hL
  · intro fr fr' rest w hc hm hctl hM h1 h2 u hV hL
    exact ends_step rfl fun τ d => ⟨G fr' rest, u, 0, #[], ctl_step hm hc.round hctl true rest _, by simp, hM (h1.ctl hctl) h2 u hV hL⟩
  · intro fr id ops k rest w hc hm hd hM h1 h2 u hV hL
    exact ends_step rfl fun τ d => ⟨_, u, 1, #[], draw_step hm hd true rest u τ d, by simp, hM _ (h1.draw hd _) h2 u hV hL⟩
  · intro fr o rest w hc hm ho y hy hM h1 h2 u hV hL
    refine ends_step rfl fun τ d => ?_
    obtain ⟨u', hV', _, _, hok, hev, _, hrun⟩ := op_follow (Pb := P) (fz := true) (B := 0) (fun _ => rfl) hT.alike (h1.op ho) hV (sealed0 _) (hy τ d).1
    have hrr := hrun τ d (fun _ _ => rfl)
    have hL' : Lw W u' := fun k o' hk hn => (simOp_of (P := P) (F' := F') (fz := false) hT.alike (h1.op ho) fr.eval (fun _ => rfl)).objs rfl _ _ _ _ _ hrr k o' (hL k o' hk hn) hn
    rw [op_step hm hc.round ho]
    obtain ⟨hMc, hAb⟩ := hM τ d
    unfold OpTo.top OpTo.rest at hMc hAb
    cases hnx : (y τ d).nx <;> rw [hnx] at hok hMc hAb hrr <;> try exact hok.elim
    case value v => exact ⟨_, u', (y τ d).k, _, apply_ok (P := P) (kind_normal hc) (waits_nocall (op_waits ho)) hrr, seen_tame _ (fun e he => (hev e he).1), hMc (h1.finish (op_waits ho) v) h2 u' hV' hL'⟩
    case skip => exact ⟨_, u', (y τ d).k, _, apply_ok (P := P) (kind_normal hc) (waits_nocall (op_waits ho)) hrr, seen_tame _ (fun e he => (hev e he).1), hMc (h1.finish (op_waits ho) undef) h2 u' hV' hL'⟩
    case enter f args =>
      refine ⟨_, u', (y τ d).k, _, apply_ok (P := P) (kind_normal hc) (waits_nocall (op_waits ho)) hrr, seen_tame _ (fun e he => (hev e he).1), ?_⟩
      by_cases hfS : f = S
      · subst hfS
        exact hstroke args fr rest _ (enter_args (h1.op ho) fr.eval (fun _ => rfl) (by rw [Sem.runT_eq] at hrr; exact (Prod.mk.inj hrr).1)) (hAb [] fr rest rfl) h1 (op_waits ho) h2 u' hV' hL'
      · dsimp only at hMc
        rw [enter_same hT hok hfS] at hMc
        refine hMc (enter_ok hT hok hfS (hsome f hok) args) ?_ u' hV' hL'
        intro c hcm
        rcases List.mem_cons.1 hcm with rfl | hcm
        · exact ⟨h1, op_waits ho⟩
        · exact h2 c hcm
  · intro fr c fn rest w hc hm hfn y hy hM h1 h2 u hV hL
    refine ends_step rfl fun τ d => ?_
    have hfn' : P.funcs[fr.fn]? = some fn := by rw [← hT.same _ h1.known h1.other]; exact hfn
    obtain ⟨n, x', u', hR⟩ := (sim_results (P := P) (F' := F') (fz := true) fn fr.tmps).run (B := 0) (fun _ => rfl) τ w u d #[] hV (sealed0 _) _ _ _ (hy τ d)
    obtain ⟨e1, e2⟩ := re_inj hR.eq
    have hrr := hR.run τ d (fun _ _ => rfl)
    have hL' : Lw W u' := fun k o' hk hn => (sim_results (P := P) (F' := F') (fz := false) fn fr.tmps).objs rfl _ _ _ _ _ hrr k o' (hL k o' hk hn) hn
    have hrun : (results fn fr.tmps).run P (u.re τ d) = .ok (y τ d).v (u'.re τ (d + n)) := by rw [Sem.runT_eq] at hrr; exact (Prod.mk.inj hrr).1
    have hev : (results fn fr.tmps).events P (u.re τ d) #[] = (y τ d).fs := by rw [Sem.runT_eq] at hrr; exact (Prod.mk.inj hrr).2
    have hd := hc.defers
    have hkk := hc.kind
    refine ⟨G (c.finish (y τ d).v) rest, u', n, seen P fr.fn (y τ d).fs, ?_, seen_tame _ (tame_of hR.evs), ?_⟩
    · simp [stepG, unwind, doReturn, G, hm, hd, hkk, hfn', hrun, hev, GStep.after]
    · have hc1 := h2 c (List.mem_cons_self ..)
      exact hM τ d (hc1.1.finish hc1.2 _) (fun c' hc' => h2 c' (List.mem_cons_of_mem _ hc')) u' (hR.vr.re (fun τ d => (e2 τ d).symm)) hL'
end
end Go.Goes

-- Skip
/-
  A call in the tree that is skipped by its lone contract.
-/
namespace Go.Goes
open Go.Conc
set_option linter.unusedVariables false
section
variable {P : Program} {F : FuncId → Prop} {Stop : Frame → World → Prop}
theorem lone_next {fr fr' : Frame} {cs cs' : List Frame} {w w' : World} {m : Machine} {n : Nat} (h : step P (lone fr cs w) = .next (lone fr' cs' w')) (hr : runN P (n + 1) (lone fr cs w) = .next m) : runN P n (lone fr' cs' w') = .next m := by
  simp only [runN, h] at hr; exact hr
/-- Along a run of one goroutine down to the caller. -/
theorem Tr.along (hS : ∀ fr u w, (∀ τ d, u.re τ d = w.re τ d) → Stop fr u → Stop fr w) {fr : Frame} {stack : List Frame} {w : World} (h : Tr P F Stop fr stack w) : ∀ (r1 : List Frame) (c : Frame) (r2 : List Frame), stack = r1 ++ c :: r2 → ∀ (N : Nat) (τ : Nat → Question → Nat) (d : Nat) (fr' : Frame) (w' : World) (v : Value),
    runN P N (lone fr (r1 ++ [dead]) (w.re τ d)) = .next (lone fr' [dead] w') → fr'.leaving P w' (.returned v) → ∃ u d', w' = World.re u τ d' ∧ Tr P F Stop (c.finish v) r2 u := by
  induction h with
  | stop h => intro r1 c r2 e; cases r1 <;> cases e
  | @ctl fr fr1 rest w hc hm h t ih =>
    intro r1 c r2 e N τ d fr' w' v hr hl
    cases N with
    | zero =>
      simp only [runN] at hr
      injection hr with hr
      obtain ⟨e1, _, _⟩ := lone_inj hr
      rw [← e1] at hl
      have := hl.1
      rw [hm] at this; cases this
    | succ N => exact ih r1 c r2 e N τ d fr' w' v (lone_next (step_go (ctl_step hm hc.round h true _ _)) hr) hl
  | @draw fr id ops k rest w hc hm h t ih =>
    intro r1 c r2 e N τ d fr' w' v hr hl
    cases N with
    | zero =>
      simp only [runN] at hr
      injection hr with hr
      obtain ⟨e1, _, _⟩ := lone_inj hr
      rw [← e1] at hl
      have := hl.1
      rw [hm] at this; cases this
    | succ N => exact ih _ r1 c r2 e N τ (d + 1) fr' w' v (lone_next (step_go (draw_step hm h true _ w τ d)) hr) hl
  | @op fr o rest w hc hm h y hy t ih =>
    intro r1 c r2 e N τ d fr' w' v hr hl
    subst e
    cases N with
    | zero =>
      simp only [runN] at hr
      injection hr with hr
      obtain ⟨e1, _, _⟩ := lone_inj hr
      rw [← e1] at hl
      have := hl.1
      rw [hm] at this; cases this
    | succ N =>
      obtain ⟨h1, h2⟩ := hy τ d
      have h3 := op_step (P := P) hm hc.round h true (r1 ++ [dead]) (w.re τ d)
      have ih' := ih τ d ((y τ d).rest fr r1) c r2 (by unfold OpTo.rest; split <;> rfl) N τ (d + (y τ d).k) fr' w' v
      unfold OpTo.top OpTo.rest at ih'
      cases hnx : (y τ d).nx <;> rw [hnx] at h1 h2 ih' <;> try exact h2.elim
      case value v' =>
        rw [apply_ok (kind_normal hc) (waits_nocall (op_waits h)) h1] at h3
        exact ih' (lone_next (step_go h3) hr) hl
      case skip =>
        rw [apply_ok (kind_normal hc) (waits_nocall (op_waits h)) h1] at h3
        exact ih' (lone_next (step_go h3) hr) hl
      case enter f args =>
        rw [apply_ok (kind_normal hc) (waits_nocall (op_waits h)) h1] at h3
        exact ih' (lone_next (step_go h3) hr) hl
  | @ret fr c0 fn rest w hc hm hfn y hy t ih =>
    intro r1 c r2 e N τ d fr' w' v hr hl
    have hrr := hy τ d
    have hrun : (results fn fr.tmps).run P (w.re τ d) = .ok (y τ d).v ((y τ d).w.re τ (d + (y τ d).k)) := by rw [Sem.runT_eq] at hrr; exact (Prod.mk.inj hrr).1
    have hev : (results fn fr.tmps).events P (w.re τ d) #[] = (y τ d).fs := by rw [Sem.runT_eq] at hrr; exact (Prod.mk.inj hrr).2
    have hd := hc.defers
    have hkk := hc.kind
    cases r1 with
    | nil =>
      rw [List.nil_append] at e
      cases e
      cases N with
      | zero =>
        simp only [runN] at hr
        injection hr with hr
        obtain ⟨e1, _, e3⟩ := lone_inj hr
        rw [← e1, ← e3] at hl
        obtain ⟨_, _, _, fn', hfn', hres⟩ := hl
        rw [hfn] at hfn'; cases hfn'
        rw [hrun] at hres
        injection hres with a1 a2
        refine ⟨w, d, e3.symm, ?_⟩
        rw [← a1]
        exact (t τ d).re hS (fun τ d => (re_inj a2).2 τ d)
      | succ N =>
        exfalso
        have h6 : stepG P true (G fr [dead]) (w.re τ d) = .go (G (dead.finish (y τ d).v) []) ((y τ d).w.re τ (d + (y τ d).k)) (seen P fr.fn (y τ d).fs) := by
          simp [stepG, unwind, doReturn, G, hm, hd, hkk, hfn, hrun, hev, GStep.after]
        have h7 := lone_next (step_go h6) hr
        rw [dead_finish] at h7
        cases N with
        | zero =>
          simp only [runN] at h7
          injection h7 with h7
          exact absurd (lone_inj h7).2.1 (by simp)
        | succ N =>
          obtain ⟨o, w3, he⟩ := dead_run (P := P) ((y τ d).w.re τ (d + (y τ d).k))
          rw [runN_ended he] at h7; cases h7
    | cons c1 r1 =>
      rw [List.cons_append] at e
      cases e
      cases N with
      | zero =>
        simp only [runN] at hr
        injection hr with hr
        exact absurd (congrArg List.length (lone_inj hr).2.1) (by simp)
      | succ N =>
        have h6 : stepG P true (G fr (c0 :: r1 ++ [dead])) (w.re τ d) = .go (G (c0.finish (y τ d).v) (r1 ++ [dead])) ((y τ d).w.re τ (d + (y τ d).k)) (seen P fr.fn (y τ d).fs) := by
          simp [stepG, unwind, doReturn, G, hm, hd, hkk, hfn, hrun, hev, GStep.after]
        exact ih τ d r1 c r2 rfl N τ (d + (y τ d).k) fr' w' v (lone_next (step_go h6) hr) hl
/-- **A call by its lone contract.** -/
theorem Tr.skip (hS : ∀ fr u w, (∀ τ d, u.re τ d = w.re τ d) → Stop fr u → Stop fr w) {f : FuncId} {args : Array Value} {c : Frame} {r2 : List Frame} {w : World} (h : Tr P F Stop (Frame.enter P f args .normal) (c :: r2) w) {v : Value} (hC : Calls P f args (w.re (fun _ _ => 0) 0) (fun e w' => e = .returned v ∧ w' = w.re (fun _ _ => 0) 0)) : Tr P F Stop (c.finish v) r2 w := by
  obtain ⟨e, w', fr', ⟨rfl, rfl⟩, ⟨N, hN⟩, _, hl⟩ := hC [dead]
  obtain ⟨u, d', e1, ht⟩ := h.along hS [] c r2 rfl N (fun _ _ => 0) 0 fr' _ v hN hl
  exact ht.re hS (fun τ d => ((re_inj e1).2 τ d).symm)
end
end Go.Goes

-- Map
/-
  Code whose operations are replaced one for one.
-/
namespace Go.Goes
open Go.Conc
set_option linter.unusedVariables false

def mapC (φ : Oper → Oper) : Code → Code
  | .region id ops d => .region id (ops.map φ) d
  | .seq a b => .seq (mapC φ a) (mapC φ b)
  | .cond c a b => .cond c (mapC φ a) (mapC φ b)
  | .block id c => .block id (mapC φ c)
  | .loop c => .loop (mapC φ c)
  | .scope c => .scope (mapC φ c)
  | c => c
def mapI (φ : Oper → Oper) : Item → Item
  | .code c => .code (mapC φ c)
  | .inLoop c => .inLoop (mapC φ c)
  | .inScope c => .inScope (mapC φ c)
  | .inRegion ops l => .inRegion (ops.map φ) l
  | it => it
/-- The operand is none of the slots that differ. -/
def opOut (Z : Nat → Prop) : Operand → Prop
  | .tmp t => ¬ Z t
  | _ => True
/-- The operations of a region that may be replaced. -/
structure FitOps (φ : Oper → Oper) (Z : Nat → Prop) (ops : Array Oper) : Prop where
  after : ∀ (i : Nat) o, ops[i]? = some o → (φ o).after = o.after
  dst : ∀ (i : Nat) o, ops[i]? = some o → (φ o).dst = o.dst ∨ ((∀ t, o.dst = some t → Z t) ∧ ∀ t, (φ o).dst = some t → Z t)
  guard : ∀ (i : Nat) o, ops[i]? = some o → (φ o).guard = o.guard
  asked : ∀ (i : Nat) o j b, ops[i]? = some o → o.guard = some (j, b) → ∀ p, ops[j]? = some p → (φ p).dst = p.dst ∧ ∀ t, p.dst = some t → ¬ Z t
def FitC (φ : Oper → Oper) (Z : Nat → Prop) : Code → Prop
  | .region _ ops _ => FitOps φ Z ops
  | .seq a b => FitC φ Z a ∧ FitC φ Z b
  | .cond c a b => opOut Z c ∧ FitC φ Z a ∧ FitC φ Z b
  | .block _ c | .loop c => FitC φ Z c
  | .scope _ | .goto _ | .label _ | .rangeFunc .. => False
  | _ => True
def FitI (φ : Oper → Oper) (Z : Nat → Prop) : Item → Prop
  | .code c | .inLoop c => FitC φ Z c
  | .inBlock _ => True
  | .inRegion ops _ => FitOps φ Z ops
  | _ => False
def FitItems (φ : Oper → Oper) (Z : Nat → Prop) (l : List Item) : Prop := ∀ it ∈ l, FitI φ Z it
structure Mp (φ : Oper → Oper) (Z : Nat → Prop) (fr fr' : Frame) : Prop where
  todo : fr'.todo = fr.todo.map (mapI φ)
  fits : FitItems φ Z fr.todo
  tmps : ∀ i : Nat, ¬ Z i → fr'.tmps[i]? = fr.tmps[i]?
  mode : fr'.mode = fr.mode
  defers : fr'.defers = fr.defers
  round : fr'.roundOf = fr.roundOf

section
variable {φ : Oper → Oper} {Z : Nat → Prop} {fr fr' : Frame}
theorem FitItems.tail {it : Item} {l : List Item} (h : FitItems φ Z (it :: l)) : FitItems φ Z l := fun x hx => h x (List.mem_cons_of_mem _ hx)
theorem FitItems.head {it : Item} {l : List Item} (h : FitItems φ Z (it :: l)) : FitI φ Z it := h it (List.mem_cons_self ..)
theorem FitItems.cons {it : Item} {l : List Item} (h1 : FitI φ Z it) (h2 : FitItems φ Z l) : FitItems φ Z (it :: l) := fun x hx => by
  rcases List.mem_cons.1 hx with rfl | hx
  · exact h1
  · exact h2 x hx
theorem Mp.eval (h : Mp φ Z fr fr') {x : Operand} (hx : opOut Z x) : fr'.eval x = fr.eval x := by
  cases x with
  | tmp t =>
    show fr'.tmps.getD t undef = fr.tmps.getD t undef
    rw [Array.getD_eq_getD_getElem?, Array.getD_eq_getD_getElem?, h.tmps t hx]
  | _ => rfl
theorem exitTo_map {id : Nat} : ∀ {l : List Item}, exitTo id (l.map (mapI φ)) = (exitTo id l).map (List.map (mapI φ))
  | [] => rfl
  | it :: l => by
    cases it <;> simp only [List.map_cons, mapI, exitTo]
    case inBlock id' => split <;> first | rfl | exact exitTo_map
    all_goals exact exitTo_map
theorem exitTo_fit {id : Nat} : ∀ {l l' : List Item}, FitItems φ Z l → exitTo id l = some l' → FitItems φ Z l'
  | [], _, _, e => by simp [exitTo] at e
  | it :: l, l', h, e => by
    cases it with
    | inBlock id' =>
      simp only [exitTo] at e
      split at e
      · cases e; exact h.tail
      · exact exitTo_fit h.tail e
    | _ => simp only [exitTo] at e; exact exitTo_fit h.tail e
theorem yielded_map {ops : Array Oper} (hf : FitOps φ Z ops) (h : ∀ i : Nat, ¬ Z i → fr'.tmps[i]? = fr.tmps[i]?) {i : Nat} {o : Oper} (ho : ops[i]? = some o) : Region.wanted (φ o) (yielded (ops.map φ) fr'.tmps) = Region.wanted o (yielded ops fr.tmps) := by
  unfold Region.wanted
  rw [hf.guard i o ho]
  cases hg : o.guard with
  | none => rfl
  | some jb =>
    obtain ⟨j, b⟩ := jb
    dsimp only
    have : yielded (ops.map φ) fr'.tmps j = yielded ops fr.tmps j := by
      unfold yielded
      rw [Array.getElem?_map]
      cases hp : ops[j]? with
      | none => rfl
      | some p =>
        obtain ⟨h1, h2⟩ := hf.asked i o j b ho hg p hp
        simp only [Option.map_some, Option.bind_some, h1]
        cases hd : p.dst with
        | none => rfl
        | some t => simp only [Option.bind_some, h t (h2 t hd)]
    rw [this]
theorem finish_map (h : Mp φ Z fr fr') {ops : Array Oper} {i : Nat} {rest : List Nat} {k : List Item} (ht : fr.todo = .inRegion ops (i :: rest) :: k) (v v' : Value) (hv : ∀ o, ops[i]? = some o → (φ o).dst = o.dst → (v' = v ∨ ∀ t, o.dst = some t → Z t)) : Mp φ Z (fr.finish v) (fr'.finish v') := by
  have hi := h.fits
  rw [ht] at hi
  have ht' : fr'.todo = .inRegion (ops.map φ) (i :: rest) :: k.map (mapI φ) := by rw [h.todo, ht]; rfl
  unfold Frame.finish
  rw [ht, ht']
  refine ⟨rfl, .cons (it := .inRegion ops rest) hi.head hi.tail, fun j hj => ?_, h.mode, h.defers, h.round⟩
  dsimp only
  rw [Array.getElem?_map]
  have set_z : ∀ (a : Array Value) (t : Nat) (x : Value), Z t → (a.setIfInBounds t x)[j]? = a[j]? := fun a t x ht => by
    rw [Array.getElem?_setIfInBounds_ne (fun (e : t = j) => hj (by rw [← e]; exact ht))]
  cases ho : ops[i]? with
  | none => exact h.tmps j hj
  | some o =>
    simp only [Option.map_some, Option.bind_some]
    rcases hi.head.dst i o ho with hd | ⟨hd1, hd2⟩
    · rw [hd]
      cases hdt : o.dst with
      | none => exact h.tmps j hj
      | some t =>
        dsimp only
        rcases hv o ho hd with rfl | hz
        · by_cases htj : t = j
          · subst htj
            by_cases hlt : t < fr.tmps.size
            · have hlt' : t < fr'.tmps.size := by
                have := h.tmps t hj
                rw [Array.getElem?_eq_getElem hlt] at this
                exact (Array.getElem?_eq_some_iff.1 this).1
              rw [Array.getElem?_setIfInBounds_self_of_lt hlt, Array.getElem?_setIfInBounds_self_of_lt hlt']
            · have hlt' : ¬ t < fr'.tmps.size := fun hl => by
                have := h.tmps t hj
                rw [Array.getElem?_eq_getElem hl] at this
                exact hlt (Array.getElem?_eq_some_iff.1 this.symm).1
              rw [Array.getElem?_eq_none (by simpa using hlt'), Array.getElem?_eq_none (by simpa using hlt)]
          · rw [Array.getElem?_setIfInBounds_ne htj, Array.getElem?_setIfInBounds_ne htj]; exact h.tmps j hj
        · rw [set_z _ _ _ (hz t hdt), set_z _ _ _ (hz t hdt)]; exact h.tmps j hj
    · cases h1 : (φ o).dst with
      | none =>
        cases h2 : o.dst with
        | none => exact h.tmps j hj
        | some t => dsimp only; rw [set_z _ _ _ (hd1 t h2)]; exact h.tmps j hj
      | some t' =>
        cases h2 : o.dst with
        | none => dsimp only; rw [set_z _ _ _ (hd2 t' h1)]; exact h.tmps j hj
        | some t => dsimp only; rw [set_z _ _ _ (hd1 t h2), set_z _ _ _ (hd2 t' h1)]; exact h.tmps j hj
theorem Mp.todoEq (h : Mp φ Z fr fr') {k k' : List Item} (hk : k' = k.map (mapI φ)) (hf : FitItems φ Z k) : Mp φ Z { fr with todo := k } { fr' with todo := k' } := ⟨hk, hf, h.tmps, h.mode, h.defers, h.round⟩
/-- **Control is the same in both.** -/
theorem ctl_map (h : Mp φ Z fr fr') {fr1' : Frame} (hc : ctl fr' = some fr1') : ∃ fr1, ctl fr = some fr1 ∧ Mp φ Z fr1 fr1' := by
  have hi := h.fits
  unfold ctl at hc ⊢
  cases ht : fr.todo with
  | nil =>
    have ht' : fr'.todo = [] := by rw [h.todo, ht]; rfl
    rw [ht'] at hc; cases hc
    exact ⟨_, rfl, ⟨by simp [ht'], by intro it hit; simp [ht] at hit, h.tmps, rfl, h.defers, h.round⟩⟩
  | cons it k =>
    have ht' : fr'.todo = mapI φ it :: k.map (mapI φ) := by rw [h.todo, ht]; rfl
    rw [ht'] at hc
    rw [ht] at hi
    have hk := hi.tail
    cases it with
    | inBlock id => cases hc; exact ⟨_, rfl, h.todoEq rfl hk⟩
    | inScope c => exact hi.head.elim
    | inLoop c => cases hc; exact ⟨_, rfl, h.todoEq rfl (.cons (it := .code c) hi.head (.cons (it := .inLoop c) hi.head hk))⟩
    | inRangeFunc l => exact hi.head.elim
    | endRangeFunc l => exact hi.head.elim
    | beginRound => exact hi.head.elim
    | call d b r s => exact hi.head.elim
    | extern r a => exact hi.head.elim
    | inRegion ops l =>
      cases l with
      | nil => cases hc; exact ⟨_, rfl, h.todoEq rfl hk⟩
      | cons i rest =>
        simp only [mapI, Array.getElem?_map] at hc
        dsimp only
        cases ho : ops[i]? with
        | none =>
          rw [ho] at hc
          cases hc
          exact ⟨_, rfl, finish_map h ht undef undef (fun o ho' _ => by rw [ho] at ho'; cases ho')⟩
        | some o =>
          rw [ho] at hc
          have hw' := yielded_map hi.head h.tmps ho
          by_cases hw : Region.wanted o (yielded ops fr.tmps) = true
          · simp only [Option.map_some, Option.getD_some, hw'.trans hw, if_true] at hc; cases hc
          · have hw2 : Region.wanted (φ o) (yielded (ops.map φ) fr'.tmps) = false := by rw [hw']; simpa using hw
            simp only [Option.map_some, Option.getD_some, hw2, Bool.false_eq_true, if_false] at hc
            cases hc
            exact ⟨_, by simp [hw], finish_map h ht undef undef (fun o ho' _ => .inl rfl)⟩
    | code c =>
      cases c with
      | skip => cases hc; exact ⟨_, rfl, h.todoEq rfl hk⟩
      | label l => exact hi.head.elim
      | seq a b => cases hc; exact ⟨_, rfl, h.todoEq rfl (.cons (it := .code a) hi.head.1 (.cons (it := .code b) hi.head.2 hk))⟩
      | block id c => cases hc; exact ⟨_, rfl, h.todoEq rfl (.cons (it := .code c) hi.head (.cons (it := .inBlock id) trivial hk))⟩
      | loop c => cases hc; exact ⟨_, rfl, h.todoEq rfl (.cons (it := .code c) hi.head (.cons (it := .inLoop c) hi.head hk))⟩
      | scope c => exact hi.head.elim
      | ret => cases hc; exact ⟨_, rfl, ⟨rfl, hi, h.tmps, rfl, h.defers, h.round⟩⟩
      | rangeFunc f ps a b => exact hi.head.elim
      | refuse why => cases hc
      | exit id =>
        simp only [mapI, mapC, exitTo_map] at hc
        dsimp only
        cases he : exitTo id k with
        | none => rw [he] at hc; cases hc
        | some k1 => rw [he] at hc; cases hc; exact ⟨_, rfl, h.todoEq rfl (exitTo_fit hk he)⟩
      | goto l => exact hi.head.elim
      | cond c a b =>
        simp only [mapI, mapC, h.eval hi.head.1] at hc
        dsimp only
        cases hb : fr.eval c <;> rw [hb] at hc <;> try (cases hc; done)
        case bool t =>
          cases hc
          refine ⟨_, rfl, h.todoEq (by cases t <;> rfl) (.cons (it := .code (if t then a else b)) (by cases t; exact hi.head.2.2; exact hi.head.2.1) hk)⟩
      | region id ops draw =>
        cases draw with
        | false => cases hc; exact ⟨_, rfl, h.todoEq (by simp [mapI]) (.cons (it := .inRegion ops (List.range ops.size)) hi.head hk)⟩
        | true => cases hc
/-- An operation is at the same place in both. -/
theorem op_map (h : Mp φ Z fr fr') {o' : Oper} (ho : AtOp fr' o') : ∃ o ops i rest k, fr.todo = .inRegion ops (i :: rest) :: k ∧ ops[i]? = some o ∧ Region.wanted o (yielded ops fr.tmps) = true ∧ o' = φ o ∧ FitOps φ Z ops := by
  obtain ⟨ops', i, rest, k', ht', ho', hw'⟩ := ho
  rw [h.todo] at ht'
  cases ht : fr.todo with
  | nil => rw [ht] at ht'; cases ht'
  | cons it k =>
    have hi := h.fits
    rw [ht] at ht' hi
    rw [List.map_cons] at ht'
    injection ht' with e1 e2
    cases it <;> try (cases e1; done)
    case inRegion ops l =>
      simp only [mapI] at e1
      injection e1 with e3 e4
      subst e4
      rw [← e3, Array.getElem?_map] at ho'
      cases hoo : ops[i]? with
      | none => rw [hoo] at ho'; cases ho'
      | some o =>
        rw [hoo] at ho'
        cases ho'
        rw [← e3, yielded_map hi.head h.tmps hoo] at hw'
        exact ⟨o, ops, i, rest, k, rfl, hoo, hw', rfl, hi.head⟩
theorem linearise_go {m : Region.Mode} {ops : Array Oper} (hf : ∀ (i : Nat) o, ops[i]? = some o → (φ o).after = o.after) : ∀ (fuel t : Nat) (listed : Array Bool) (acc : List Nat), Region.linearise.go m (ops.map φ) fuel t listed acc = Region.linearise.go m ops fuel t listed acc
  | 0, _, _, _ => rfl
  | fuel + 1, t, listed, acc => by
    have e : ((List.range (ops.map φ).size).filter fun i => !listed.getD i true && (((ops.map φ)[i]?).map (·.after.all fun e => !Region.binds m e || listed.getD e.on false)).getD false) = ((List.range ops.size).filter fun i => !listed.getD i true && ((ops[i]?).map (·.after.all fun e => !Region.binds m e || listed.getD e.on false)).getD false) := by
      rw [Array.size_map]
      congr 1
      funext i
      rw [Array.getElem?_map]
      cases ho : ops[i]? with
      | none => rfl
      | some o => simp only [Option.map_some, hf i o ho]
    unfold Region.linearise.go
    simp only [e]
    split
    · exact linearise_go hf _ _ _ _
    · rfl
theorem schedule_map {ops : Array Oper} (hf : FitOps φ Z ops) (mixed : Bool) (t : Nat) : Region.schedule mixed (ops.map φ) t = Region.schedule mixed ops t := by
  have hd : Region.departs (ops.map φ) = Region.departs ops := by
    unfold Region.departs
    rw [Array.any_map]
    apply Bool.eq_iff_iff.2
    simp only [Array.any_eq_true, Function.comp]
    constructor
    · rintro ⟨i, hi, h⟩; exact ⟨i, hi, by rw [← hf.after i ops[i] (Array.getElem?_eq_getElem hi)]; exact h⟩
    · rintro ⟨i, hi, h⟩; exact ⟨i, hi, by rw [hf.after i ops[i] (Array.getElem?_eq_getElem hi)]; exact h⟩
  unfold Region.schedule Region.linearise
  rw [hd]
  simp only [Array.size_map, linearise_go hf.after]
theorem draw_map (h : Mp φ Z fr fr') {id : Nat} {ops' : Array Oper} {k' : List Item} (hd : AtDraw fr' id ops' k') : ∃ ops k, AtDraw fr id ops k ∧ ops' = ops.map φ ∧ ∀ l : List Nat, Mp φ Z { fr with todo := .inRegion ops l :: k } { fr' with todo := .inRegion ops' l :: k' } := by
  unfold AtDraw at hd
  rw [h.todo] at hd
  cases ht : fr.todo with
  | nil => rw [ht] at hd; cases hd
  | cons it k =>
    have hi := h.fits
    rw [ht] at hd hi
    rw [List.map_cons] at hd
    injection hd with e1 e2
    cases it <;> try (cases e1; done)
    case code c =>
      simp only [mapI] at e1
      injection e1 with e1
      cases c <;> try (cases e1; done)
      case region id0 ops dr =>
        simp only [mapC] at e1
        injection e1 with e3 e4 e5
        subst e3 e5
        refine ⟨ops, k, ht, e4.symm, fun l => h.todoEq (by rw [← e4, ← e2]; rfl) (.cons (it := .inRegion ops l) hi.head hi.tail)⟩
end
end Go.Goes

-- PairT
/-
  The trace while one goroutine sends and goroutine 0 ranges, all others leaving.
-/
namespace Go.Goes
open Go.Conc
set_option linter.unusedVariables false

/-- A cell that lies low, or what is no cell. -/
def LowL (B : Nat) (l : Loc) : Prop := ∀ a, l = .cell a → a.block < B
/-- What goroutine 0 may list: no word that stops the hearing; what it writes does not lie low. -/
def Ev0 (B : Nat) (e : Event) : Prop := Tame e ∧ ∀ x, (MemAct.ofEvent e).touch? = some x → x.write = true → ¬ LowL B x.loc
/-- What the sender may list: it writes nothing; what it reads lies low. -/
def EvN (B : Nat) (e : Event) : Prop := Tame e ∧ ∀ x, (MemAct.ofEvent e).touch? = some x → x.write = false ∧ LowL B x.loc

/-- The trace while goroutine n sends. -/
structure Pair (B n : Nat) (t : Trace) : Prop where
  clean : ∀ said, ¬ Race said t
  known : ∀ i a, touchAt t i = some a → a.loc.isMemory = true → Knows t 0 i ∨ (t.g? i = some n ∧ a.write = false ∧ LowL B a.loc)
  knownN : ∀ i a, touchAt t i = some a → a.loc.isMemory = true → a.write = true → LowL B a.loc → Knows t n i
  over : ∀ i g, t.g? i = some g → g ≠ 0 → g ≠ n → t.counts i → ∃ j, t.g? j = some 0 ∧ HappensBefore t i j
  hears : Deaf t 0 = 0
  seen : ∃ C, ∀ op ∈ t, op.act.low C

theorem g?_of {t : Trace} {i : Nat} {op : MemOp} (h : t[i]? = some op) : t.g? i = some op.g := by simp [Trace.g?, h]
theorem g?_lt {t : Trace} {i g : Nat} (h : t.g? i = some g) : i < t.size := by
  unfold Trace.g? at h
  obtain ⟨z, hz, _⟩ := Option.map_eq_some_iff.1 h
  exact lt_size_of_getElem? hz
theorem noRace_quiet {said : Bool} {t u : Trace} (h : ¬ Race said t) (hu : ∀ op ∈ u, op.act.touch? = none) : ¬ Race said (t ++ u) := by
  rintro ⟨i, j, hij, ⟨a, b, ha, hb, hc⟩, n1, n2⟩
  obtain ⟨x, hx, hxa⟩ := touch_of ha
  obtain ⟨y, hy, hyb⟩ := touch_of hb
  rcases getElem?_append_cases hy with ⟨hj, hy'⟩ | ⟨hj, hyu⟩
  · have hi : i < t.size := Nat.lt_trans hij hj
    have hx' : t[i]? = some x := by rw [← getElem?_append_old (u := u) hi]; exact hx
    exact h ⟨i, j, hij, ⟨a, b, by simp [Trace.act?, hx', hxa], by simp [Trace.act?, hy', hyb], hc⟩, fun e => n1 (hb_app u e), fun e => n2 (hb_app u e)⟩
  · rw [hu y hyu] at hyb; cases hyb
theorem low_two {t u : Trace} (h : ∃ C, ∀ op ∈ t, op.act.low C) (hu : ∃ C, ∀ op ∈ u, op.act.low C) : ∃ C, ∀ op ∈ t ++ u, op.act.low C := by
  obtain ⟨C, h⟩ := h
  obtain ⟨D, hu⟩ := hu
  exact ⟨max C D, fun op hop => (Array.mem_append.1 hop).elim (fun x => MemAct.low_mono (Nat.le_max_left _ _) (h op x)) (fun x => MemAct.low_mono (Nat.le_max_right _ _) (hu op x))⟩
theorem low_events (g : Nat) (fn : FuncId) (pos : String) (es : Array Event) : ∃ C, ∀ op ∈ MemOp.ofEvents g fn pos es, op.act.low C := by
  obtain ⟨C, hC⟩ := low_all es.toList
  exact ⟨C, fun op hop => by obtain ⟨e, he, rfl⟩ := Go.Conc.mem_ofEvents hop; exact hC e (Array.mem_toList_iff.2 he)⟩
theorem over_app {n : Nat} {t u : Trace} (h : ∀ i g, t.g? i = some g → g ≠ 0 → g ≠ n → t.counts i → ∃ j, t.g? j = some 0 ∧ HappensBefore t i j) (hu : ∀ op ∈ u, op.g = 0 ∨ op.g = n ∨ op.act.touch? = none) :
    ∀ i g, (t ++ u).g? i = some g → g ≠ 0 → g ≠ n → (t ++ u).counts i → ∃ j, (t ++ u).g? j = some 0 ∧ HappensBefore (t ++ u) i j := by
  intro i g hg hne hnn hc
  obtain ⟨x, hx, _⟩ := hc
  obtain ⟨op, hop, hox⟩ := touch_of hx
  rcases getElem?_append_cases hop with ⟨hi, hop'⟩ | ⟨_, hopu⟩
  · obtain ⟨j, hj, hb⟩ := h i g (by rw [g?_old hi] at hg; exact hg) hne hnn ((counts_old hi).1 ⟨x, hx, ‹_›⟩)
    exact ⟨j, by rw [g?_old (g?_lt hj)]; exact hj, hb_app u hb⟩
  · have hgo : op.g = g := by rw [g?_of hop] at hg; exact Option.some.inj hg
    rcases hu op hopu with h0 | h0 | h0
    · exact absurd (hgo.symm.trans h0) hne
    · exact absurd (hgo.symm.trans h0) hnn
    · rw [h0] at hox; cases hox

section
variable {B n : Nat} {t u : Trace}
/-- Operations that touch nothing. -/
theorem Pair.quiet (h : Pair B n t) (hu : ∀ op ∈ u, op.act.touch? = none) (h0 : Deaf (t ++ u) 0 = Deaf t 0) (hl : ∃ C, ∀ op ∈ u, op.act.low C) : Pair B n (t ++ u) := by
  refine ⟨fun said => noRace_quiet (h.clean said) hu, fun i a ha hm => ?_, fun i a ha hm hw hlo => ?_, over_app h.over (fun op hop => .inr (.inr (hu op hop))), h0.trans h.hears, low_two h.seen hl⟩
  · obtain ⟨x, hx, hxa⟩ := touch_of ha
    rcases getElem?_append_cases hx with ⟨hi, hx'⟩ | ⟨_, hxu⟩
    · rw [g?_old hi]
      exact (h.known i a (by rw [touchAt_of hx']; exact hxa) hm).imp (·.app u) id
    · rw [hu x hxu] at hxa; cases hxa
  · obtain ⟨x, hx, hxa⟩ := touch_of ha
    rcases getElem?_append_cases hx with ⟨hi, hx'⟩ | ⟨_, hxu⟩
    · exact (h.knownN i a (by rw [touchAt_of hx']; exact hxa) hm hw hlo).app u
    · rw [hu x hxu] at hxa; cases hxa
/-- Goroutine 0's own. -/
theorem Pair.own0 (h : Pair B n t) (hn : n ≠ 0) {fn : FuncId} {pos : String} {es : Array Event} (hes : ∀ e ∈ es, Ev0 B e) : Pair B n (t ++ MemOp.ofEvents 0 fn pos es) := by
  have hg : ∀ op ∈ MemOp.ofEvents 0 fn pos es, op.g = 0 := fun op hop => by obtain ⟨e, _, rfl⟩ := Go.Conc.mem_ofEvents hop; rfl
  have ht : ∀ op ∈ MemOp.ofEvents 0 fn pos es, ∀ b, op.act.touch? = some b → b.write = true → ¬ LowL B b.loc := fun op hop b hb => by obtain ⟨e, he, rfl⟩ := Go.Conc.mem_ofEvents hop; exact (hes e he).2 b hb
  refine ⟨fun said => noRace_append (h.clean said) hg fun i a ha op hop b hb hc => ?_, fun i a ha hm => ?_, fun i a ha hm hw hlo => ?_, over_app h.over (fun op hop => .inl (hg op hop)), ?_, low_two h.seen (low_events _ _ _ _)⟩
  · rcases h.known i a ha hc.2.1 with hk | ⟨_, hw, hlo⟩
    · exact hk
    · rcases hc.2.2.1 with hx | hx
      · rw [hw] at hx; cases hx
      · exact absurd (hc.1 ▸ hlo) (ht op hop b hb hx)
  · obtain ⟨x, hx, hxa⟩ := touch_of ha
    rcases getElem?_append_cases hx with ⟨hi, hx'⟩ | ⟨_, hxu⟩
    · rw [g?_old hi]
      exact (h.known i a (by rw [touchAt_of hx']; exact hxa) hm).imp (·.app _) id
    · have := knows_own hx
      rw [hg x hxu] at this
      exact .inl this
  · obtain ⟨x, hx, hxa⟩ := touch_of ha
    rcases getElem?_append_cases hx with ⟨hi, hx'⟩ | ⟨_, hxu⟩
    · exact (h.knownN i a (by rw [touchAt_of hx']; exact hxa) hm hw hlo).app _
    · exact absurd hlo (ht x hxu a hxa hw)
  · rw [Deaf_own, deafBehind_still (fun e he => (hes e he).1)]; exact h.hears
/-- The sender's own. -/
theorem Pair.ownN (h : Pair B n t) (hn : n ≠ 0) {fn : FuncId} {pos : String} {es : Array Event} (hes : ∀ e ∈ es, EvN B e) : Pair B n (t ++ MemOp.ofEvents n fn pos es) := by
  have hg : ∀ op ∈ MemOp.ofEvents n fn pos es, op.g = n := fun op hop => by obtain ⟨e, _, rfl⟩ := Go.Conc.mem_ofEvents hop; rfl
  have ht : ∀ op ∈ MemOp.ofEvents n fn pos es, ∀ b, op.act.touch? = some b → b.write = false ∧ LowL B b.loc := fun op hop b hb => by obtain ⟨e, he, rfl⟩ := Go.Conc.mem_ofEvents hop; exact (hes e he).2 b hb
  refine ⟨fun said => noRace_append (h.clean said) hg fun i a ha op hop b hb hc => ?_, fun i a ha hm => ?_, fun i a ha hm hw hlo => ?_, over_app h.over (fun op hop => .inr (.inl (hg op hop))), ?_, low_two h.seen (low_events _ _ _ _)⟩
  · obtain ⟨hbw, hbl⟩ := ht op hop b hb
    rcases hc.2.2.1 with hx | hx
    · exact h.knownN i a ha hc.2.1 hx (hc.1 ▸ hbl)
    · rw [hbw] at hx; cases hx
  · obtain ⟨x, hx, hxa⟩ := touch_of ha
    rcases getElem?_append_cases hx with ⟨hi, hx'⟩ | ⟨_, hxu⟩
    · rw [g?_old hi]
      exact (h.known i a (by rw [touchAt_of hx']; exact hxa) hm).imp (·.app _) id
    · exact .inr ⟨by rw [g?_of hx, hg x hxu], ht x hxu a hxa⟩
  · obtain ⟨x, hx, hxa⟩ := touch_of ha
    rcases getElem?_append_cases hx with ⟨hi, hx'⟩ | ⟨_, hxu⟩
    · exact (h.knownN i a (by rw [touchAt_of hx']; exact hxa) hm hw hlo).app _
    · rw [(ht x hxu a hxa).1] at hw; cases hw
  · rw [Deaf_other t hn _ hg]; exact h.hears
/-- Another's, that touch nothing. -/
theorem Pair.mute (h : Pair B n t) {g : Nat} (hg0 : g ≠ 0) {fn : FuncId} {pos : String} {es : Array Event} (hm : ∀ e ∈ es, e.mute = true) : Pair B n (t ++ MemOp.ofEvents g fn pos es) := by
  have hg : ∀ op ∈ MemOp.ofEvents g fn pos es, op.g = g := fun op hop => by obtain ⟨e, _, rfl⟩ := Go.Conc.mem_ofEvents hop; rfl
  exact h.quiet (fun op hop => by obtain ⟨e, he, rfl⟩ := Go.Conc.mem_ofEvents hop; exact touch_mute (hm e he)) (Deaf_other t hg0 _ hg) (low_events _ _ _ _)
/-- Words of a channel. -/
def Word (op : MemOp) : Prop := match op.act with | .send .. | .sendDone .. | .recv .. | .recvDone .. | .close _ | .recvClosed _ => True | _ => False
theorem Word.touch {op : MemOp} (h : Word op) : op.act.touch? = none := by unfold Word at h; split at h <;> simp_all [MemAct.touch?]
theorem Word.low {op : MemOp} (h : Word op) : ∃ C, op.act.low C := by unfold Word at h; split at h <;> first | exact h.elim | (rename_i e; rw [e]; exact ⟨_, Nat.lt_succ_self _⟩)
theorem low_words : ∀ (l : List MemOp), (∀ op ∈ l, Word op) → ∃ C, ∀ op ∈ l, op.act.low C
  | [], _ => ⟨0, by simp⟩
  | a :: l, h => by
    obtain ⟨C, hC⟩ := low_words l (fun op hop => h op (List.mem_cons_of_mem _ hop))
    obtain ⟨D, hD⟩ := (h a (List.mem_cons_self ..)).low
    refine ⟨max C D, fun op hop => ?_⟩
    rcases List.mem_cons.1 hop with rfl | hop
    · exact MemAct.low_mono (Nat.le_max_right _ _) hD
    · exact MemAct.low_mono (Nat.le_max_left _ _) (hC op hop)
theorem deaf_words (t : Trace) (g : Nat) (u : Trace) (hu : ∀ op ∈ u, Word op) : Deaf (t ++ u) g = Deaf t g := by
  have key : ∀ (l : List MemOp), (∀ op ∈ l, Word op) → ∀ d, l.foldl (deafStep g) d = d := by
    intro l
    induction l with
    | nil => intro _ d; rfl
    | cons a l ih =>
      intro h d
      rw [List.foldl_cons, ih (fun op hop => h op (List.mem_cons_of_mem _ hop))]
      have ha := h a (List.mem_cons_self ..)
      unfold deafStep
      split
      · exact absurd (by assumption) (by intro e; simp_all [Word])
      · exact absurd (by assumption) (by intro e; simp_all [Word])
      · rfl
  have := Deaf_append t g u.toList
  rw [Array.toArray_toList] at this
  rw [this]
  exact key u.toList (fun op hop => hu op (Array.mem_toList_iff.1 hop)) _
theorem Pair.words (h : Pair B n t) (hu : ∀ op ∈ u, Word op) : Pair B n (t ++ u) :=
  h.quiet (fun op hop => (hu op hop).touch) (deaf_words t 0 u hu) (let ⟨C, hC⟩ := low_words u.toList (fun op hop => hu op (Array.mem_toList_iff.1 hop)); ⟨C, fun op hop => hC op (Array.mem_toList_iff.2 hop)⟩)

/-- The sender has closed: all that it touched stands before that. -/
def Shut (c n : Nat) (t : Trace) : Prop := ∃ pc, t.act? pc = some (.close c) ∧ t.heard pc ∧ ∀ i a, touchAt t i = some a → t.g? i = some n → Before t i pc
theorem Shut.app {c : Nat} (h : Shut c n t) (hu : ∀ op ∈ u, op.g = n → op.act.touch? = none) : Shut c n (t ++ u) := by
  obtain ⟨pc, h1, h2, h3⟩ := h
  have hlt := Go.Conc.lt_of_act? h1
  refine ⟨pc, by rw [act?_old hlt]; exact h1, (heard_old hlt).2 h2, fun i a ha hg => ?_⟩
  obtain ⟨x, hx, hxa⟩ := touch_of ha
  rcases getElem?_append_cases hx with ⟨hi, hx'⟩ | ⟨_, hxu⟩
  · exact (h3 i a (by rw [touchAt_of hx']; exact hxa) (by rw [g?_old hi] at hg; exact hg)).app u
  · rw [hu x hxu (by rw [g?_of hx] at hg; exact Option.some.inj hg)] at hxa; cases hxa
theorem Shut.new {c : Nat} (hd : Deaf t n = 0) {y : MemOp} (hg : y.g = n) (hy : y.act = .close c) : Shut c n (t ++ #[y]) := by
  have hlast : (t ++ #[y])[t.size]? = some y := by rw [Array.getElem?_append_right (Nat.le_refl _)]; simp
  refine ⟨t.size, by rw [Go.Conc.act?_of hlast, hy], ⟨n, by rw [g?_of hlast, hg], ?_⟩, fun i a ha hgi => ?_⟩
  · rw [deaf_old (Nat.le_refl _)]; exact hd
  · obtain ⟨x, hx, hxa⟩ := touch_of ha
    rcases getElem?_append_cases hx with ⟨hi, hx'⟩ | ⟨_, hxu⟩
    · exact .inr (hb_po hi hx hlast (by rw [g?_of hx] at hgi; rw [Option.some.inj hgi, hg]))
    · have : x = y := by simpa using hxu
      rw [this, hy] at hxa; cases hxa
/-- Goroutine 0 finds the channel closed: all is known to it. -/
theorem Pair.done {c : Nat} (h : Pair B n t) (hs : Shut c n t) (hn : n ≠ 0) {y : MemOp} (hg : y.g = 0) (hy : y.act = .recvClosed c) : Past0 (t ++ #[y]) := by
  have hlast : (t ++ #[y])[t.size]? = some y := by rw [Array.getElem?_append_right (Nat.le_refl _)]; simp
  have hw : Word y := by unfold Word; rw [hy]; trivial
  have hp : Pair B n (t ++ #[y]) := h.words (fun op hop => by have : op = y := by simpa using hop
                                                              rw [this]; exact hw)
  obtain ⟨pc, h1, h2, h3⟩ := hs
  have hlt := Go.Conc.lt_of_act? h1
  have hh : (t ++ #[y]).heard t.size := ⟨0, by rw [g?_of hlast, hg], by rw [deaf_old (Nat.le_refl _)]; exact h.hears⟩
  have hb : HappensBefore (t ++ #[y]) pc t.size := .single (.inr ⟨.closed (c := c) (by rw [act?_old hlt]; exact h1) (by rw [Go.Conc.act?_of hlast, hy]), (heard_old hlt).2 h2, hh⟩)
  have hall : ∀ i a, touchAt (t ++ #[y]) i = some a → (t ++ #[y]).g? i = some n → HappensBefore (t ++ #[y]) i t.size := fun i a ha hgi => by
    obtain ⟨x, hx, hxa⟩ := touch_of ha
    rcases getElem?_append_cases hx with ⟨hi, hx'⟩ | ⟨_, hxu⟩
    · exact ((h3 i a (by rw [touchAt_of hx']; exact hxa) (by rw [g?_old hi] at hgi; exact hgi)).app _).hb hb
    · have : x = y := by simpa using hxu
      rw [this, hw.touch] at hxa; cases hxa
  obtain ⟨C, hC⟩ := hp.seen
  refine ⟨C, hp.clean, fun i a ha hm => .inl ?_, fun i g hgi hne hc => ?_, hp.hears, hC⟩
  · rcases hp.known i a ha hm with hk | ⟨hgi, _, _⟩
    · exact hk
    · exact ⟨t.size, y, hlast, hg, .inr (hall i a ha hgi)⟩
  · by_cases hgn : g = n
    · obtain ⟨x, hx, _⟩ := hc
      exact ⟨t.size, by rw [g?_of hlast, hg], hall i x hx (by rw [← hgn]; exact hgi)⟩
    · exact hp.over i g hgi hne hgn hc

/-- The go statement. -/
theorem Pair.new (h : Past0 t) (hd : Deaf t n = 0) (hn : n ≠ 0) {x y : MemOp} (hx : x.g = 0 ∧ x.act = .go n) (hy : y.g = n ∧ y.act = .start) : Pair B n (t ++ #[x, y]) := by
  obtain ⟨C, h⟩ := h
  have e0 : (t ++ #[x, y])[t.size]? = some x := by rw [Array.getElem?_append_right (Nat.le_refl _)]; simp
  have e1 : (t ++ #[x, y])[t.size + 1]? = some y := by rw [Array.getElem?_append_right (Nat.le_succ _)]; simp
  have hq : ∀ op ∈ #[x, y], op.act.touch? = none := fun op hop => by
    rcases (by simpa using hop : op = x ∨ op = y) with rfl | rfl
    · rw [hx.2]; rfl
    · rw [hy.2]; rfl
  have hdf : ∀ g, Deaf (t ++ #[x, y]) g = Deaf t g := fun g => by
    rw [show t ++ #[x, y] = (t ++ #[x]) ++ #[y] by rw [Array.append_assoc]; rfl, Deaf_push, Deaf_push]
    unfold deafStep
    rw [hx.2, hy.2]
  have hsp : HappensBefore (t ++ #[x, y]) t.size (t.size + 1) := .single (.inr ⟨.spawn (child := n) (by rw [Go.Conc.act?_of e0, hx.2]) (by rw [Go.Conc.act?_of e1, hy.2]) (by rw [g?_of e1, hy.1]),
    ⟨0, by rw [g?_of e0, hx.1], by rw [deaf_old (Nat.le_refl _)]; exact h.hears⟩,
    ⟨n, by rw [g?_of e1, hy.1], by
      rw [deaf_succ e0, deaf_old (Nat.le_refl _)]
      unfold deafStep
      rw [hx.2]
      exact hd⟩⟩)
  refine ⟨fun said => noRace_quiet (h.clean said) hq, fun i a ha hm => ?_, fun i a ha hm hw hlo => ?_, fun i g hg hne hnn hc => ?_, (hdf 0).trans h.hears, low_two ⟨C, h.seen⟩ ⟨0, fun op hop => ?_⟩⟩
  · obtain ⟨z, hz, hza⟩ := touch_of ha
    rcases getElem?_append_cases hz with ⟨hi, hz'⟩ | ⟨_, hzu⟩
    · exact .inl (((h.known i a (by rw [touchAt_of hz']; exact hza) hm).resolve_right (fun hf => hf.1)).app _)
    · rw [hq z hzu] at hza; cases hza
  · obtain ⟨z, hz, hza⟩ := touch_of ha
    rcases getElem?_append_cases hz with ⟨hi, hz'⟩ | ⟨_, hzu⟩
    · have hk := (h.known i a (by rw [touchAt_of hz']; exact hza) hm).resolve_right (fun hf => hf.1)
      have := hk.hb_new (u := #[x, y]) (Nat.le_refl _) e0 hx.1
      exact ⟨t.size + 1, y, e1, hy.1, .inr (this.trans hsp)⟩
    · rw [hq z hzu] at hza; cases hza
  · exact handedOver_app h.over (fun op hop => .inr (hq op hop)) i g hg hne hc
  · rcases (by simpa using hop : op = x ∨ op = y) with rfl | rfl
    · rw [hx.2]; trivial
    · rw [hy.2]; trivial
end
end Go.Goes

-- Pair
/-
  One goroutine sends, goroutine 0 ranges, all others only leave: the run ends well.
-/
namespace Go.Goes
open Go.Conc
open Go.ConcN (sumTo upd sumTo_upd upd_ne upd_same)
set_option linter.unusedVariables false

/-- The same but for block c, the tape and the count of draws. -/
structure As (c : Nat) (w w₁ : World) : Prop where
  os : w₁.os = w.os
  output : w₁.output = w.output
  size : w₁.heap.size = w.heap.size
  block : ∀ k, k ≠ c → w₁.heap[k]? = w.heap[k]?
theorem As.refl (c : Nat) (w : World) : As c w w := ⟨rfl, rfl, rfl, fun _ _ => rfl⟩
theorem As.trans {c : Nat} {a b d : World} (h : As c a b) (h' : As c b d) : As c a d := ⟨h'.os.trans h.os, h'.output.trans h.output, h'.size.trans h.size, fun k hk => (h'.block k hk).trans (h.block k hk)⟩
theorem As.at (c : Nat) (w : World) (d : Nat) : As c w (w.at d) := ⟨rfl, rfl, rfl, fun _ _ => rfl⟩
theorem As.put (c : Nat) (w : World) (o : Obj) : As c w { w with heap := w.heap.setIfInBounds c o } := ⟨rfl, rfl, by simp, fun k hk => by simp [Ne.symm hk]⟩
/-- What lies low is as it was. -/
def Lo (c B : Nat) (w0 w : World) : Prop := ∀ k, k < B → k ≠ c → w.heap[k]? = w0.heap[k]?
theorem Lo.as {c B : Nat} {w0 w w₁ : World} (h : Lo c B w0 w) (ha : As c w w₁) : Lo c B w0 w₁ := fun k hk hc => (ha.block k hc).trans (h k hk hc)

structure StepTo where
  g : Goroutine
  w : World
  es : Array Event

/-- The channel's block. -/
def Ch (c : Nat) (tm : Bool) (w : World) : Prop := ∃ cl s r, w.heap[c]? = some (.chan 0 #[] cl s r tm)

section
variable (P : Program) (c B : Nat) (tm : Bool) (z : Value) (w0 : World)

/-- Goroutine 0's script: a tree. -/
inductive RT (Fin : Goroutine → World → Prop) : List Value → Goroutine → World → Prop
  | step {vs : List Value} {g : Goroutine} {w : World} (hrun : g.status = .running) (x : World → StepTo)
      (h : ∀ w₁, As c w w₁ → Ch c tm w₁ → stepG P true g w₁ = .go (x w₁).g (x w₁).w (x w₁).es ∧ (x w₁).g.status = .running ∧ (∀ e ∈ (x w₁).es, Ev0 B e) ∧ (x w₁).w.heap[c]? = w₁.heap[c]? ∧ Lo c B w₁ (x w₁).w)
      (next : ∀ w₁, As c w w₁ → Ch c tm w₁ → RT Fin vs (x w₁).g (x w₁).w) : RT Fin vs g w
  | recv {v : Value} {vs : List Value} {g : Goroutine} {w : World} (hrun : g.status = .running) (x : World → Array Event)
      (h : ∀ w₁, As c w w₁ → Ch c tm w₁ → stepG P true g w₁ = .comm (core g) #[rcase c z] true (.recv true) w₁ (x w₁) ∧ ∀ e ∈ x w₁, Ev0 B e)
      (next : ∀ w₁, As c w w₁ → Ch c tm w₁ → RT Fin vs (Conc.served (core g) (.tuple #[v, .bool true])) w₁) : RT Fin (v :: vs) g w
  | last {g : Goroutine} {w : World} (hrun : g.status = .running) (x : World → Array Event)
      (h : ∀ w₁, As c w w₁ → Ch c tm w₁ → stepG P true g w₁ = .comm (core g) #[rcase c z] true (.recv true) w₁ (x w₁) ∧ ∀ e ∈ x w₁, Ev0 B e)
      (next : ∀ w₁, As c w w₁ → Ch c tm w₁ → Fin (Conc.served (core g) (.tuple #[z, .bool false])) w₁) : RT Fin [] g w

/-- The sender's script: a tree. -/
inductive SD : List Value → Goroutine → Prop
  | step {vs : List Value} {g : Goroutine} (hrun : g.status = .running) (x : World → Goroutine) (y : World → Nat) (es : World → Array Event)
      (h : ∀ w, Lo c B w0 w → Ch c tm w → stepG P false g w = .go (x w) (w.at (y w)) (es w) ∧ ∀ e ∈ es w, EvN B e)
      (next : ∀ w, Lo c B w0 w → Ch c tm w → SD vs (x w)) : SD vs g
  | send {v : Value} {vs : List Value} {g : Goroutine} (hrun : g.status = .running) (g₂ : Goroutine) (z' : Value) (es : World → Array Event)
      (h : ∀ w, Lo c B w0 w → Ch c tm w → stepG P false g w = .comm g₂ #[scase c v z'] true .send w (es w) ∧ ∀ e ∈ es w, EvN B e)
      (next : SD vs (Conc.served g₂ undef)) : SD (v :: vs) g
  | close {g : Goroutine} (hrun : g.status = .running) (hwake : mayWake P g = true) (g₂ : Goroutine) (es : World → Array Event) (k : Nat)
      (h : ∀ w s r tm, Lo c B w0 w → w.heap[c]? = some (.chan 0 #[] false s r tm) → stepG P false g w = .go g₂ (w.shut c s r tm) ((es w).push ⟨.obj c, true, true⟩) ∧ ∀ e ∈ es w, EvN B e)
      (hq : QuitsIn P k g₂) : SD [] g
end

section
variable {P : Program} {Post : Value → World → Prop} {c B n : Nat} {tm : Bool} {z : Value} {w0 : World}

variable (P Post) in
def EndsRun (m : Machine) (t : Trace) : Prop := ∃ N last o w' t', runNT P (N + 1) m t = (.ended o w', t') ∧ runN P N m = .next last ∧ step P last = .ended o w' ∧ Good P Post last o w' t'

theorem RT.running {Fin : Goroutine → World → Prop} {vs : List Value} {g : Goroutine} {w : World} (h : RT P c B tm z Fin vs g w) : g.status = .running := by cases h <;> assumption
theorem SD.running {vs : List Value} {g : Goroutine} (h : SD P c B tm w0 vs g) : g.status = .running := by cases h <;> assumption
theorem RT.rely {Fin : Goroutine → World → Prop} {vs : List Value} {g : Goroutine} {w w₁ : World} (h : RT P c B tm z Fin vs g w) (ha : As c w w₁) : RT P c B tm z Fin vs g w₁ := by
  cases h with
  | step hrun x h next => exact .step hrun x (fun w₂ h₂ k₂ => h w₂ (ha.trans h₂) k₂) (fun w₂ h₂ k₂ => next w₂ (ha.trans h₂) k₂)
  | recv hrun x h next => exact .recv hrun x (fun w₂ h₂ k₂ => h w₂ (ha.trans h₂) k₂) (fun w₂ h₂ k₂ => next w₂ (ha.trans h₂) k₂)
  | last hrun x h next => exact .last hrun x (fun w₂ h₂ k₂ => h w₂ (ha.trans h₂) k₂) (fun w₂ h₂ k₂ => next w₂ (ha.trans h₂) k₂)
theorem core_served {g g' : Goroutine} (h : core g' = core g) : ∀ main w, stepG P main g' w = stepG P main g w := fun main w => by
  have h1 : g'.frame = g.frame := by have := congrArg Goroutine.frame h; exact this
  have h2 : g'.callers = g.callers := by have := congrArg Goroutine.callers h; exact this
  have h3 : g'.dying = g.dying := by have := congrArg Goroutine.dying h; exact this
  exact stepG_same h1 h2 h3 w
theorem RT.core {Fin : Goroutine → World → Prop} {vs : List Value} {g g' : Goroutine} {w : World} (h : RT P c B tm z Fin vs g w) (hc : core g' = core g) (hr : g'.status = .running) : RT P c B tm z Fin vs g' w := by
  cases h with
  | step hrun x h next => exact .step hr x (fun w₂ h₂ k₂ => by rw [core_served hc]; exact h w₂ h₂ k₂) next
  | recv hrun x h next => exact .recv hr x (fun w₂ h₂ k₂ => by rw [core_served hc, hc]; exact h w₂ h₂ k₂) (fun w₂ h₂ k₂ => by rw [hc]; exact next w₂ h₂ k₂)
  | last hrun x h next => exact .last hr x (fun w₂ h₂ k₂ => by rw [core_served hc, hc]; exact h w₂ h₂ k₂) (fun w₂ h₂ k₂ => by rw [hc]; exact next w₂ h₂ k₂)

/-- All but 0 and m only leave. -/
structure Comp (P : Program) (m : Nat) (t : Trace) (gs : Array Goroutine) (q : Nat → Nat) : Prop where
  old : ∀ i g, 0 < i → i ≠ m → gs[i]? = some g → QuitsD P (q i) (Deaf t i) g
  above : ∀ j, gs.size ≤ j → Deaf t j = 0
theorem events_g (g : Nat) (fn : FuncId) (pos : String) (es : Array Event) : ∀ op ∈ MemOp.ofEvents g fn pos es, op.g = g := fun op hop => by obtain ⟨e, _, rfl⟩ := Go.Conc.mem_ofEvents hop; rfl

/-- A leaver slips. -/
theorem slips {m : Nat} {gs : Array Goroutine} {t : Trace} {q : Nat → Nat} {a b g : Goroutine} {i : Nat} {w : World} {sl : Option (Nat × Nat)} (h0 : gs[0]? = some a) (hm : gs[m]? = some b) (hC : Comp P m t gs q)
    (ka : ∀ x x', woken P x x' w a = a) (kb : ∀ x x', woken P x x' w b = b) (hpos : 0 < i) (him : i ≠ m) (hi : gs[i]? = some g) (hg : g.status = .running) :
    ∃ gs' q' fn pos es, runT P (crowd gs w sl) i = (.next (crowd gs' w sl), MemOp.ofEvents i fn pos es) ∧ (∀ e ∈ es, e.mute = true) ∧ gs'[0]? = some a ∧ gs'[m]? = some b ∧ Comp P m (t ++ MemOp.ofEvents i fn pos es) gs' q' ∧ sumTo gs'.size q' < sumTo gs.size q := by
  have hq := hC.old i g hpos him hi
  have hi0 : (i == 0) = false := by simp; omega
  have hlt : i < gs.size := (Array.getElem?_eq_some_iff.1 hi).1
  cases hqi : q i with
  | zero => rw [hqi] at hq; rw [hq.1] at hg; cases hg
  | succ k =>
    rw [hqi] at hq
    rcases hq with ⟨hf, _⟩ | ⟨_, g', es, hmu, hstp, hq'⟩
    · rw [hf] at hg; cases hg
    have hrunT := runT_crowd_go (P := P) (sl := sl) (i := i) hi (by rw [hi0]; exact hstp w)
    have hsz : ((gs.map (woken P g g' w)).setIfInBounds i g').size = gs.size := by simp
    have hsum : sumTo gs.size (upd q i k) + (k + 1) = sumTo gs.size q + k := by
      have := sumTo_upd q k id hlt
      simpa [hqi] using this
    refine ⟨_, upd q i k, _, _, es, hrunT, hmu, ?_, ?_, ⟨fun j x hj hjm hx => ?_, fun j hj => ?_⟩, by rw [hsz]; omega⟩
    · rw [Array.getElem?_setIfInBounds_ne (by omega), Array.getElem?_map, h0]; simp [ka]
    · rw [Array.getElem?_setIfInBounds_ne him, Array.getElem?_map, hm]; simp [kb]
    · by_cases hji : i = j
      · subst hji
        rw [Array.getElem?_setIfInBounds_self_of_lt (by simpa using hlt)] at hx
        obtain rfl := Option.some.inj hx
        rw [upd_same, Deaf_own]
        exact hq'
      · rw [Array.getElem?_setIfInBounds_ne hji, Array.getElem?_map] at hx
        obtain ⟨y, hy, rfl⟩ := Option.map_eq_some_iff.1 hx
        have hqj := hC.old j y hj hjm hy
        rw [woken_quitsD hqj, upd_ne q k (Ne.symm hji), Deaf_other t hji _ (events_g _ _ _ _)]
        exact hqj
    · rw [Deaf_other t (g' := i) (by simp at hj; omega) _ (events_g _ _ _ _)]
      exact hC.above j (by simpa using hj)
/-- One of the two takes a step of its own. -/
theorem Comp.go {m : Nat} {gs : Array Goroutine} {t : Trace} {q : Nat → Nat} (hC : Comp P m t gs q) {j : Nat} (hj : j = 0 ∨ j = m) (hlt : j < gs.size) {g g' : Goroutine} {w' : World} {fn : FuncId} {pos : String} {es : Array Event} : Comp P m (t ++ MemOp.ofEvents j fn pos es) ((gs.map (woken P g g' w')).setIfInBounds j g') q := by
  refine ⟨fun i x hi him hx => ?_, fun i hi => ?_⟩
  · have hne : j ≠ i := by rcases hj with h | h <;> omega
    rw [Array.getElem?_setIfInBounds_ne hne, Array.getElem?_map] at hx
    obtain ⟨y, hy, rfl⟩ := Option.map_eq_some_iff.1 hx
    have hq := hC.old i y hi him hy
    rw [woken_quitsD hq, Deaf_other t hne _ (events_g _ _ _ _)]
    exact hq
  · have hi' : gs.size ≤ i := by simpa using hi
    rw [Deaf_other t (g' := j) (by omega) _ (events_g _ _ _ _)]
    exact hC.above i hi'
/-- The two are set anew; words are said. -/
theorem Comp.set2 {m : Nat} {gs gs' : Array Goroutine} {t u : Trace} {q : Nat → Nat} (hC : Comp P m t gs q) (hs : gs'.size = gs.size) (hg : ∀ i, 0 < i → i ≠ m → gs'[i]? = gs[i]?) (hd : ∀ i, 0 < i → i ≠ m → Deaf (t ++ u) i = Deaf t i) (hm : m < gs.size) : Comp P m (t ++ u) gs' q := by
  refine ⟨fun i x hi him hx => ?_, fun i hi => ?_⟩
  · rw [hd i hi him]; rw [hg i hi him] at hx; exact hC.old i x hi him hx
  · rw [hs] at hi
    rw [hd i (by omega) (by omega)]; exact hC.above i hi
theorem Comp.awake {m : Nat} {gs : Array Goroutine} {t : Trace} {q : Nat → Nat} {a b : Goroutine} (hC : Comp P m t gs q) (h0 : gs[0]? = some a) (hm : gs[m]? = some b) (wa : Conc.awake a) (wb : Conc.awake b) : ∀ g ∈ gs, Conc.awake g := by
  intro g hg
  obtain ⟨i, hi, rfl⟩ := Array.mem_iff_getElem.1 hg
  rcases Nat.eq_zero_or_pos i with rfl | hpos
  · have : gs[0] = a := by simpa [Array.getElem?_eq_getElem hi] using h0
    rw [this]; exact wa
  · by_cases him : i = m
    · subst him
      have : gs[i] = b := by simpa [Array.getElem?_eq_getElem hi] using hm
      rw [this]; exact wb
    · exact awake_of ((hC.old i _ hpos him (Array.getElem?_eq_getElem hi)).status.elim .inl fun x => .inr (.inr x))
theorem deaf_step {t : Trace} {j i : Nat} (h : j ≠ i) (fn : FuncId) (pos : String) (es : Array Event) (u : Trace) (hu : ∀ op ∈ u, Word op) : Deaf (t ++ (MemOp.ofEvents j fn pos es ++ u)) i = Deaf t i := by
  rw [← Array.append_assoc, deaf_words _ _ _ hu, Deaf_other t h _ (events_g _ _ _ _)]

/-- THE CHANNEL IS CLOSED, and goroutine 0 has not seen it. -/
theorem shut_ends (hn : n ≠ 0) {vs : List Value} {g : Goroutine} {w : World} (h : RT P c B tm z (fun g w => Ends P Post g w) vs g w) : vs = [] → ∀ w₁, As c w w₁ → ∀ (gs : Array Goroutine) (sl : Option (Nat × Nat)) (t : Trace) (q : Nat → Nat) (s r : Nat),
    gs[0]? = some g → w₁.heap[c]? = some (.chan 0 #[] true s r tm) → Comp P 0 t gs q → Pair B n t → Shut c n t → EndsRun P Post (crowd gs w₁ sl) t := by
  induction h with
  | @step vs g w hrun x h next ih =>
    intro hvs w₁ hAs gs sl t q s r h0 hc hC hP hS
    generalize hM : sumTo gs.size q = M
    induction M using Nat.strongRecOn generalizing gs sl t q w₁ with
    | _ M ihM =>
      obtain ⟨i, g1, d, sl', hi, hg, hst⟩ := crowd_pick (P := P) (w := w₁) (sl := sl) (hC.awake h0 h0 (awake_of (.inl hrun)) (awake_of (.inl hrun))) ⟨0, g, h0, hrun⟩
      have hAs' := hAs.trans (As.at c w₁ d)
      rcases Nat.eq_zero_or_pos i with rfl | hpos
      · obtain rfl : g1 = g := by rw [h0] at hi; exact (Option.some.inj hi).symm
        have hch : Ch c tm (w₁.at d) := ⟨_, _, _, hc⟩
        obtain ⟨hgo, hr', hes, hcc, _⟩ := h _ hAs' hch
        have hlt : 0 < gs.size := (Array.getElem?_eq_some_iff.1 h0).1
        refine ends_more (hst.trans (runT_crowd_go (P := P) (sl := sl') (i := 0) hi hgo)) ?_
        exact ih _ hAs' hch hvs _ (As.refl c _) _ sl' _ q s r (by simp [hlt]) (hcc.trans hc) (hC.go (.inl rfl) hlt) (hP.own0 hn hes) (hS.app fun op hop he => absurd (he.symm.trans (events_g _ _ _ _ op hop)) hn)
      · obtain ⟨gs', q', fn, pos, es, hr, hmu, h0', _, hC', hlt⟩ := slips (w := w₁.at d) (sl := sl') h0 h0 hC (fun _ _ => woken_run hrun) (fun _ _ => woken_run hrun) hpos (by omega) hi hg
        exact ends_more (hst.trans hr) (ihM _ (by omega) _ hAs' _ sl' _ q' h0' hc hC' (hP.mute (by omega) hmu) (hS.app fun op hop _ => by obtain ⟨e, he, rfl⟩ := Go.Conc.mem_ofEvents hop; exact touch_mute (hmu e he)) rfl)
  | @recv v vs g w hrun x h next ih => intro hvs; cases hvs
  | @last g w hrun x h next =>
    intro _ w₁ hAs gs sl t q s r h0 hc hC hP hS
    generalize hM : sumTo gs.size q = M
    induction M using Nat.strongRecOn generalizing gs sl t q w₁ with
    | _ M ihM =>
      obtain ⟨i, g1, d, sl', hi, hg, hst⟩ := crowd_pick (P := P) (w := w₁) (sl := sl) (hC.awake h0 h0 (awake_of (.inl hrun)) (awake_of (.inl hrun))) ⟨0, g, h0, hrun⟩
      have hAs' := hAs.trans (As.at c w₁ d)
      rcases Nat.eq_zero_or_pos i with rfl | hpos
      · obtain rfl : g1 = g := by rw [h0] at hi; exact (Option.some.inj hi).symm
        have hch : Ch c tm (w₁.at d) := ⟨_, _, _, hc⟩
        obtain ⟨hcm, hes⟩ := h _ hAs' hch
        have hlt : 0 < gs.size := (Array.getElem?_eq_some_iff.1 h0).1
        have hp : partners (gs.setIfInBounds 0 ph) c true = [] := partners_nil fun j x hx => by
          rcases getElem?_stand _ _ _ _ hx with ⟨_, rfl⟩ | ⟨hj, hx'⟩
          · exact offersAt_ph _ _
          · exact offersAt_of_not_blocked (by rcases (hC.old j x (by omega) (by omega) hx').status with h | h <;> rw [h] <;> simp) _ _
        refine ends_more (hst.trans (crowd_recv_closed (P := P) (sl := sl') (i := 0) hi hcm hc hp)) ?_
        rw [← Array.append_assoc, finishComm_recv]
        have hP1 := hP.own0 hn (fn := g1.frame.fn) (pos := g1.frame.place) hes
        have hS1 := hS.app (u := MemOp.ofEvents 0 g1.frame.fn g1.frame.place (x (w₁.at d))) (fun op hop he => absurd (he.symm.trans (events_g _ _ _ _ op hop)) hn)
        have hpast := hP1.done hS1 hn (y := { g := 0, fn := (Conc.core g1).frame.fn, pos := (Conc.core g1).frame.place, act := .recvClosed c }) rfl rfl
        have hE := next _ hAs' hch
        have := hE (gs.setIfInBounds 0 (Conc.served (Conc.core g1) (.tuple #[z, .bool false]))) sl' _ q (w₁.at d).tape (w₁.at d).drawn (by simp [hlt]) ⟨fun j y hj hy => ?_, fun j hj => ?_⟩ hpast
        · exact this
        · rw [Array.getElem?_setIfInBounds_ne (by omega)] at hy
          rw [Array.append_assoc, deaf_step (by omega) _ _ _ _ (fun op hop => by simp at hop; subst hop; trivial)]
          exact hC.old j y hj (by omega) hy
        · have hj' : gs.size ≤ j := by simpa using hj
          rw [Array.append_assoc, deaf_step (by omega) _ _ _ _ (fun op hop => by simp at hop; subst hop; trivial)]
          exact hC.above j hj'
      · obtain ⟨gs', q', fn, pos, es, hr, hmu, h0', _, hC', hlt⟩ := slips (w := w₁.at d) (sl := sl') h0 h0 hC (fun _ _ => woken_run hrun) (fun _ _ => woken_run hrun) hpos (by omega) hi hg
        exact ends_more (hst.trans hr) (ihM _ (by omega) _ hAs' _ sl' _ q' h0' hc hC' (hP.mute (by omega) hmu) (hS.app fun op hop _ => by obtain ⟨e, he, rfl⟩ := Go.Conc.mem_ofEvents hop; exact touch_mute (hmu e he)) rfl)
end
end Go.Goes

-- Pair2
/-
  The open channel: the sender and goroutine 0 meet.
-/
namespace Go.Goes
open Go.Conc
open Go.ConcN (sumTo upd sumTo_upd upd_ne upd_same)
set_option linter.unusedVariables false

section
variable {P : Program} {Post : Value → World → Prop} {c B n : Nat} {tm : Bool} {z : Value} {w0 : World}

variable (P Post c B n tm w0) in
/-- Where the sender stands. -/
inductive SitN : List Value → Goroutine → Prop
  | on {vs : List Value} {b : Goroutine} (h : SD P c B tm w0 vs b) : SitN vs b
  | waits {v : Value} {vs : List Value} {g₂ : Goroutine} {z' : Value} (h : SD P c B tm w0 vs (Conc.served g₂ undef)) : SitN (v :: vs) (parked g₂ #[scase c v z'] .send)

variable (P Post c B n tm w0) in
/-- Wherever the sender stands: the run ends well. -/
def Claim (vs : List Value) (g : Goroutine) (w : World) : Prop :=
  ∀ w₁, As c w w₁ → ∀ b, SitN P c B tm w0 vs b → ∀ (gs : Array Goroutine) (sl : Option (Nat × Nat)) (t : Trace) (q : Nat → Nat) (s r : Nat),
    gs[0]? = some g → gs[n]? = some b → Comp P n t gs q → Pair B n t → Deaf t n = 0 → w₁.heap[c]? = some (.chan 0 #[] false s r tm) → Lo c B w0 w₁ → EndsRun P Post (crowd gs w₁ sl) t

variable (P Post c B n tm z w0) in
/-- One node of goroutine 0's tree, what lies behind it being claimed. -/
inductive Node : List Value → Goroutine → World → Prop
  | step {vs : List Value} {g : Goroutine} {w : World} (x : World → StepTo)
      (h : ∀ w₁, As c w w₁ → Ch c tm w₁ → stepG P true g w₁ = .go (x w₁).g (x w₁).w (x w₁).es ∧ (x w₁).g.status = .running ∧ (∀ e ∈ (x w₁).es, Ev0 B e) ∧ (x w₁).w.heap[c]? = w₁.heap[c]? ∧ Lo c B w₁ (x w₁).w)
      (next : ∀ w₁, As c w w₁ → Ch c tm w₁ → Claim P Post c B n tm w0 vs (x w₁).g (x w₁).w) : Node vs g w
  | recv {v : Value} {vs : List Value} {g : Goroutine} {w : World} (x : World → Array Event)
      (h : ∀ w₁, As c w w₁ → Ch c tm w₁ → stepG P true g w₁ = .comm (core g) #[rcase c z] true (.recv true) w₁ (x w₁) ∧ ∀ e ∈ x w₁, Ev0 B e)
      (next : ∀ w₁, As c w w₁ → Ch c tm w₁ → Claim P Post c B n tm w0 vs (Conc.served (core g) (.tuple #[v, .bool true])) w₁) : Node (v :: vs) g w
  | last {g : Goroutine} {w : World} (x : World → Array Event)
      (h : ∀ w₁, As c w w₁ → Ch c tm w₁ → stepG P true g w₁ = .comm (core g) #[rcase c z] true (.recv true) w₁ (x w₁) ∧ ∀ e ∈ x w₁, Ev0 B e) : Node [] g w

theorem Lo.put {w : World} (h : Lo c B w0 w) (o : Obj) : Lo c B w0 { w with heap := w.heap.setIfInBounds c o } := h.as (As.put c w o)
theorem not_blocked_others {gs : Array Goroutine} {t : Trace} {q : Nat → Nat} (hC : Comp P n t gs q) {j : Nat} {x : Goroutine} (hj : j ≠ 0) (hjn : j ≠ n) (hx : gs[j]? = some x) : x.status ≠ .blocked := by
  rcases (hC.old j x (by omega) hjn hx).status with h | h <;> rw [h] <;> simp

/-- Goroutine 0 waits; the sender is on its way. -/
theorem claim_waits (hn : n ≠ 0) {vs : List Value} {g : Goroutine} {w : World} (hR : RT P c B tm z (fun g w => Ends P Post g w) vs g w)
    (next : ∀ v vs', vs = v :: vs' → ∀ w₁, As c w w₁ → Ch c tm w₁ → Claim P Post c B n tm w0 vs' (Conc.served (core g) (.tuple #[v, .bool true])) w₁)
    {b : Goroutine} (hB : SD P c B tm w0 vs b) : ∀ w₁, As c w w₁ → ∀ (gs : Array Goroutine) (sl : Option (Nat × Nat)) (t : Trace) (q : Nat → Nat) (s r : Nat),
    gs[0]? = some (parked (core g) #[rcase c z] (.recv true)) → gs[n]? = some b → Comp P n t gs q → Pair B n t → Deaf t n = 0 → w₁.heap[c]? = some (.chan 0 #[] false s r tm) → Lo c B w0 w₁ → EndsRun P Post (crowd gs w₁ sl) t := by
  induction hB with
  | @step vs b hrun xg y es h nxt ih =>
    intro w₁ hAs gs sl t q s r h0 hgn hC hP hd hc hL
    generalize hM : sumTo gs.size q = M
    induction M using Nat.strongRecOn generalizing gs sl t q w₁ with
    | _ M ihM =>
      obtain ⟨i, g1, d, sl', hi, hg, hst⟩ := crowd_pick (P := P) (w := w₁) (sl := sl) (hC.awake h0 hgn (awake_of (.inr (.inl rfl))) (awake_of (.inl hrun))) ⟨n, b, hgn, hrun⟩
      have hAs' := hAs.trans (As.at c w₁ d)
      rcases Nat.eq_zero_or_pos i with rfl | hpos
      · rw [h0] at hi; obtain rfl := Option.some.inj hi; simp [parked] at hg
      · by_cases hin : i = n
        · subst hin
          obtain rfl : g1 = b := by rw [hgn] at hi; exact (Option.some.inj hi).symm
          have hi0 : (i == 0) = false := by simp; omega
          obtain ⟨hgo, hes⟩ := h (w₁.at d) hL ⟨_, _, _, hc⟩
          have hlt : i < gs.size := (Array.getElem?_eq_some_iff.1 hgn).1
          have hrunT := runT_crowd_go (P := P) (sl := sl') (i := i) hgn (by rw [hi0]; exact hgo)
          refine ends_more (hst.trans hrunT) ?_
          refine ih (w₁.at d) hL ⟨_, _, _, hc⟩ hR next _ (hAs'.trans (As.at c _ _)) _ sl' _ q s r ?_ (by simp [hlt]) (hC.go (.inr rfl) hlt) (hP.ownN hn hes) ?_ hc hL
          · rw [Array.getElem?_setIfInBounds_ne (by omega), Array.getElem?_map, h0]
            exact congrArg some (woken_recv_open _ _ hc)
          · rw [Deaf_own, deafBehind_still (fun e he => (hes e he).1)]; exact hd
        · obtain ⟨gs', q', fn, pos, es', hr, hmu, h0', hgn', hC', hlt⟩ := slips (w := w₁.at d) (sl := sl') h0 hgn hC (fun _ _ => woken_recv_open _ _ hc) (fun _ _ => woken_run hrun) hpos hin hi hg
          exact ends_more (hst.trans hr) (ihM _ (by omega) _ hAs' _ sl' _ q' h0' hgn' hC' (hP.mute (by omega) hmu) (by rw [Deaf_other t hin _ (events_g _ _ _ _)]; exact hd) hc hL rfl)
  | @send v vs b hrun g₂ z' es h nxt ih =>
    intro w₁ hAs gs sl t q s r h0 hgn hC hP hd hc hL
    generalize hM : sumTo gs.size q = M
    induction M using Nat.strongRecOn generalizing gs sl t q w₁ with
    | _ M ihM =>
      obtain ⟨i, g1, d, sl', hi, hg, hst⟩ := crowd_pick (P := P) (w := w₁) (sl := sl) (hC.awake h0 hgn (awake_of (.inr (.inl rfl))) (awake_of (.inl hrun))) ⟨n, b, hgn, hrun⟩
      have hAs' := hAs.trans (As.at c w₁ d)
      rcases Nat.eq_zero_or_pos i with rfl | hpos
      · rw [h0] at hi; obtain rfl := Option.some.inj hi; simp [parked] at hg
      · by_cases hin : i = n
        · subst hin
          obtain rfl : g1 = b := by rw [hgn] at hi; exact (Option.some.inj hi).symm
          have hi0 : (i == 0) = false := by simp; omega
          obtain ⟨hco, hes⟩ := h (w₁.at d) hL ⟨_, _, _, hc⟩
          have hlt : i < gs.size := (Array.getElem?_eq_some_iff.1 hgn).1
          have hlt0 : 0 < gs.size := by omega
          have hp : partners (gs.setIfInBounds i ph) c false = [(0, 0)] := by
            rw [partners_one (j := 0) (g := parked (core g) #[rcase c z] (.recv true)) (stand_get (by omega) h0) (fun k y hk hy => ?_), offersAt_parked_recv]
            · simp
            · rcases getElem?_stand _ _ _ _ hy with ⟨_, rfl⟩ | ⟨hj, hy'⟩
              · exact offersAt_ph _ _
              · exact offersAt_of_not_blocked (not_blocked_others hC hk hj hy') _ _
          refine ends_more (hst.trans (crowd_send_meets (P := P) (sl := sl') (i := i) (j := 0) hgn (by rw [hi0]; exact hco) (show (w₁.at d).heap[c]? = _ from hc) (by omega) h0 hp)) ?_
          rw [← Array.append_assoc, finishComm_recv, finishComm_send]
          have hu : ∀ op ∈ #[({ g := i, fn := g₂.frame.fn, pos := g₂.frame.place, act := .send c s } : MemOp), { g := 0, fn := (core g).frame.fn, pos := (core g).frame.place, act := .recv c r 0 }, { g := i, fn := g₂.frame.fn, pos := g₂.frame.place, act := .sendDone c s }, { g := 0, fn := (core g).frame.fn, pos := (core g).frame.place, act := .recvDone c r }], Word op := by
            intro op hop; simp at hop; rcases hop with rfl | rfl | rfl | rfl <;> trivial
          refine next v vs rfl _ (hAs'.trans (As.put c _ _)) ⟨_, _, _, heap_put hc⟩ _ (As.refl c _) (Conc.served g₂ undef) (.on nxt) _ sl' _ q (s + 1) (r + 1) ?_ ?_ ?_ ((hP.ownN hn hes).words hu) ?_ (heap_put hc) (Lo.put hL _)
          · rw [Array.getElem?_setIfInBounds_ne (by omega), Array.getElem?_setIfInBounds_self_of_lt hlt0]; rfl
          · rw [Array.getElem?_setIfInBounds_self_of_lt (by simpa using hlt)]
          · rw [Array.append_assoc]
            refine hC.set2 (by simp) (fun j hj hjn => ?_) (fun j hj hjn => deaf_step (by omega) _ _ _ _ hu) hlt
            rw [Array.getElem?_setIfInBounds_ne (by omega), Array.getElem?_setIfInBounds_ne (by omega)]
          · rw [deaf_words _ _ _ hu, Deaf_own, deafBehind_still (fun e he => (hes e he).1)]; exact hd
        · obtain ⟨gs', q', fn, pos, es', hr, hmu, h0', hgn', hC', hlt⟩ := slips (w := w₁.at d) (sl := sl') h0 hgn hC (fun _ _ => woken_recv_open _ _ hc) (fun _ _ => woken_run hrun) hpos hin hi hg
          exact ends_more (hst.trans hr) (ihM _ (by omega) _ hAs' _ sl' _ q' h0' hgn' hC' (hP.mute (by omega) hmu) (by rw [Deaf_other t hin _ (events_g _ _ _ _)]; exact hd) hc hL rfl)
  | @close b hrun hwake g₂ es k h hq =>
    intro w₁ hAs gs sl t q s r h0 hgn hC hP hd hc hL
    generalize hM : sumTo gs.size q = M
    induction M using Nat.strongRecOn generalizing gs sl t q w₁ with
    | _ M ihM =>
      obtain ⟨i, g1, d, sl', hi, hg, hst⟩ := crowd_pick (P := P) (w := w₁) (sl := sl) (hC.awake h0 hgn (awake_of (.inr (.inl rfl))) (awake_of (.inl hrun))) ⟨n, b, hgn, hrun⟩
      have hAs' := hAs.trans (As.at c w₁ d)
      rcases Nat.eq_zero_or_pos i with rfl | hpos
      · rw [h0] at hi; obtain rfl := Option.some.inj hi; simp [parked] at hg
      · by_cases hin : i = n
        · subst hin
          obtain rfl : g1 = b := by rw [hgn] at hi; exact (Option.some.inj hi).symm
          have hi0 : (i == 0) = false := by simp; omega
          obtain ⟨hgo, hes⟩ := h (w₁.at d) s r tm hL hc
          have hlt : i < gs.size := (Array.getElem?_eq_some_iff.1 hgn).1
          have hrunT := runT_crowd_go (P := P) (sl := sl') (i := i) hgn (by rw [hi0]; exact hgo)
          have hc2 : ((w₁.at d).shut c s r tm).heap[c]? = some (.chan 0 #[] true s r tm) := heap_put hc
          have hwk : ∀ o, woken P g1 g₂ ((w₁.at d).shut c s r tm) o = o.again ((w₁.at d).shut c s r tm) := by
            intro o; unfold Go.Conc.woken; rcases hq.status with h | h <;> simp [hwake, h]
          refine ends_more (hst.trans hrunT) ?_
          rw [ofEvents_push, Array.push_eq_append, ← Array.append_assoc]
          have hw : ∀ op ∈ #[({ g := i, fn := g1.frame.fn, pos := g1.frame.place, act := .ofEvent ⟨.obj c, true, true⟩ } : MemOp)], Word op := by intro op hop; simp at hop; subst hop; trivial
          have hP1 := hP.ownN hn (fn := g1.frame.fn) (pos := g1.frame.place) hes
          have hd1 : Deaf (t ++ MemOp.ofEvents i g1.frame.fn g1.frame.place (es (w₁.at d))) i = 0 := by rw [Deaf_own, deafBehind_still (fun e he => (hes e he).1)]; exact hd
          refine shut_ends hn (hR.core (g' := { parked (core g) #[rcase c z] (.recv true) with status := .running }) rfl rfl) rfl _ (hAs'.trans (As.put c _ _)) _ sl' _ (upd q i k) s r ?_ hc2 ⟨fun j y hj hjm hy => ?_, fun j hj => ?_⟩ (hP1.words hw) (Shut.new hd1 rfl rfl)
          · rw [Array.getElem?_setIfInBounds_ne (by omega), Array.getElem?_map, h0]
            exact congrArg some ((hwk _).trans (again_recv_closed hc2))
          · by_cases hji : i = j
            · subst hji
              rw [Array.getElem?_setIfInBounds_self_of_lt (by simpa using hlt)] at hy
              obtain rfl := Option.some.inj hy
              rw [upd_same, deaf_words _ _ _ hw, hd1]
              exact QuitsD.of_quitsIn hq
            · rw [Array.getElem?_setIfInBounds_ne hji, Array.getElem?_map] at hy
              obtain ⟨y', hy', rfl⟩ := Option.map_eq_some_iff.1 hy
              have hqj := hC.old j y' hj (Ne.symm hji) hy'
              rw [woken_quitsD hqj, upd_ne q k (Ne.symm hji), deaf_words _ _ _ hw, Deaf_other t hji _ (events_g _ _ _ _)]
              exact hqj
          · have hj' : gs.size ≤ j := by simpa using hj
            rw [deaf_words _ _ _ hw, Deaf_other t (by omega) _ (events_g _ _ _ _)]
            exact hC.above j hj'
        · obtain ⟨gs', q', fn, pos, es', hr, hmu, h0', hgn', hC', hlt⟩ := slips (w := w₁.at d) (sl := sl') h0 hgn hC (fun _ _ => woken_recv_open _ _ hc) (fun _ _ => woken_run hrun) hpos hin hi hg
          exact ends_more (hst.trans hr) (ihM _ (by omega) _ hAs' _ sl' _ q' h0' hgn' hC' (hP.mute (by omega) hmu) (by rw [Deaf_other t hin _ (events_g _ _ _ _)]; exact hd) hc hL rfl)

/-- Goroutine 0 is on its way; the sender waits. -/
theorem claim_sender_waits (hn : n ≠ 0) {v : Value} {vs : List Value} {g : Goroutine} {w : World} (hR : RT P c B tm z (fun g w => Ends P Post g w) (v :: vs) g w) (hN : Node P Post c B n tm z w0 (v :: vs) g w)
    {g₂ : Goroutine} {z' : Value} (hB : SD P c B tm w0 vs (Conc.served g₂ undef)) : ∀ w₁, As c w w₁ → ∀ (gs : Array Goroutine) (sl : Option (Nat × Nat)) (t : Trace) (q : Nat → Nat) (s r : Nat),
    gs[0]? = some g → gs[n]? = some (parked g₂ #[scase c v z'] .send) → Comp P n t gs q → Pair B n t → Deaf t n = 0 → w₁.heap[c]? = some (.chan 0 #[] false s r tm) → Lo c B w0 w₁ → EndsRun P Post (crowd gs w₁ sl) t := by
  have hrun := hR.running
  intro w₁ hAs gs sl t q s r h0 hgn hC hP hd hc hL
  generalize hM : sumTo gs.size q = M
  induction M using Nat.strongRecOn generalizing gs sl t q w₁ with
  | _ M ihM =>
    obtain ⟨i, g1, d, sl', hi, hg, hst⟩ := crowd_pick (P := P) (w := w₁) (sl := sl) (hC.awake h0 hgn (awake_of (.inl hrun)) (awake_of (.inr (.inl rfl)))) ⟨0, g, h0, hrun⟩
    have hAs' := hAs.trans (As.at c w₁ d)
    have hc' : (w₁.at d).heap[c]? = some (.chan 0 #[] false s r tm) := hc
    have hlt0 : 0 < gs.size := (Array.getElem?_eq_some_iff.1 h0).1
    have hltn : n < gs.size := (Array.getElem?_eq_some_iff.1 hgn).1
    rcases Nat.eq_zero_or_pos i with rfl | hpos
    · obtain rfl : g1 = g := by rw [h0] at hi; exact (Option.some.inj hi).symm
      cases hN with
      | step x h next =>
        obtain ⟨hgo, hr', hes, hcc, hlo⟩ := h _ hAs' ⟨_, _, _, hc'⟩
        refine ends_more (hst.trans (runT_crowd_go (P := P) (sl := sl') (i := 0) hi hgo)) ?_
        have hc2 := hcc.trans hc'
        refine next _ hAs' ⟨_, _, _, hc'⟩ _ (As.refl c _) _ (.waits (z' := z') hB) _ sl' _ q s r (by simp [hlt0]) ?_ (hC.go (.inl rfl) hlt0) (hP.own0 hn hes) ?_ hc2 (fun k hk hkc => (hlo k hk hkc).trans (hL k hk hkc))
        · rw [Array.getElem?_setIfInBounds_ne (by omega), Array.getElem?_map, hgn]
          exact congrArg some (woken_send_open _ _ hc2)
        · rw [Deaf_other t (by omega) _ (events_g _ _ _ _)]; exact hd
      | recv x h next =>
        obtain ⟨hcm, hes⟩ := h _ hAs' ⟨_, _, _, hc'⟩
        have hp : partners (gs.setIfInBounds 0 ph) c true = [(n, 0)] := by
          rw [partners_one (j := n) (g := parked g₂ #[scase c v z'] .send) (stand_get hn hgn) (fun k y hk hy => ?_), offersAt_parked_send]
          · simp
          · rcases getElem?_stand _ _ _ _ hy with ⟨_, rfl⟩ | ⟨hj, hy'⟩
            · exact offersAt_ph _ _
            · exact offersAt_of_not_blocked (not_blocked_others hC hj hk hy') _ _
        refine ends_more (hst.trans (crowd_recv_meets (P := P) (sl := sl') (i := 0) (j := n) h0 hcm hc' hn hgn hp)) ?_
        rw [← Array.append_assoc, finishComm_recv, finishComm_send]
        have hu : ∀ op ∈ #[({ g := n, fn := g₂.frame.fn, pos := g₂.frame.place, act := .send c s } : MemOp), { g := 0, fn := (core g1).frame.fn, pos := (core g1).frame.place, act := .recv c r 0 }, { g := n, fn := g₂.frame.fn, pos := g₂.frame.place, act := .sendDone c s }, { g := 0, fn := (core g1).frame.fn, pos := (core g1).frame.place, act := .recvDone c r }], Word op := by
          intro op hop; simp at hop; rcases hop with rfl | rfl | rfl | rfl <;> trivial
        refine next _ (hAs'.trans (As.put c _ _)) ⟨_, _, _, heap_put hc'⟩ _ (As.refl c _) (Conc.served g₂ undef) (.on hB) _ sl' _ q (s + 1) (r + 1) ?_ ?_ ?_ ((hP.own0 hn hes).words hu) ?_ (heap_put hc') (Lo.put hL _)
        · rw [Array.getElem?_setIfInBounds_self_of_lt (by simpa using hlt0)]; rfl
        · rw [Array.getElem?_setIfInBounds_ne (Ne.symm hn), Array.getElem?_setIfInBounds_self_of_lt hltn]
        · rw [Array.append_assoc]
          refine hC.set2 (by simp) (fun j hj hjn => ?_) (fun j hj hjn => deaf_step (by omega) _ _ _ _ hu) hltn
          rw [Array.getElem?_setIfInBounds_ne (by omega), Array.getElem?_setIfInBounds_ne (by omega)]
        · rw [deaf_words _ _ _ hu, Deaf_other t (by omega) _ (events_g _ _ _ _)]; exact hd
    · by_cases hin : i = n
      · subst hin; rw [hgn] at hi; obtain rfl := Option.some.inj hi; simp [parked] at hg
      · obtain ⟨gs', q', fn, pos, es', hr, hmu, h0', hgn', hC', hlt⟩ := slips (w := w₁.at d) (sl := sl') h0 hgn hC (fun _ _ => woken_run hrun) (fun _ _ => woken_send_open _ _ hc) hpos hin hi hg
        exact ends_more (hst.trans hr) (ihM _ (by omega) _ hAs' _ sl' _ q' h0' hgn' hC' (hP.mute (by omega) hmu) (by rw [Deaf_other t hin _ (events_g _ _ _ _)]; exact hd) hc hL rfl)

/-- Both are on their way: what a step of goroutine 0's does. -/
theorem claim_move0 (hn : n ≠ 0) {vs : List Value} {g : Goroutine} {w : World} (hR : RT P c B tm z (fun g w => Ends P Post g w) vs g w) (hN : Node P Post c B n tm z w0 vs g w) {b : Goroutine} (hB : SD P c B tm w0 vs b)
    {w₁ : World} (hAs : As c w w₁) {gs : Array Goroutine} {sl : Option (Nat × Nat)} {t : Trace} {q : Nat → Nat} {s r : Nat} (h0 : gs[0]? = some g) (hgn : gs[n]? = some b) (hC : Comp P n t gs q) (hP : Pair B n t) (hd : Deaf t n = 0) (hc : w₁.heap[c]? = some (.chan 0 #[] false s r tm)) (hL : Lo c B w0 w₁) :
    ∃ m' ops, runT P (crowd gs w₁ sl) 0 = (.next m', ops) ∧ EndsRun P Post m' (t ++ ops) := by
  have hlt0 : 0 < gs.size := (Array.getElem?_eq_some_iff.1 h0).1
  have hltn : n < gs.size := (Array.getElem?_eq_some_iff.1 hgn).1
  have hbr := hB.running
  have waits : ∀ (x : World → Array Event), (∀ w₁, As c w w₁ → Ch c tm w₁ → stepG P true g w₁ = .comm (core g) #[rcase c z] true (.recv true) w₁ (x w₁) ∧ ∀ e ∈ x w₁, Ev0 B e) → (∀ v vs', vs = v :: vs' → ∀ w₁, As c w w₁ → Ch c tm w₁ → Claim P Post c B n tm w0 vs' (Conc.served (core g) (.tuple #[v, .bool true])) w₁) →
      ∃ m' ops, runT P (crowd gs w₁ sl) 0 = (.next m', ops) ∧ EndsRun P Post m' (t ++ ops) := fun x h next => by
    obtain ⟨hcm, hes⟩ := h _ hAs ⟨_, _, _, hc⟩
    have hp : partners (gs.setIfInBounds 0 ph) c true = [] := partners_nil fun j x hx => by
      rcases getElem?_stand _ _ _ _ hx with ⟨_, rfl⟩ | ⟨hj, hx'⟩
      · exact offersAt_ph _ _
      · by_cases hjn : j = n
        · subst hjn; rw [hgn] at hx'; obtain rfl := Option.some.inj hx'
          exact offersAt_of_not_blocked (by rw [hbr]; simp) _ _
        · exact offersAt_of_not_blocked (not_blocked_others hC hj hjn hx') _ _
    refine ⟨_, _, crowd_waits (P := P) (sl := sl) (i := 0) h0 hcm (fun cc hcc => by simp at hcc; subst hcc; exact ways_recv_none hc hp), ?_⟩
    refine claim_waits hn hR next hB _ hAs _ sl _ q s r (by simp [hlt0]) ?_ ?_ (hP.own0 hn hes) ?_ hc hL
    · rw [Array.getElem?_setIfInBounds_ne (Ne.symm hn)]; exact hgn
    · refine hC.set2 (by simp) (fun j hj hjn => ?_) (fun j hj hjn => Deaf_other t (by omega) _ (events_g _ _ _ _)) hltn
      rw [Array.getElem?_setIfInBounds_ne (by omega)]
    · rw [Deaf_other t (by omega) _ (events_g _ _ _ _)]; exact hd
  cases hN with
  | step x h next =>
    obtain ⟨hgo, hr', hes, hcc, hlo⟩ := h _ hAs ⟨_, _, _, hc⟩
    refine ⟨_, _, runT_crowd_go (P := P) (sl := sl) (i := 0) h0 hgo, ?_⟩
    refine next _ hAs ⟨_, _, _, hc⟩ _ (As.refl c _) _ (.on hB) _ sl _ q s r (by simp [hlt0]) ?_ (hC.go (.inl rfl) hlt0) (hP.own0 hn hes) ?_ (hcc.trans hc) (fun k hk hkc => (hlo k hk hkc).trans (hL k hk hkc))
    · rw [Array.getElem?_setIfInBounds_ne (Ne.symm hn), Array.getElem?_map, hgn]
      exact congrArg some (woken_run hbr)
    · rw [Deaf_other t (by omega) _ (events_g _ _ _ _)]; exact hd
  | recv x h next => exact waits x h (fun v' vs' e => by cases e; exact next)
  | last x h => exact waits x h (fun v' vs' e => by cases e)

/-- **Both are on their way.** -/
theorem claim_both (hn : n ≠ 0) {vs : List Value} {g : Goroutine} {w : World} (hR : RT P c B tm z (fun g w => Ends P Post g w) vs g w) (hN : Node P Post c B n tm z w0 vs g w) {b : Goroutine} (hB : SD P c B tm w0 vs b) :
    ∀ w₁, As c w w₁ → ∀ (gs : Array Goroutine) (sl : Option (Nat × Nat)) (t : Trace) (q : Nat → Nat) (s r : Nat),
    gs[0]? = some g → gs[n]? = some b → Comp P n t gs q → Pair B n t → Deaf t n = 0 → w₁.heap[c]? = some (.chan 0 #[] false s r tm) → Lo c B w0 w₁ → EndsRun P Post (crowd gs w₁ sl) t := by
  have hrun := hR.running
  induction hB with
  | @step vs b hbr xg y es h nxt ih =>
    intro w₁ hAs gs sl t q s r h0 hgn hC hP hd hc hL
    generalize hM : sumTo gs.size q = M
    induction M using Nat.strongRecOn generalizing gs sl t q w₁ with
    | _ M ihM =>
      obtain ⟨i, g1, d, sl', hi, hg, hst⟩ := crowd_pick (P := P) (w := w₁) (sl := sl) (hC.awake h0 hgn (awake_of (.inl hrun)) (awake_of (.inl hbr))) ⟨0, g, h0, hrun⟩
      have hAs' := hAs.trans (As.at c w₁ d)
      rcases Nat.eq_zero_or_pos i with rfl | hpos
      · obtain ⟨m', ops, h1, h2⟩ := claim_move0 (sl := sl') hn hR hN (.step hbr xg y es h nxt) hAs' h0 hgn hC hP hd (show (w₁.at d).heap[c]? = _ from hc) hL
        exact ends_more (hst.trans h1) h2
      · by_cases hin : i = n
        · subst hin
          obtain rfl : g1 = b := by rw [hgn] at hi; exact (Option.some.inj hi).symm
          have hi0 : (i == 0) = false := by simp; omega
          obtain ⟨hgo, hes⟩ := h (w₁.at d) hL ⟨_, _, _, hc⟩
          have hlt : i < gs.size := (Array.getElem?_eq_some_iff.1 hgn).1
          have hrunT := runT_crowd_go (P := P) (sl := sl') (i := i) hgn (by rw [hi0]; exact hgo)
          refine ends_more (hst.trans hrunT) ?_
          refine ih (w₁.at d) hL ⟨_, _, _, hc⟩ hR hN _ (hAs'.trans (As.at c _ _)) _ sl' _ q s r ?_ (by simp [hlt]) (hC.go (.inr rfl) hlt) (hP.ownN hn hes) ?_ hc hL
          · rw [Array.getElem?_setIfInBounds_ne (by omega), Array.getElem?_map, h0]
            exact congrArg some (woken_run hrun)
          · rw [Deaf_own, deafBehind_still (fun e he => (hes e he).1)]; exact hd
        · obtain ⟨gs', q', fn, pos, es', hr, hmu, h0', hgn', hC', hlt⟩ := slips (w := w₁.at d) (sl := sl') h0 hgn hC (fun _ _ => woken_run hrun) (fun _ _ => woken_run hbr) hpos hin hi hg
          exact ends_more (hst.trans hr) (ihM _ (by omega) _ hAs' _ sl' _ q' h0' hgn' hC' (hP.mute (by omega) hmu) (by rw [Deaf_other t hin _ (events_g _ _ _ _)]; exact hd) hc hL rfl)
  | @send v vs b hbr g₂ z' es h nxt ih =>
    intro w₁ hAs gs sl t q s r h0 hgn hC hP hd hc hL
    generalize hM : sumTo gs.size q = M
    induction M using Nat.strongRecOn generalizing gs sl t q w₁ with
    | _ M ihM =>
      obtain ⟨i, g1, d, sl', hi, hg, hst⟩ := crowd_pick (P := P) (w := w₁) (sl := sl) (hC.awake h0 hgn (awake_of (.inl hrun)) (awake_of (.inl hbr))) ⟨0, g, h0, hrun⟩
      have hAs' := hAs.trans (As.at c w₁ d)
      have hc' : (w₁.at d).heap[c]? = some (.chan 0 #[] false s r tm) := hc
      rcases Nat.eq_zero_or_pos i with rfl | hpos
      · obtain ⟨m', ops, h1, h2⟩ := claim_move0 (sl := sl') hn hR hN (.send hbr g₂ z' es h nxt) hAs' h0 hgn hC hP hd hc' hL
        exact ends_more (hst.trans h1) h2
      · by_cases hin : i = n
        · subst hin
          obtain rfl : g1 = b := by rw [hgn] at hi; exact (Option.some.inj hi).symm
          have hi0 : (i == 0) = false := by simp; omega
          obtain ⟨hco, hes⟩ := h (w₁.at d) hL ⟨_, _, _, hc⟩
          have hlt : i < gs.size := (Array.getElem?_eq_some_iff.1 hgn).1
          have hp : partners (gs.setIfInBounds i ph) c false = [] := partners_nil fun j x hx => by
            rcases getElem?_stand _ _ _ _ hx with ⟨_, rfl⟩ | ⟨hj, hx'⟩
            · exact offersAt_ph _ _
            · by_cases hj0 : j = 0
              · subst hj0; rw [h0] at hx'; obtain rfl := Option.some.inj hx'
                exact offersAt_of_not_blocked (by rw [hrun]; simp) _ _
              · exact offersAt_of_not_blocked (not_blocked_others hC hj0 hj hx') _ _
          refine ends_more (hst.trans (crowd_waits (P := P) (sl := sl') (i := i) hgn (by rw [hi0]; exact hco) (fun cc hcc => by simp at hcc; subst hcc; exact ways_send_none hc' (Nat.zero_le _) hp))) ?_
          refine claim_sender_waits (z' := z') hn hR hN nxt _ hAs' _ sl' _ q s r ?_ (by simp [hlt]) ?_ (hP.ownN hn hes) ?_ hc' hL
          · rw [Array.getElem?_setIfInBounds_ne (by omega)]; exact h0
          · refine hC.set2 (by simp) (fun j hj hjn => ?_) (fun j hj hjn => Deaf_other t (by omega) _ (events_g _ _ _ _)) hlt
            rw [Array.getElem?_setIfInBounds_ne (by omega)]
          · rw [Deaf_own, deafBehind_still (fun e he => (hes e he).1)]; exact hd
        · obtain ⟨gs', q', fn, pos, es', hr, hmu, h0', hgn', hC', hlt⟩ := slips (w := w₁.at d) (sl := sl') h0 hgn hC (fun _ _ => woken_run hrun) (fun _ _ => woken_run hbr) hpos hin hi hg
          exact ends_more (hst.trans hr) (ihM _ (by omega) _ hAs' _ sl' _ q' h0' hgn' hC' (hP.mute (by omega) hmu) (by rw [Deaf_other t hin _ (events_g _ _ _ _)]; exact hd) hc hL rfl)
  | @close b hbr hwake g₂ es k h hq =>
    intro w₁ hAs gs sl t q s r h0 hgn hC hP hd hc hL
    generalize hM : sumTo gs.size q = M
    induction M using Nat.strongRecOn generalizing gs sl t q w₁ with
    | _ M ihM =>
      obtain ⟨i, g1, d, sl', hi, hg, hst⟩ := crowd_pick (P := P) (w := w₁) (sl := sl) (hC.awake h0 hgn (awake_of (.inl hrun)) (awake_of (.inl hbr))) ⟨0, g, h0, hrun⟩
      have hAs' := hAs.trans (As.at c w₁ d)
      have hc' : (w₁.at d).heap[c]? = some (.chan 0 #[] false s r tm) := hc
      rcases Nat.eq_zero_or_pos i with rfl | hpos
      · obtain ⟨m', ops, h1, h2⟩ := claim_move0 (sl := sl') hn hR hN (.close hbr hwake g₂ es k h hq) hAs' h0 hgn hC hP hd hc' hL
        exact ends_more (hst.trans h1) h2
      · by_cases hin : i = n
        · subst hin
          obtain rfl : g1 = b := by rw [hgn] at hi; exact (Option.some.inj hi).symm
          have hi0 : (i == 0) = false := by simp; omega
          obtain ⟨hgo, hes⟩ := h (w₁.at d) s r tm hL hc
          have hlt : i < gs.size := (Array.getElem?_eq_some_iff.1 hgn).1
          have hrunT := runT_crowd_go (P := P) (sl := sl') (i := i) hgn (by rw [hi0]; exact hgo)
          have hc2 : ((w₁.at d).shut c s r tm).heap[c]? = some (.chan 0 #[] true s r tm) := heap_put hc
          refine ends_more (hst.trans hrunT) ?_
          rw [ofEvents_push, Array.push_eq_append, ← Array.append_assoc]
          have hw : ∀ op ∈ #[({ g := i, fn := g1.frame.fn, pos := g1.frame.place, act := .ofEvent ⟨.obj c, true, true⟩ } : MemOp)], Word op := by intro op hop; simp at hop; subst hop; trivial
          have hP1 := hP.ownN hn (fn := g1.frame.fn) (pos := g1.frame.place) hes
          have hd1 : Deaf (t ++ MemOp.ofEvents i g1.frame.fn g1.frame.place (es (w₁.at d))) i = 0 := by rw [Deaf_own, deafBehind_still (fun e he => (hes e he).1)]; exact hd
          refine shut_ends hn hR rfl _ (hAs'.trans (As.put c _ _)) _ sl' _ (upd q i k) s r ?_ hc2 ⟨fun j y hj hjm hy => ?_, fun j hj => ?_⟩ (hP1.words hw) (Shut.new hd1 rfl rfl)
          · rw [Array.getElem?_setIfInBounds_ne (by omega), Array.getElem?_map, h0]
            exact congrArg some (woken_run hrun)
          · by_cases hji : i = j
            · subst hji
              rw [Array.getElem?_setIfInBounds_self_of_lt (by simpa using hlt)] at hy
              obtain rfl := Option.some.inj hy
              rw [upd_same, deaf_words _ _ _ hw, hd1]
              exact QuitsD.of_quitsIn hq
            · rw [Array.getElem?_setIfInBounds_ne hji, Array.getElem?_map] at hy
              obtain ⟨y', hy', rfl⟩ := Option.map_eq_some_iff.1 hy
              have hqj := hC.old j y' hj (Ne.symm hji) hy'
              rw [woken_quitsD hqj, upd_ne q k (Ne.symm hji), deaf_words _ _ _ hw, Deaf_other t hji _ (events_g _ _ _ _)]
              exact hqj
          · have hj' : gs.size ≤ j := by simpa using hj
            rw [deaf_words _ _ _ hw, Deaf_other t (by omega) _ (events_g _ _ _ _)]
            exact hC.above j hj'
        · obtain ⟨gs', q', fn, pos, es', hr, hmu, h0', hgn', hC', hlt⟩ := slips (w := w₁.at d) (sl := sl') h0 hgn hC (fun _ _ => woken_run hrun) (fun _ _ => woken_run hbr) hpos hin hi hg
          exact ends_more (hst.trans hr) (ihM _ (by omega) _ hAs' _ sl' _ q' h0' hgn' hC' (hP.mute (by omega) hmu) (by rw [Deaf_other t hin _ (events_g _ _ _ _)]; exact hd) hc hL rfl)

theorem claim_node (hn : n ≠ 0) {vs : List Value} {g : Goroutine} {w : World} (hR : RT P c B tm z (fun g w => Ends P Post g w) vs g w) (hN : Node P Post c B n tm z w0 vs g w) : Claim P Post c B n tm w0 vs g w := by
  intro w₁ hAs b hB
  cases hB with
  | on h => exact claim_both hn hR hN h w₁ hAs
  | waits h => exact claim_sender_waits hn hR hN h w₁ hAs

/-- **A SENDER AND A RANGING RECEIVER, BESIDE LEAVERS: THE RUN ENDS WELL.** -/
theorem pair_ends (hn : n ≠ 0) {vs : List Value} {g : Goroutine} {w : World} (hR : RT P c B tm z (fun g w => Ends P Post g w) vs g w) : Claim P Post c B n tm w0 vs g w := by
  induction hR with
  | step hrun x h next ih => exact claim_node hn (.step hrun x h next) (.step x h ih)
  | recv hrun x h next ih => exact claim_node hn (.recv hrun x h next) (.recv x h ih)
  | last hrun x h next => exact claim_node hn (.last hrun x h next) (.last x h)

/-- **The go statement.** -/
theorem ends_go {g g' child : Goroutine} {w : World} {vs : List Value} (hrun : g.status = .running) {es : Array Event} (hes : ∀ e ∈ es, Tame e)
    (h : ∀ τ d, stepG P true g (w.re τ d) = .spawn g' child (w.re τ d) es)
    {s r : Nat} (hc : w.heap[c]? = some (.chan 0 #[] false s r tm)) (hR : RT P c B tm z (fun g w => Ends P Post g w) vs g' w) (hS : SD P c B tm w vs child) : Ends P Post g w := by
  intro gs sl t q τ d h0 hL hP
  generalize hM : sumTo gs.size q = M
  induction M using Nat.strongRecOn generalizing gs sl t q d with
  | _ M ih =>
    obtain ⟨i, g1, d1, sl', hi, hg, hst⟩ := crowd_pick (P := P) (w := w.re τ d) (sl := sl) (Goes.all_awake h0 hrun hL) ⟨0, g, h0, hrun⟩
    rw [at_re] at hst
    rcases Nat.eq_zero_or_pos i with rfl | hpos
    · obtain rfl : g1 = g := by rw [h0] at hi; exact (Option.some.inj hi).symm
      have hlt : 0 < gs.size := (Array.getElem?_eq_some_iff.1 h0).1
      have hrunT := runT_crowd_spawn (P := P) (sl := sl') (i := 0) hi (show stepG P (0 == 0) g1 (w.re τ d1) = _ from h τ d1)
      refine ends_more (hst.trans hrunT) ?_
      have hP1 := hP.own (fn := g1.frame.fn) (pos := g1.frame.place) hes
      have hd1 : ∀ j, gs.size ≤ j → Deaf (t ++ MemOp.ofEvents 0 g1.frame.fn g1.frame.place es) j = 0 := fun j hj => by rw [Deaf_other t (by omega) _ (events_g _ _ _ _)]; exact hL.above j hj
      have hgs : gs.size ≠ 0 := by omega
      have hnew := Pair.new (B := B) hP1 (hd1 _ (Nat.le_refl _)) hgs (x := { g := 0, fn := g1.frame.fn, pos := g1.frame.place, act := .go gs.size }) (y := { g := gs.size, fn := child.frame.fn, pos := g1.frame.place, act := .start }) ⟨rfl, rfl⟩ ⟨rfl, rfl⟩
      have hdf : ∀ j, Deaf (t ++ MemOp.ofEvents 0 g1.frame.fn g1.frame.place es ++ #[({ g := 0, fn := g1.frame.fn, pos := g1.frame.place, act := .go gs.size } : MemOp), { g := gs.size, fn := child.frame.fn, pos := g1.frame.place, act := .start }]) j = Deaf (t ++ MemOp.ofEvents 0 g1.frame.fn g1.frame.place es) j := fun j => by
        rw [show ∀ (a : Trace) (x y : MemOp), a ++ #[x, y] = (a ++ #[x]) ++ #[y] from fun a x y => by rw [Array.append_assoc]; rfl, Deaf_push, Deaf_push]
        rfl
      rw [show ∀ (a b : Trace) (x y : MemOp), a ++ ((b.push x).push y) = a ++ b ++ #[x, y] from fun a b x y => by rw [Array.push_eq_append, Array.push_eq_append, ← Array.append_assoc, ← Array.append_assoc, Array.append_assoc]; rfl]
      refine pair_ends (w0 := w) hgs hR (w.re τ d1) ⟨rfl, rfl, rfl, fun _ _ => rfl⟩ child (.on hS) _ sl' _ q s r ?_ ?_ ⟨fun j x hj hjn hx => ?_, fun j hj => ?_⟩ hnew ?_ hc (fun k _ _ => rfl)
      · rw [Array.getElem?_push_lt (by simpa using hlt)]; simp [hlt]
      · rw [show gs.size = (gs.setIfInBounds 0 g').size by simp, Array.getElem?_push_size]
      · have hjs : j < gs.size := by
          have := (Array.getElem?_eq_some_iff.1 hx).1
          simp at this; omega
        rw [Array.getElem?_push, if_neg (by simp; omega), Array.getElem?_setIfInBounds_ne (by omega)] at hx
        rw [hdf, Deaf_other t (by omega) _ (events_g _ _ _ _)]
        exact hL.old j x hj hx
      · rw [hdf]; exact hd1 j (by simp at hj; omega)
      · rw [hdf]; exact hd1 _ (Nat.le_refl _)
    · obtain ⟨gs', q', ops, hr, h0', hsz, hL', hP', hlt⟩ := leaver_slips (w := w.re τ d) (d := d1) (sl' := sl') h0 hrun hL hP hpos hi hg
      rw [at_re] at hr
      exact ends_more (hst.trans hr) (ih _ (by omega) gs' sl' _ q' d1 h0' hL' hP' rfl)
end
end Go.Goes

-- RoRun
/-
  What only reads does the same in every world that agrees on what lies low.
-/
namespace Go.Goes
open Go.Conc
set_option linter.unusedVariables false
section
variable {P : Program} {F' : Array Func}
/-- u has all that x has; channels may differ. -/
def Has (x u : World) : Prop := ∀ (k : Nat) (o : Obj), x.heap[k]? = some o → ∃ o', u.heap[k]? = some o' ∧ (o' = o ∨ ∃ cl s r tm cl' s' r', o = .chan 0 #[] cl s r tm ∧ o' = .chan 0 #[] cl' s' r' tm)
theorem Has.cell {x u : World} (h : Has x u) {a : Addr} {v : Value} (hx : x.cell? a = some v) : u.cell? a = some v := by
  obtain ⟨c, e, f, hc, _, _⟩ := cell_some hx
  obtain ⟨o', h1, h2 | ⟨_, _, _, _, _, _, _, h2, _⟩⟩ := h _ _ hc
  · unfold World.cell? at hx ⊢
    rw [hc] at hx
    rw [h1, h2]; exact hx
  · cases h2
theorem Has.seen {x u : World} (h : Has x u) {at_ k : Addr} {t : TypeId} {b : Bool} {y : Array Value × TypeId × (Nat × Nat) × Nat × Value × List (Nat × Nat × List UInt8)} (hx : x.seen (tw P F') at_ t k b = .ok y) : u.seen P at_ t k b = .ok y := by
  rcases isCells x.heap[at_.block]? with ⟨c, e, f, hc⟩ | hc
  · obtain ⟨o', h1, h2 | ⟨_, _, _, _, _, _, _, h2, _⟩⟩ := h _ _ hc
    · subst h2
      rw [seen_rel (F' := F') hc h1, hx]
      obtain ⟨e1, e2, e3⟩ := seen_is hc hx
      simp only [Except.map, reFz]
      rw [← e3]
    · cases h2
  · exact (seen_none hc hx).elim
theorem Has.farLoad {x u : World} (h : Has x u) {a : Addr} {b : Bool} {r : Value × List Addr} (hx : x.farLoad (tw P F') a b = .ok r) : u.farLoad P a b = .ok r ∧ ∀ y ∈ r.2, y.block < x.heap.size := by
  unfold World.farLoad at hx ⊢
  cases ho : x.heap[a.block]? with
  | none => rw [ho] at hx; cases hx
  | some o =>
    rw [ho] at hx
    cases o <;> try (cases hx; done)
    case view at_ t =>
      obtain ⟨o', h1, h2 | ⟨_, _, _, _, _, _, _, h2, _⟩⟩ := h _ _ ho
      · rw [h1, h2]
        dsimp only at hx ⊢
        cases hv : x.viewLoad (tw P F') at_ t a b with
        | error z => rw [hv] at hx; cases hx
        | ok y =>
          rw [hv] at hx
          cases hx
          have hv0 := hv
          unfold World.viewLoad at hv ⊢
          cases hs : x.seen (tw P F') at_ t a b with
          | error z => rw [hs] at hv; cases hv
          | ok z =>
            rw [hs] at hv
            rw [h.seen hs]
            obtain ⟨a1, a2, a3, a4, a5, a6⟩ := z
            have hlt : at_.block < x.heap.size := by
              rcases isCells x.heap[at_.block]? with ⟨c, e, f, hc⟩ | hc
              · exact (Array.getElem?_eq_some_iff.1 hc).1
              · exact (seen_none hc hs).elim
            dsimp only [bind, Except.bind, pure, Except.pure] at hv ⊢
            split at hv
            · rename_i v0 hof
              cases hv
              refine ⟨rfl, fun y hy => ?_⟩
              obtain ⟨z, _, rfl⟩ := List.mem_map.1 hy
              exact hlt
            · cases hv
      · cases h2
theorem RoT.grow {α : Type} {Q : α → Prop} {m : Sem α} (hm : RoT P F' Q m) : ∀ (x : World) (es : Array Event) (a : α) (x1 : World) (fs : Array Event), m.runT (tw P F') x es = (.ok a x1, fs) → x.heap.size ≤ x1.heap.size := by
  induction hm with
  | pure a h => intro x es a x1 fs hr; cases hr; exact Nat.le_refl _
  | halt h hh => intro x es a x1 fs hr; cases hr
  | dead s hd hc => intro x es a x1 fs hr; exact absurd hr (dead_run_ok hd _ _ _ _ _ _)
  | load md p k _ ih =>
    intro x es a x1 fs hr
    unfold Sem.runT at hr
    split at hr
    · exact ih _ _ _ _ _ _ hr
    · split at hr
      · exact ih _ _ _ _ _ _ hr
      · cases hr
  | new o k _ ih => intro x es a x1 fs hr; have := ih _ _ _ _ _ _ hr; simp at this; omega
  | shape r k _ _ ih => intro x es a x1 fs hr; exact ih _ _ _ _ _ _ hr
  | getObj r k hc _ ih =>
    intro x es a x1 fs hr
    unfold Sem.runT at hr
    split at hr
    · cases hr
    · exact ih _ _ _ _ _ _ hr
    · cases hr
  | choose q k _ ih =>
    intro x es a x1 fs hr
    unfold Sem.runT at hr
    split at hr
    · exact ih _ _ _ _ _ _ hr
    · have := ih _ _ _ _ _ _ hr; exact this
  | program k hk _ ih => intro x es a x1 fs hr; unfold Sem.runT at hr; rw [hk] at hr; exact ih _ _ _ _ _ hr
theorem evN_read {B : Nat} {a : Addr} (h : a.block < B) (b : Bool) : EvN B ⟨.cell a, false, b⟩ := ⟨⟨by simp, by simp⟩, fun y hy => by cases hy; exact ⟨rfl, fun a' e => by cases e; exact h⟩⟩
theorem evN_obj {B r : Nat} (b : Bool) : EvN B ⟨.obj r, false, b⟩ := ⟨⟨by simp, by simp⟩, fun y hy => by cases hy; exact ⟨rfl, fun a' e => by cases e⟩⟩
theorem RoT.run {α : Type} {Q : α → Prop} {m : Sem α} (hm : RoT P F' Q m) (τ : Nat → Question → Nat) : ∀ (x u : World) (d : Nat) (es : Array Event), Has x u → ∀ (a : α) (x1 : World) (fs : Array Event), m.runT (tw P F') (x.re τ d) es = (.ok a x1, fs) → x1.heap.size = x.heap.size →
    ∃ n, x1 = x.re τ (d + n) ∧ Q a ∧ (∀ e ∈ fs, e ∈ es ∨ EvN x.heap.size e) ∧ ∀ τ' d', (∀ i, i < n → τ' (d' + i) = τ (d + i)) → m.runT P (u.re τ' d') es = (.ok a (u.re τ' (d' + n)), fs) := by
  induction hm with
  | pure a h =>
    intro x u d es hH a x1 fs hr hs
    cases hr
    exact ⟨0, rfl, h, fun e he => .inl he, fun _ _ _ => rfl⟩
  | halt h hh => intro x u d es hH a x1 fs hr; cases hr
  | dead s hd hc => intro x u d es hH a x1 fs hr; exact absurd hr (dead_run_ok hd _ _ _ _ _ _)
  | load md p k _ ih =>
    intro x u d es hH a x1 fs hr hs
    unfold Sem.runT at hr
    rw [cell_re] at hr
    cases hc : x.cell? p with
    | some v =>
      rw [hc] at hr
      obtain ⟨n, h1, h2, h3, h4⟩ := ih v x u d _ hH a x1 fs hr hs
      refine ⟨n, h1, h2, fun e he => ?_, fun τ' d' hh => ?_⟩
      · rcases h3 e he with h | h
        · rcases Array.mem_push.1 h with h | rfl
          · exact .inl h
          · obtain ⟨c, e, f, hb, _, _⟩ := cell_some hc
            exact .inr (evN_read (Array.getElem?_eq_some_iff.1 hb).1 _)
        · exact .inr h
      · unfold Sem.runT; rw [cell_re, hH.cell hc]; exact h4 τ' d' hh
    | none =>
      rw [hc] at hr
      dsimp only at hr
      rw [farLoad_re] at hr
      cases hf : x.farLoad (tw P F') p (md == .atomic) with
      | error h => rw [hf] at hr; cases hr
      | ok y =>
        obtain ⟨v, touched⟩ := y
        rw [hf] at hr
        obtain ⟨hfu, htl⟩ := hH.farLoad hf
        obtain ⟨n, h1, h2, h3, h4⟩ := ih v x u d _ hH a x1 fs hr hs
        refine ⟨n, h1, h2, fun e he => ?_, fun τ' d' hh => ?_⟩
        · rcases h3 e he with h | h
          · rcases Array.mem_append.1 h with h | h
            · exact .inl h
            · obtain ⟨y, hy, rfl⟩ := Array.mem_map.1 h
              exact .inr (evN_read (htl y (by simpa using hy)) _)
          · exact .inr h
        · have hcu : u.cell? p = none := by
            unfold World.farLoad at hf
            cases ho : x.heap[p.block]? with
            | none => rw [ho] at hf; cases hf
            | some o =>
              rw [ho] at hf
              cases o <;> try (cases hf; done)
              case view at_ t =>
                obtain ⟨o', g1, g2 | ⟨_, _, _, _, _, _, _, g2, _⟩⟩ := hH _ _ ho
                · unfold World.cell?; rw [g1, g2]
                · cases g2
          unfold Sem.runT; rw [cell_re, hcu]; dsimp only; rw [farLoad_re, hfu]; exact h4 τ' d' hh
  | new o k hk ih =>
    intro x u d es hH a x1 fs hr hs
    exfalso
    have := (hk _).grow _ _ _ _ _ (show (k x.heap.size).runT (tw P F') _ es = _ from hr)
    simp at this
    have : x.heap.size + 1 ≤ x1.heap.size := this
    omega
  | shape r k h0 _ ih =>
    intro x u d es hH a x1 fs hr hs
    have key : u.shape? r = x.shape? r := by
      cases ho : x.heap[r]? with
      | some o =>
        obtain ⟨o', g1, g2 | ⟨_, _, _, _, _, _, _, g2, g3⟩⟩ := hH _ _ ho
        · unfold World.shape?; rw [ho, g1, g2]
        · unfold World.shape?; rw [ho, g1, g2, g3]
      | none =>
        exfalso
        have hn : x.shape? r = none := by unfold World.shape?; rw [ho]
        have hr' : (k none).runT (tw P F') (x.re τ d) es = (.ok a x1, fs) := by have := hr; unfold Sem.runT at this; rw [shape_re, hn] at this; exact this
        rcases h0 with hd | ⟨g, hg⟩
        · exact absurd hr' (dead_run_ok hd _ _ _ _ _ _)
        · rw [hg, Sem.runT, show (x.re τ d).heap[r]? = none from ho] at hr'
          cases hr'
    obtain ⟨n, h1, h2, h3, h4⟩ := ih (x.shape? r) x u d es hH a x1 fs hr hs
    exact ⟨n, h1, h2, h3, fun τ' d' hh => by unfold Sem.runT; rw [shape_re, key]; exact h4 τ' d' hh⟩
  | getObj r k hc _ ih =>
    intro x u d es hH a x1 fs hr hs
    cases ho : x.heap[r]? with
    | none => unfold Sem.runT at hr; rw [show (x.re τ d).heap[r]? = none from ho] at hr; cases hr
    | some o =>
      by_cases hcell : ∃ c e f, o = .cells c e f
      · obtain ⟨c, e, f, rfl⟩ := hcell; unfold Sem.runT at hr; rw [show (x.re τ d).heap[r]? = some _ from ho] at hr; cases hr
      · have hne : ∀ c e f, o ≠ .cells c e f := fun c e f h => hcell ⟨c, e, f, h⟩
        have hr' := (getObj_eq (k := k) (w := x.re τ d) ho hne (tw P F') es).symm.trans hr
        obtain ⟨o', g1, g2⟩ := hH _ _ ho
        have hko : k o' = k o ∧ o'.isChan = o.isChan ∧ ∀ c e f, o' ≠ .cells c e f := by
          rcases g2 with rfl | ⟨_, _, _, _, _, _, _, rfl, rfl⟩
          · exact ⟨rfl, rfl, hne⟩
          · exact ⟨hc _ _ _ _ _ _ _, rfl, by intro c e f h; cases h⟩
        obtain ⟨n, h1, h2, h3, h4⟩ := ih o x u d _ hH a x1 fs hr' hs
        refine ⟨n, h1, h2, fun e he => ?_, fun τ' d' hh => ?_⟩
        · rcases h3 e he with h | h
          · rcases Array.mem_push.1 h with h | rfl
            · exact .inl h
            · exact .inr (evN_obj _)
          · exact .inr h
        · rw [getObj_eq (w := u.re τ' d') g1 hko.2.2, hko.1, hko.2.1]; exact h4 τ' d' hh
  | choose q k _ ih =>
    intro x u d es hH a x1 fs hr hs
    unfold Sem.runT at hr
    by_cases hq : q.forced = true
    · rw [if_pos hq] at hr
      obtain ⟨n, h1, h2, h3, h4⟩ := ih 0 x u d es hH a x1 fs hr hs
      exact ⟨n, h1, h2, h3, fun τ' d' hh => by unfold Sem.runT; rw [if_pos hq]; exact h4 τ' d' hh⟩
    · rw [if_neg hq] at hr
      obtain ⟨n, h1, h2, h3, h4⟩ := ih (q.cut (τ d q)) x u (d + 1) es hH a x1 fs hr hs
      refine ⟨n + 1, by rw [h1, show d + 1 + n = d + (n + 1) by omega], h2, h3, fun τ' d' hh => ?_⟩
      unfold Sem.runT
      rw [if_neg hq]
      have e0 : τ' d' = τ d := by simpa using hh 0 (by omega)
      have hh' : ∀ i, i < n → τ' (d' + 1 + i) = τ (d + 1 + i) := fun i hi => by have := hh (i + 1) (by omega); simpa [Nat.add_assoc, Nat.add_comm 1 i] using this
      show (k (q.cut (τ' d' q))).runT P (u.re τ' (d' + 1)) es = _
      rw [e0, h4 τ' (d' + 1) hh', show d' + 1 + n = d' + (n + 1) by omega]
  | program k hk _ ih =>
    intro x u d es hH a x1 fs hr hs
    unfold Sem.runT at hr
    rw [hk] at hr
    obtain ⟨n, h1, h2, h3, h4⟩ := ih x u d es hH a x1 fs hr hs
    exact ⟨n, h1, h2, h3, fun τ' d' hh => h4 τ' d' hh⟩
end
end Go.Goes

-- Send
/-
  The sender: from the tree of its lone twin to its script.
-/
namespace Go.Goes
open Go.Conc
set_option linter.unusedVariables false
/-- The frame below a goroutine's first call. -/
def bot (P : Program) : Frame := { (default : Frame) with fn := P.funcs.size, defers := [], mode := .panicking [goexitEntry] }
def encR (c : Nat) : List Value → Value
  | [] => undef
  | v :: r => .func (.func 0) #[] #[encR c r, .chan (some c), v]
def closedV (c : Nat) (vs : List Value) : Value := .func (.func 1) #[] #[encR c vs.reverse, .chan (some c)]
theorem encR_inj {c : Nat} : ∀ {a b : List Value}, encR c a = encR c b → a = b
  | [], [], _ => rfl
  | [], _ :: _, h => by simp [encR, undef] at h
  | _ :: _, [], h => by simp [encR, undef] at h
  | v :: a, v' :: b, h => by
    simp only [encR, Value.func.injEq, Array.mk.injEq, List.cons.injEq, true_and, and_true] at h
    rw [encR_inj h.1, h.2]

/-- Neither the operation nor what it does depends on the slots that differ. -/
def SameOp (Z : Nat → Prop) (o : Oper) : Prop := ∀ ρ ρ' : Operand → Value, (∀ x, opOut Z x → ρ' x = ρ x) → execOp ρ' o = execOp ρ o
structure Plain (φ : Oper → Oper) (acc : Nat) (o : Oper) : Prop where
  same : φ o = o
  ro : roOpB o = true
  out : SameOp (· = acc) o
  dst : o.dst ≠ some acc
  guard : o.guard = none
structure IsSend (φ : Oper → Oper) (acc : Nat) (o : Oper) (ch x : Operand) : Prop where
  op : o.op = .send ch x
  dst : o.dst = none
  guard : o.guard = none
  to : φ o = { o with dst := some acc, op := .makeFunc (.func 0) #[] #[.tmp acc, ch, x] }
  ch : opOut (· = acc) ch
  x : opOut (· = acc) x
structure IsClose (φ : Oper → Oper) (acc : Nat) (o : Oper) (ch : Operand) (ats : Array TypeId) : Prop where
  op : o.op = .call { callee := .builtin .close, args := #[ch], argTypes := ats }
  dst : o.dst = none
  guard : o.guard = none
  to : φ o = { o with dst := some acc, op := .makeFunc (.func 1) #[] #[.tmp acc, ch] }
  ch : opOut (· = acc) ch
def SOp (φ : Oper → Oper) (acc : Nat) (o : Oper) : Prop := Plain φ acc o ∨ ∃ ch x, IsSend φ acc o ch x
def NCC (φ : Oper → Oper) (acc : Nat) : Code → Prop
  | .region _ ops _ => ∀ (i : Nat) o, ops[i]? = some o → SOp φ acc o
  | .seq a b | .cond _ a b => NCC φ acc a ∧ NCC φ acc b
  | .block _ c | .loop c => NCC φ acc c
  | .skip | .exit _ => True
  | _ => False
def NCI (φ : Oper → Oper) (acc : Nat) : Item → Prop
  | .code c | .inLoop c => NCC φ acc c
  | .inBlock _ => True
  | .inRegion ops _ => ∀ (i : Nat) o, ops[i]? = some o → SOp φ acc o
  | _ => False
/-- What is left of the last region. -/
def LastOk (φ : Oper → Oper) (acc : Nat) (ops : Array Oper) (l : List Nat) : Prop :=
  ∃ js j oc ch ats, l = js ++ [j] ∧ ops[j]? = some oc ∧ IsClose φ acc oc ch ats ∧ ∀ i ∈ js, ∃ o, ops[i]? = some o ∧ Plain φ acc o
inductive Tst (φ : Oper → Oper) (acc : Nat) : List Item → Prop
  | far {pre : List Item} {id : Nat} {ops : Array Oper} (hp : ∀ it ∈ pre, NCI φ acc it) (hl : LastOk φ acc ops (List.range ops.size)) : Tst φ acc (pre ++ [.code (.region id ops false)])
  | last {ops : Array Oper} {l : List Nat} (hl : LastOk φ acc ops l) : Tst φ acc [.inRegion ops l]

section
variable {P : Program} {F' : Array Func} {φ : Oper → Oper} {acc : Nat}
theorem bot_leaves {fr : Frame} {fn : Func} (hm : fr.mode = .returning) (hk : fr.kind = .deferred) (hd : fr.defers = []) (hf : P.funcs[fr.fn]? = some fn) (hr : fn.results = #[]) : QuitsIn P 2 (G fr [bot P]) := by
  refine .inr ⟨rfl, G (bot P) [], fun w => ?_, .inr ⟨rfl, { G (bot P) [] with status := .finished }, fun w => ?_, rfl⟩⟩
  · simp [G, stepG, unwind, doReturn, results, bot, hm, hk, hd, hf, hr, seen, GStep.after, goexitEntry]
  · simp [G, stepG, unwind, bot, goexitEntry, Frame.catches]
    rfl
theorem exitTo_far {id : Nat} {R : Code} : ∀ {pre l' : List Item}, exitTo id (pre ++ [.code R]) = some l' → ∃ pre', l' = pre' ++ [.code R] ∧ ∀ it ∈ pre', it ∈ pre
  | [], _, e => by simp [exitTo] at e
  | it :: l, l', e => by
    have more : exitTo id (l ++ [.code R]) = some l' → ∃ pre', l' = pre' ++ [.code R] ∧ ∀ x ∈ pre', x ∈ it :: l := fun e => by
      obtain ⟨p, h1, h2⟩ := exitTo_far e
      exact ⟨p, h1, fun x hx => List.mem_cons_of_mem _ (h2 x hx)⟩
    rw [List.cons_append] at e
    cases it with
    | inBlock id' =>
      simp only [exitTo] at e
      split at e
      · cases e; exact ⟨l, rfl, fun x hx => List.mem_cons_of_mem _ hx⟩
      · exact more e
    | _ => simp only [exitTo] at e; exact more e
theorem finish_todo {fr : Frame} {ops : Array Oper} {i : Nat} {rest : List Nat} {k : List Item} (ht : fr.todo = .inRegion ops (i :: rest) :: k) (v : Value) : (fr.finish v).todo = .inRegion ops rest :: k ∧ (fr.finish v).mode = fr.mode ∧ (fr.finish v).kind = fr.kind ∧ (fr.finish v).fn = fr.fn ∧ (fr.finish v).tmps.size = fr.tmps.size := by
  unfold Frame.finish
  rw [ht]
  refine ⟨rfl, rfl, rfl, rfl, ?_⟩
  dsimp only
  split <;> simp
/-- Control leads from such a state to such a state. -/
theorem ctl_tst {fr fr1 : Frame} (h : Tst φ acc fr.todo) (hc : ctl fr = some fr1) : Tst φ acc fr1.todo ∧ fr1.mode = fr.mode ∧ fr1.kind = fr.kind ∧ fr1.fn = fr.fn := by
  unfold ctl at hc
  generalize hl : fr.todo = l at h hc
  cases h with
  | last h =>
    rename_i ops l
    obtain ⟨js, j, oc, ch, ats, rfl, hj, hcl, hjs⟩ := h
    exfalso
    cases js with
    | nil => simp [hj, Region.wanted, hcl.guard] at hc
    | cons i js =>
      obtain ⟨o, ho, hp⟩ := hjs i (List.mem_cons_self ..)
      simp [ho, Region.wanted, hp.guard] at hc
  | far hp hlast =>
    rename_i pre id ops
    cases pre with
    | nil => cases hc; exact ⟨.last hlast, rfl, rfl, rfl⟩
    | cons it k =>
      have hi := hp it (List.mem_cons_self ..)
      have hk : ∀ x ∈ k, NCI φ acc x := fun x hx => hp x (List.mem_cons_of_mem _ hx)
      have mk : ∀ h : List Item, (∀ x ∈ h, NCI φ acc x) → Tst φ acc (h ++ k ++ [.code (.region id ops false)]) := fun h hh => .far (fun x hx => (List.mem_append.1 hx).elim (hh x) (hk x)) hlast
      rw [List.cons_append] at hc
      cases it with
      | inBlock id => cases hc; exact ⟨.far hk hlast, rfl, rfl, rfl⟩
      | inScope c => exact hi.elim
      | inLoop c => cases hc; exact ⟨mk [.code c, .inLoop c] (by simp [NCI]; exact hi), rfl, rfl, rfl⟩
      | inRangeFunc l => exact hi.elim
      | endRangeFunc l => exact hi.elim
      | beginRound => exact hi.elim
      | call d b r s => exact hi.elim
      | extern r a => exact hi.elim
      | inRegion ops2 l =>
        cases l with
        | nil => cases hc; exact ⟨.far hk hlast, rfl, rfl, rfl⟩
        | cons i rest =>
          dsimp only at hc
          split at hc
          · cases hc
          · cases hc
            obtain ⟨h1, h2, h3, h4, _⟩ := finish_todo (fr := fr) hl undef
            rw [h1]
            exact ⟨mk [.inRegion ops2 rest] (by simp only [List.mem_singleton]; rintro x rfl; exact hi), h2, h3, h4⟩
      | code c =>
        cases c with
        | skip => cases hc; exact ⟨.far hk hlast, rfl, rfl, rfl⟩
        | label l => exact hi.elim
        | seq a b => cases hc; exact ⟨mk [.code a, .code b] (by simp [NCI]; exact hi), rfl, rfl, rfl⟩
        | block id c => cases hc; exact ⟨mk [.code c, .inBlock id] (by simp [NCI]; exact hi), rfl, rfl, rfl⟩
        | loop c => cases hc; exact ⟨mk [.code c, .inLoop c] (by simp [NCI]; exact hi), rfl, rfl, rfl⟩
        | scope c => exact hi.elim
        | ret => exact hi.elim
        | rangeFunc f ps a b => exact hi.elim
        | refuse why => cases hc
        | exit id2 =>
          dsimp only at hc
          obtain ⟨k', hk', rfl⟩ := Option.map_eq_some_iff.1 hc
          obtain ⟨p, rfl, h2⟩ := exitTo_far hk'
          exact ⟨.far (fun x hx => hk x (h2 x hx)) hlast, rfl, rfl, rfl⟩
        | goto l => exact hi.elim
        | cond c a b =>
          dsimp only at hc
          split at hc
          · cases hc; rename_i t _; exact ⟨mk [.code (if t then a else b)] (by simp only [List.mem_singleton]; rintro x rfl; cases t; exact hi.2; exact hi.1), rfl, rfl, rfl⟩
          · cases hc
        | region id2 ops2 draw =>
          cases draw with
          | false => cases hc; exact ⟨mk [.inRegion ops2 (List.range ops2.size)] (by simp only [List.mem_singleton]; rintro x rfl; exact hi), rfl, rfl, rfl⟩
          | true => cases hc
theorem tst_op {ops : Array Oper} {i : Nat} {rest : List Nat} {k : List Item} {o : Oper} (h : Tst φ acc (.inRegion ops (i :: rest) :: k)) (ho : ops[i]? = some o) : (SOp φ acc o ∧ Tst φ acc (.inRegion ops rest :: k)) ∨ ((∃ ch ats, IsClose φ acc o ch ats) ∧ rest = [] ∧ k = []) := by
  generalize hl : Item.inRegion ops (i :: rest) :: k = l at h
  cases h with
  | @far pre id ops2 hp hlast =>
    cases pre with
    | nil => cases hl
    | cons it pre =>
      rw [List.cons_append] at hl
      injection hl with e1 e2
      subst e1 e2
      refine .inl ⟨hp _ (List.mem_cons_self ..) i o ho, ?_⟩
      rw [← List.cons_append]
      exact .far (fun x hx => (List.mem_cons.1 hx).elim (fun e => by subst e; exact hp (.inRegion ops (i :: rest)) (List.mem_cons_self ..)) (fun hx => hp x (List.mem_cons_of_mem _ hx))) hlast
  | @last ops2 l2 hlast =>
    injection hl with e1 e2
    injection e1 with e3 e4
    subst e2 e3
    obtain ⟨js, j, oc, ch, ats, e5, hj, hcl, hjs⟩ := hlast
    rw [← e4] at e5
    cases js with
    | nil => cases e5; rw [ho] at hj; cases hj; exact .inr ⟨⟨ch, ats, hcl⟩, rfl, rfl⟩
    | cons i2 js =>
      rw [List.cons_append] at e5
      injection e5 with e6 e7
      subst e6 e7
      obtain ⟨o2, ho2, hp⟩ := hjs _ (List.mem_cons_self ..)
      rw [ho] at ho2; cases ho2
      exact .inl ⟨.inl hp, .last ⟨js, j, oc, ch, ats, rfl, hj, hcl, fun x hx => hjs x (List.mem_cons_of_mem _ hx)⟩⟩
theorem SOp.guard {o : Oper} (h : SOp φ acc o) : o.guard = none := h.elim (·.guard) (fun ⟨_, _, h⟩ => h.guard)
theorem tst_guard {ops : Array Oper} {i : Nat} {rest : List Nat} {k : List Item} {o : Oper} (h : Tst φ acc (.inRegion ops (i :: rest) :: k)) (ho : ops[i]? = some o) : o.guard = none := by
  rcases tst_op h ho with ⟨h, _⟩ | ⟨⟨_, _, h⟩, _⟩
  · exact h.guard
  · exact h.guard
theorem ctl_tmps {fr fr1 : Frame} (hc : ctl fr = some fr1) (hg : ∀ ops i rest k o, fr.todo = .inRegion ops (i :: rest) :: k → ops[i]? = some o → o.guard = none) : fr1.tmps = fr.tmps := by
  unfold ctl at hc
  split at hc
  case h_17 ops i rest k ht =>
    cases ho : ops[i]? with
    | none => rw [ho] at hc; cases hc; unfold Frame.finish; rw [ht]; simp [ho]
    | some o => rw [ho] at hc; simp [Region.wanted, hg _ _ _ _ _ ht ho] at hc
  case h_8 => split at hc <;> cases hc; rfl
  case h_13 => obtain ⟨_, _, rfl⟩ := Option.map_eq_some_iff.1 hc; rfl
  case h_14 => obtain ⟨_, _, rfl⟩ := Option.map_eq_some_iff.1 hc; rfl
  all_goals first | (cases hc; rfl) | cases hc
theorem mapped_guard {fr fr' : Frame} (hM : Mp φ (· = acc) fr fr') (hT : Tst φ acc fr.todo) : ∀ ops i rest k o, fr'.todo = .inRegion ops (i :: rest) :: k → ops[i]? = some o → o.guard = none := by
  intro ops' i rest k' o' ht' ho'
  rw [hM.todo] at ht'
  have hi := hM.fits
  cases ht : fr.todo with
  | nil => rw [ht] at ht'; cases ht'
  | cons it k =>
    rw [ht] at ht' hi hT
    rw [List.map_cons] at ht'
    injection ht' with e1 e2
    cases it <;> try (cases e1; done)
    case inRegion ops l =>
      simp only [mapI] at e1
      injection e1 with e3 e4
      subst e4
      rw [← e3, Array.getElem?_map] at ho'
      obtain ⟨o, ho, rfl⟩ := Option.map_eq_some_iff.1 ho'
      rw [hi.head.guard i o ho]
      exact tst_guard hT ho
theorem finish_acc {fr : Frame} {ops : Array Oper} {i : Nat} {rest : List Nat} {k : List Item} {o : Oper} (ht : fr.todo = .inRegion ops (i :: rest) :: k) (ho : ops[i]? = some o) (hd : o.dst ≠ some acc) (v : Value) : (fr.finish v).tmps.getD acc undef = fr.tmps.getD acc undef := by
  unfold Frame.finish
  rw [ht]
  simp only [ho, Option.bind_some]
  cases hdd : o.dst with
  | none => rfl
  | some t =>
    dsimp only
    rw [Array.getD_eq_getD_getElem?, Array.getD_eq_getD_getElem?, Array.getElem?_setIfInBounds_ne (fun e => hd (by rw [hdd, e]))]
theorem finish_set {fr : Frame} {ops : Array Oper} {i : Nat} {rest : List Nat} {k : List Item} {o : Oper} (ht : fr.todo = .inRegion ops (i :: rest) :: k) (ho : ops[i]? = some o) (hd : o.dst = some acc) (hlt : acc < fr.tmps.size) (v : Value) : (fr.finish v).tmps.getD acc undef = v := by
  unfold Frame.finish
  rw [ht]
  simp only [ho, Option.bind_some, hd]
  rw [Array.getD_eq_getD_getElem?, Array.getElem?_setIfInBounds_self_of_lt hlt]
  rfl
/-- What it hands back. -/
def Next.val : Next → Value
  | .value v => v
  | _ => undef
theorem top_val {y : OpTo} (h : okNext (fun _ => False) y.nx) (P : Program) (fr : Frame) (rest : List Frame) : y.top P fr = fr.finish (Next.val y.nx) ∧ y.rest fr rest = rest := by
  unfold OpTo.top OpTo.rest
  cases hn : y.nx <;> rw [hn] at h <;> first | exact ⟨rfl, rfl⟩ | exact h.elim
theorem apply_val {fr : Frame} {cs : List Frame} {s : Sem Next} {w w' : World} {nx : Next} {fs : Array Event} (hk : (fr.kind == CallKind.early) = false) (hc : ∀ d b r s l, fr.todo ≠ .call d b r s :: l) (h : s.runT P w #[] = (.ok nx w', fs)) (hn : okNext (fun _ => False) nx) :
    stepG.apply P true fr cs none s w = .go (G (fr.finish (Next.val nx)) cs) w' (seen P fr.fn fs) := by
  rw [apply_ok hk hc h]
  cases nx <;> first | rfl | exact hn.elim
end
end Go.Goes

-- Shape
/-
  StrokeOf's own code: what lies ahead of the go statement, what stands between it and the first receive, what comes behind.
-/
namespace Go.Goes
open Go.Conc
set_option linter.unusedVariables false
def AllC (Q : Oper → Prop) : Code → Prop
  | .region _ ops _ => ∀ (i : Nat) o, ops[i]? = some o → Q o
  | .seq a b | .cond _ a b => AllC Q a ∧ AllC Q b
  | .block _ c | .loop c => AllC Q c
  | .skip | .exit _ | .ret => True
  | _ => False
def AllI (Q : Oper → Prop) : Item → Prop
  | .code c | .inLoop c => AllC Q c
  | .inBlock _ => True
  | .inRegion ops _ => ∀ (i : Nat) o, ops[i]? = some o → Q o
  | _ => False
def AllL (Q : Oper → Prop) (l : List Item) : Prop := ∀ it ∈ l, AllI Q it
/-- The go statement's region and what comes behind it: a region of one operation, then a loop that receives first. -/
structure Rng where
  id5 : Nat
  ops5 : Array Oper
  id6 : Nat
  ops6 : Array Oper
  id : Nat
  id7 : Nat
  ops7 : Array Oper
  l : Code
  tail : Code
namespace Rng
variable (R : Rng)
def body : Code := .seq (.region R.id7 R.ops7 false) R.l
def code : Code := .seq (.seq (.region R.id6 R.ops6 false) (.block R.id (.loop R.body))) R.tail
end Rng
section
variable {Q : Oper → Prop} {R : Rng} {fr fr1 : Frame}
theorem AllL.tail {it : Item} {l : List Item} (h : AllL Q (it :: l)) : AllL Q l := fun x hx => h x (List.mem_cons_of_mem _ hx)
theorem AllL.head {it : Item} {l : List Item} (h : AllL Q (it :: l)) : AllI Q it := h it (List.mem_cons_self ..)
theorem AllL.cons {it : Item} {l : List Item} (h1 : AllI Q it) (h2 : AllL Q l) : AllL Q (it :: l) := fun x hx => by
  rcases List.mem_cons.1 hx with rfl | hx
  · exact h1
  · exact h2 x hx
theorem exitTo_all {id : Nat} : ∀ {l l' : List Item}, AllL Q l → exitTo id l = some l' → AllL Q l'
  | [], _, _, e => by simp [exitTo] at e
  | it :: l, l', h, e => by
    cases it with
    | inBlock id' =>
      simp only [exitTo] at e
      split at e
      · cases e; exact h.tail
      · exact exitTo_all h.tail e
    | _ => simp only [exitTo] at e; exact exitTo_all h.tail e
/-- Control keeps it. -/
theorem ctl_all (h : AllL Q fr.todo) (hc : ctl fr = some fr1) : AllL Q fr1.todo := by
  unfold ctl at hc
  generalize hl : fr.todo = l at hc h
  cases l with
  | nil => cases hc; exact h
  | cons it k =>
    have hi := h.head
    have hk := h.tail
    cases it with
    | inBlock id => cases hc; exact hk
    | inScope c => exact hi.elim
    | inLoop c => cases hc; exact .cons (it := .code c) hi (.cons (it := .inLoop c) hi hk)
    | inRangeFunc l => exact hi.elim
    | endRangeFunc l => exact hi.elim
    | beginRound => exact hi.elim
    | call d b r s => exact hi.elim
    | extern r a => exact hi.elim
    | inRegion ops l =>
      cases l with
      | nil => cases hc; exact hk
      | cons i rest =>
        dsimp only at hc
        split at hc
        · cases hc
        · cases hc
          rw [(finish_todo hl undef).1]
          exact .cons (it := .inRegion ops rest) hi hk
    | code c =>
      cases c with
      | skip => cases hc; exact hk
      | label l => exact hi.elim
      | seq a b => cases hc; exact .cons (it := .code a) hi.1 (.cons (it := .code b) hi.2 hk)
      | block id c => cases hc; exact .cons (it := .code c) hi (.cons (it := .inBlock id) trivial hk)
      | loop c => cases hc; exact .cons (it := .code c) hi (.cons (it := .inLoop c) hi hk)
      | scope c => exact hi.elim
      | ret => cases hc; exact h
      | rangeFunc f ps a b => exact hi.elim
      | refuse why => exact hi.elim
      | exit id2 =>
        dsimp only at hc
        obtain ⟨k', hk', rfl⟩ := Option.map_eq_some_iff.1 hc
        exact exitTo_all hk hk'
      | goto l => exact hi.elim
      | cond c a b =>
        dsimp only at hc
        split at hc
        · cases hc; rename_i t _; exact .cons (it := .code (if t then a else b)) (by cases t; exact hi.2; exact hi.1) hk
        · cases hc
      | region id2 ops2 draw =>
        cases draw with
        | false => cases hc; exact .cons (it := .inRegion ops2 (List.range ops2.size)) hi hk
        | true => cases hc
end
end Go.Goes

-- Send2
/-
  The sender's script from the tree of its lone twin.
-/
namespace Go.Goes
open Go.Conc
set_option linter.unusedVariables false
section
variable {P : Program} {F' : Array Func} {F : FuncId → Prop} {φ : Oper → Oper} {acc c B : Nat} {tm : Bool} {w0 : World} {vsAll : List Value}
theorem RoT.post {α : Type} {Q : α → Prop} {m : Sem α} (hm : RoT P F' Q m) : ∀ (x : World) (es : Array Event) (a : α) (x1 : World) (fs : Array Event), m.runT (tw P F') x es = (.ok a x1, fs) → Q a := by
  induction hm with
  | pure a h => intro x es a x1 fs hr; cases hr; exact h
  | halt h hh => intro x es a x1 fs hr; cases hr
  | dead s hd hc => intro x es a x1 fs hr; exact absurd hr (dead_run_ok hd _ _ _ _ _ _)
  | load md p k _ ih =>
    intro x es a x1 fs hr
    unfold Sem.runT at hr
    split at hr
    · exact ih _ _ _ _ _ _ hr
    · split at hr
      · exact ih _ _ _ _ _ _ hr
      · cases hr
  | new o k _ ih => intro x es a x1 fs hr; exact ih _ _ _ _ _ _ hr
  | shape r k _ _ ih => intro x es a x1 fs hr; exact ih _ _ _ _ _ _ hr
  | getObj r k hc _ ih =>
    intro x es a x1 fs hr
    unfold Sem.runT at hr
    split at hr
    · cases hr
    · exact ih _ _ _ _ _ _ hr
    · cases hr
  | choose q k _ ih =>
    intro x es a x1 fs hr
    unfold Sem.runT at hr
    split at hr
    · exact ih _ _ _ _ _ _ hr
    · exact ih _ _ _ _ _ _ hr
  | program k hk _ ih => intro x es a x1 fs hr; unfold Sem.runT at hr; rw [hk] at hr; exact ih _ _ _ _ _ hr
theorem Has.refl (w : World) : Has w w := fun k o h => ⟨o, h, .inl rfl⟩
/-- What stands at the end of the lone twin. -/
structure SStop (acc c B : Nat) (vs : List Value) (fr : Frame) (w : World) : Prop where
  back : fr.mode = .returning
  size : w.heap.size ≤ B
  acc : fr.tmps.getD acc undef = closedV c vs
theorem enc_cons {l : List Value} {a ch x : Value} (h : Value.func (.func 0) #[] #[a, ch, x] = encR c l) : ∃ r, l = x :: r ∧ a = encR c r ∧ ch = .chan (some c) := by
  cases l with
  | nil => simp [encR, undef] at h
  | cons v r =>
    simp only [encR, Value.func.injEq, Array.mk.injEq, List.cons.injEq, true_and, and_true] at h
    exact ⟨r, by rw [h.2.2], h.1, h.2.1⟩
theorem closed_inv {vs : List Value} {a ch : Value} (h : Value.func (.func 1) #[] #[a, ch] = closedV c vs) : a = encR c vs.reverse ∧ ch = .chan (some c) := by
  simp only [closedV, Value.func.injEq, Array.mk.injEq, List.cons.injEq, true_and, and_true] at h
  exact h
theorem same_enc {a a' b b' : List Value} (h : encR c a.reverse = encR c a'.reverse) (e : vsAll = a ++ b) (e' : vsAll = a' ++ b') : b = b' := by
  have := List.reverse_inj.1 (encR_inj h)
  subst this
  rw [e] at e'
  exact List.append_cancel_left e'
/-- **The sender's script.** -/
theorem send_tree (hHas : ∀ w1, Lo c B w0 w1 → Ch c tm w1 → Has w0 w1) (hB : w0.heap.size = B) {f0 : FuncId} {fn : Func} (hf : P.funcs[f0]? = some fn) (hres : fn.results = #[])
    {fr' : Frame} {rest : List Frame} {w : World} (h : Tr (tw P F') F (SStop acc c B vsAll) fr' rest w) :
    rest = [] → ∀ fr, Mp φ (· = acc) fr fr' → Tst φ acc fr.todo → fr.mode = .run → fr.kind = .deferred → fr.fn = f0 → acc < fr'.tmps.size →
      w.heap.size ≤ B ∧ ((∀ τ d, w.re τ d = w0.re τ d) → ∃ vs0 vs, vsAll = vs0 ++ vs ∧ fr'.tmps.getD acc undef = encR c vs0.reverse ∧ SD P c B tm w0 vs (G fr [bot P])) := by
  induction h with
  | stop h => intro _ fr hM _ hm _ _ _; have := h.back; rw [hM.mode, hm] at this; cases this
  | ret hc hm' _ _ _ _ _ => intro _ fr hM _ hm _ _ _; rw [hM.mode, hm] at hm'; cases hm'
  | ctl hc hm' hctl t ih =>
    intro hr fr hM hT hm hk hfn hacc
    obtain ⟨fr1, hc1, hM1⟩ := ctl_map hM hctl
    obtain ⟨hT1, hm1, hk1, hfn1⟩ := ctl_tst hT hc1
    have htm := ctl_tmps hctl (mapped_guard hM hT)
    obtain ⟨h1, h2⟩ := ih hr fr1 hM1 hT1 (hm1.trans hm) (hk1.trans hk) (hfn1.trans hfn) (by rw [htm]; exact hacc)
    refine ⟨h1, fun hw => ?_⟩
    obtain ⟨vs0, vs, e1, e2, hS⟩ := h2 hw
    refine ⟨vs0, vs, e1, by rw [← htm]; exact e2, ?_⟩
    exact .step rfl (fun _ => G fr1 [bot P]) (fun w => w.drawn) (fun _ => #[]) (fun w1 _ _ => ⟨ctl_step hm (hM.round.symm.trans hc.round) hc1 false [bot P] w1, by simp⟩) (fun _ _ _ => hS)
  | @draw fr' id ops' k' rest w hc hm' hd t ih =>
    intro hr fr hM hT hm hk hfn hacc
    obtain ⟨ops, k, hd1, rfl, hM1⟩ := draw_map hM hd
    have hfit : FitOps φ (· = acc) ops := by
      have := hM.fits
      unfold AtDraw at hd1
      rw [hd1] at this
      exact this.head
    have hsch : ∀ n, Region.schedule ((tw P F').follows .mixedOrders) (ops.map φ) n = Region.schedule (P.follows .mixedOrders) ops n := fun n => schedule_map hfit _ _
    have hT1 : ∀ l, Tst φ acc (.inRegion ops l :: k) := fun l => by
      unfold AtDraw at hd1
      rw [hd1] at hT
      generalize hl : Item.code (.region id ops true) :: k = L at hT
      cases hT with
      | @far pre id2 ops2 hp hlast =>
        cases pre with
        | nil => cases hl
        | cons it pre =>
          rw [List.cons_append] at hl
          injection hl with e1 e2
          subst e1 e2
          rw [← List.cons_append]
          exact .far (fun x hx => (List.mem_cons.1 hx).elim (fun e => by subst e; exact hp (.code (.region id ops true)) (List.mem_cons_self ..)) (fun hx => hp x (List.mem_cons_of_mem _ hx))) hlast
      | last _ => cases hl
    have hM2 := fun n => hM1 (Region.schedule ((tw P F').follows .mixedOrders) (ops.map φ) n)
    have step := fun n => ih n hr _ (hM2 n) (hT1 _) hm hk hfn hacc
    refine ⟨(step 0).1, fun hw => ?_⟩
    obtain ⟨vs0, vs, e1, e2, _⟩ := (step 0).2 hw
    refine ⟨vs0, vs, e1, e2, ?_⟩
    refine .step rfl (fun w1 => G { fr with todo := .inRegion ops (Region.schedule (P.follows .mixedOrders) ops (w1.tape w1.drawn (.order fr.fn id))) :: k } [bot P]) (fun w1 => w1.drawn + 1) (fun _ => #[]) (fun w1 _ _ => ⟨?_, by simp⟩) (fun w1 _ _ => ?_)
    · exact draw_step hm hd1 false [bot P] w1 w1.tape w1.drawn
    · obtain ⟨vs0', vs', e1', e2', hS⟩ := (step (w1.tape w1.drawn (.order fr.fn id))).2 hw
      rw [hsch] at hS
      rw [same_enc (e2.symm.trans e2') e1 e1']
      exact hS
  | @op fr' o' rest w hc hm' hat y hy t ih =>
    intro hr fr hM hT hm hk hfn hacc
    obtain ⟨o, ops, i, rest1, k, ht, ho, hw, rfl, hfit⟩ := op_map hM hat
    have hat1 : AtOp fr o := ⟨ops, i, rest1, k, ht, ho, hw⟩
    have hround : fr.roundOf = none := hM.round.symm.trans hc.round
    have hke : (fr.kind == CallKind.early) = false := by rw [hk]; rfl
    have hnc : ∀ d b r s l, fr.todo ≠ .call d b r s :: l := fun d b r s l e => by rw [ht] at e; cases e
    have ht' : fr'.todo = .inRegion (ops.map φ) (i :: rest1) :: k.map (mapI φ) := by rw [hM.todo, ht]; rfl
    have ho' : (ops.map φ)[i]? = some (φ o) := by rw [Array.getElem?_map, ho]; rfl
    rw [ht] at hT
    subst hr
    rcases tst_op hT ho with ⟨hp | ⟨ch, x, hs⟩, hT1⟩ | ⟨⟨ch, ats, hcl⟩, rfl, rfl⟩
    · -- it only reads
      have hex : execOp fr'.eval (φ o) = execOp fr.eval o := by rw [hp.same]; exact hp.out _ _ (fun x hx => hM.eval hx)
      have hro := roOp_of (P := P) (F' := F') (F := fun _ => False) hp.ro fr.eval
      have hrun : ∀ τ d, (execOp fr.eval o).runT (tw P F') (w.re τ d) #[] = (.ok (y τ d).nx ((y τ d).w.re τ (d + (y τ d).k)), (y τ d).fs) := fun τ d => by rw [← hex]; exact (hy τ d).1
      have hok : ∀ τ d, okNext (fun _ => False) (y τ d).nx := fun τ d => hro.post _ _ _ _ _ (hrun τ d)
      have hgrow : ∀ τ d, w.heap.size ≤ (y τ d).w.heap.size := fun τ d => by have h := hro.grow _ _ _ _ _ (hrun τ d); exact h
      have child := fun τ d => by
        have := ih τ d (top_val (hok τ d) P fr' []).2 (fr.finish (Next.val (y τ d).nx)) (by rw [(top_val (hok τ d) (tw P F') fr' []).1]; exact finish_map hM ht _ _ (fun _ _ _ => .inl rfl)) (by rw [(finish_todo ht _).1]; exact hT1) ((finish_todo ht _).2.1.trans hm) ((finish_todo ht _).2.2.1.trans hk) ((finish_todo ht _).2.2.2.1.trans hfn) (by rw [(top_val (hok τ d) (tw P F') fr' []).1, (finish_todo ht' _).2.2.2.2]; exact hacc)
        exact this
      refine ⟨Nat.le_trans (hgrow (fun _ _ => 0) 0) (child (fun _ _ => 0) 0).1, fun hw => ?_⟩
      have hsz : w.heap.size = B := by have := congrArg (fun x : World => x.heap.size) (hw (fun _ _ => 0) 0); exact Eq.trans this hB
      have hheap : w.heap = w0.heap := by have := congrArg (fun x : World => x.heap) (hw (fun _ _ => 0) 0); exact this
      have hsame : ∀ τ d, ((y τ d).w.re τ (d + (y τ d).k)).heap.size = w.heap.size := fun τ d => by
        have h1 := hgrow τ d
        have h2 := (child τ d).1
        show (y τ d).w.heap.size = _
        omega
      have real : ∀ τ d (u : World), Has w u → (∀ e ∈ (y τ d).fs, EvN B e) ∧ (∀ τ1 d1, (y τ d).w.re τ1 d1 = w.re τ1 d1) ∧ (execOp fr.eval o).runT P (u.re τ d) #[] = (.ok (y τ d).nx (u.re τ (d + (y τ d).k)), (y τ d).fs) := fun τ d u hu => by
        obtain ⟨n, h1, _, h3, h4⟩ := hro.run τ w u d #[] hu _ _ _ (hrun τ d) (hsame τ d)
        obtain ⟨e1, e2⟩ := re_inj h1
        have e3 : (y τ d).k = n := by omega
        refine ⟨fun e he => ?_, e2, ?_⟩
        · rcases h3 e he with h | h
          · simp at h
          · rw [hsz] at h; exact h
        · rw [e3]; exact h4 τ d (fun _ _ => rfl)
      have kid := fun τ d => (child τ d).2 (fun τ1 d1 => ((real τ d w (Has.refl w)).2.1 τ1 d1).trans (hw τ1 d1))
      have hacc1 : ∀ τ d, ((y τ d).top (tw P F') fr').tmps.getD acc undef = fr'.tmps.getD acc undef := fun τ d => by
        rw [(top_val (hok τ d) (tw P F') fr' []).1]
        exact finish_acc ht' ho' (by rw [hp.same]; exact hp.dst) _
      obtain ⟨vs0, vs, e1, e2, _⟩ := kid (fun _ _ => 0) 0
      rw [hacc1] at e2
      refine ⟨vs0, vs, e1, e2, ?_⟩
      refine .step rfl (fun w1 => G (fr.finish (Next.val (y w1.tape w1.drawn).nx)) [bot P]) (fun w1 => w1.drawn + (y w1.tape w1.drawn).k) (fun w1 => seen P fr.fn (y w1.tape w1.drawn).fs) (fun w1 hl hch => ?_) (fun w1 hl hch => ?_)
      · have hu : Has w w1 := fun k o hx => hHas w1 hl hch k o (by rw [← hheap]; exact hx)
        obtain ⟨h1, _, h3⟩ := real w1.tape w1.drawn w1 hu
        refine ⟨?_, fun e he => h1 e (mem_seen he)⟩
        rw [op_step hm hround hat1 false [bot P] w1]
        exact apply_val hke hnc h3 (hok _ _)
      · obtain ⟨vs0', vs', e1', e2', hS⟩ := kid w1.tape w1.drawn
        rw [hacc1] at e2'
        rw [same_enc (e2.symm.trans e2') e1 e1']
        exact hS
    · -- a send
      have hev : execOp fr'.eval (φ o) = Pure.pure (Next.value (.func (.func 0) #[] #[fr'.eval (.tmp acc), fr'.eval ch, fr'.eval x])) := by rw [hs.to]; simp [execOp, Instr.makeFunc]
      have hex : execOp fr.eval o = Pure.pure (Next.comm #[{ chan := fr.eval ch, send := some (fr.eval x), zero := .tuple #[] }] true .send) := by unfold execOp; rw [hs.op]
      have h0 := (hy (fun _ _ => 0) 0).1
      rw [hev] at h0
      have child := ih (fun _ _ => 0) 0
      generalize y (fun _ _ => 0) 0 = y0 at h0 child
      obtain ⟨h1, h2⟩ := Prod.mk.inj h0
      injection h1 with h3 h4
      obtain ⟨_, h5⟩ := re_inj h4
      have htop : y0.top (tw P F') fr' = fr'.finish (.func (.func 0) #[] #[fr'.eval (.tmp acc), fr'.eval ch, fr'.eval x]) := by unfold OpTo.top; rw [← h3]
      have hrest : y0.rest fr' [] = [] := by unfold OpTo.rest; rw [← h3]
      rw [htop, hrest] at child
      obtain ⟨c1, c2⟩ := child rfl (fr.finish undef) (finish_map hM ht _ _ (fun o2 ho2 hd => by rw [ho] at ho2; cases ho2; rw [hs.to, hs.dst] at hd; cases hd)) (by rw [(finish_todo ht _).1]; exact hT1) ((finish_todo ht _).2.1.trans hm) ((finish_todo ht _).2.2.1.trans hk) ((finish_todo ht _).2.2.2.1.trans hfn) (by rw [(finish_todo ht' _).2.2.2.2]; exact hacc)
      have hsz : w.heap.size = y0.w.heap.size := by have := congrArg (fun x : World => x.heap.size) (h5 (fun _ _ => 0) 0); exact this
      refine ⟨by omega, fun hw => ?_⟩
      obtain ⟨vs0, vs, e1, e2, hS⟩ := c2 (fun τ d => (h5 τ d).symm.trans (hw τ d))
      rw [finish_set ht' ho' (by rw [hs.to]) hacc] at e2
      obtain ⟨r, e3, e4, e5⟩ := enc_cons e2
      have e6 : vs0 = r.reverse ++ [fr'.eval x] := by
        have := congrArg List.reverse e3
        simpa using this
      refine ⟨r.reverse, fr'.eval x :: vs, by rw [e1, e6]; simp, by rw [List.reverse_reverse]; exact e4, ?_⟩
      rw [hM.eval hs.x]
      refine .send rfl (G fr [bot P]) (.tuple #[]) (fun _ => #[]) (fun w1 _ _ => ⟨?_, by simp⟩) hS
      rw [op_step hm hround hat1 false [bot P] w1, hex, ← hM.eval hs.ch, e5]
      simp [stepG.apply, hke, GStep.after, G, scase, Sem.runT, seen, Pure.pure]
    · -- the close
      have hev : execOp fr'.eval (φ o) = Pure.pure (Next.value (.func (.func 1) #[] #[fr'.eval (.tmp acc), fr'.eval ch])) := by rw [hcl.to]; simp [execOp, Instr.makeFunc]
      have h0 := (hy (fun _ _ => 0) 0).1
      rw [hev] at h0
      have child := t (fun _ _ => 0) 0
      generalize y (fun _ _ => 0) 0 = y0 at h0 child
      obtain ⟨h1, h2⟩ := Prod.mk.inj h0
      injection h1 with h3 h4
      obtain ⟨_, h5⟩ := re_inj h4
      have htop : y0.top (tw P F') fr' = fr'.finish (.func (.func 1) #[] #[fr'.eval (.tmp acc), fr'.eval ch]) := by unfold OpTo.top; rw [← h3]
      have hrest : y0.rest fr' [] = [] := by unfold OpTo.rest; rw [← h3]
      rw [htop, hrest] at child
      have hset := finish_set ht' ho' (by rw [hcl.to]) hacc (.func (.func 1) #[] #[fr'.eval (.tmp acc), fr'.eval ch])
      obtain ⟨g1, g2, _⟩ := finish_todo ht' (.func (.func 1) #[] #[fr'.eval (.tmp acc), fr'.eval ch])
      generalize fr'.finish (.func (.func 1) #[] #[fr'.eval (.tmp acc), fr'.eval ch]) = fr2 at child hset g1 g2
      have hSr : ∀ fr w, SStop acc c B vsAll fr w → fr.mode = .returning := fun _ _ h => h.back
      have t1 := child.ctl_inv hSr (g2.trans hm') (fr' := { fr2 with todo := [] }) (by unfold ctl; rw [g1]; rfl)
      have t2 := t1.ctl_inv hSr (g2.trans hm') (fr' := { fr2 with todo := [], mode := .returning }) (by unfold ctl; rfl)
      have hstop : SStop acc c B vsAll { fr2 with todo := [], mode := .returning } y0.w := by
        cases t2 with
        | stop h => exact h
        | ctl _ h _ _ => cases h
        | draw _ h _ _ => cases h
        | op _ h _ _ _ _ => cases h
      have hsz : w.heap.size = y0.w.heap.size := by have := congrArg (fun x : World => x.heap.size) (h5 (fun _ _ => 0) 0); exact this
      have hsS := hstop.size
      refine ⟨by omega, fun hw => ?_⟩
      obtain ⟨e4, e5⟩ := closed_inv (hset.symm.trans hstop.acc)
      refine ⟨vsAll, [], by simp, e4, ?_⟩
      obtain ⟨q1, q2, q3, q4, _⟩ := finish_todo ht (.tuple #[])
      refine .close rfl ?_ (G (fr.finish (.tuple #[])) [bot P]) (fun _ => #[⟨.obj c, false, true⟩]) 4 (fun w1 s r tm1 _ hch => ⟨?_, ?_⟩) ?_
      · simp [mayWake, G, hm, ht, ho, hcl.op]
      · have hrun : (execOp fr.eval o).runT P w1 #[] = (.ok (Next.value (.tuple #[])) (w1.shut c s r tm1), #[⟨.obj c, false, true⟩, ⟨.obj c, true, true⟩]) := by
          have e7 : fr.eval ch = .chan (some c) := (hM.eval hcl.ch).symm.trans e5
          unfold execOp
          rw [hcl.op]
          refine Prod.ext ?_ ?_
          · rw [Sem.runT_fst]
            simp [go_sem, e7, run_close_open (P := P) ats o.type hch, World.shut]
          · show Sem.events _ _ _ _ = _
            simp [go_sem, e7, events_close_open (P := P) (es := #[]) ats o.type hch]
        rw [op_step hm hround hat1 false [bot P] w1, apply_val hke hnc hrun trivial]
        simp [seen, Next.val]
      · intro e he
        simp at he
        subst he
        exact evN_obj _
      · have hd : fr.defers = [] := hM.defers.symm.trans hc.defers
        have hdd : (fr.finish (.tuple #[])).defers = [] := by unfold Frame.finish; rw [ht]; exact hd
        have hrr : (fr.finish (.tuple #[])).roundOf = none := by unfold Frame.finish; rw [ht]; exact hround
        generalize fr.finish (.tuple #[]) = fr3 at q1 q2 q3 q4 hdd hrr
        refine .inr ⟨rfl, G { fr3 with todo := [] } [bot P], fun w => ctl_step (q2.trans hm) hrr (by unfold ctl; rw [q1]) false _ w, ?_⟩
        refine .inr ⟨rfl, G { fr3 with todo := [], mode := .returning } [bot P], fun w => ctl_step (fr := { fr3 with todo := [] }) (q2.trans hm) hrr (by unfold ctl; rfl) false _ w, ?_⟩
        exact bot_leaves rfl (q3.trans hk) hdd (by show P.funcs[fr3.fn]? = some fn; rw [q4, hfn]; exact hf) hres
end
end Go.Goes

-- Child
/-
  The go statement's own step, and the child's first.
-/
namespace Go.Goes
open Go.Conc
set_option linter.unusedVariables false
section
variable {P : Program} {F' : Array Func} {F : FuncId → Prop} {φ : Oper → Oper} {acc c B : Nat} {tm : Bool} {w0 : World} {vsAll : List Value}
/-- The child, as the go statement makes it. -/
def newborn (P : Program) (f : FuncId) (args : Array Value) : Goroutine := G { (default : Frame) with fn := P.funcs.size, defers := [{ target := .fn (.func f) #[], args := args }], mode := .panicking [goexitEntry] } []
theorem go_step {fr : Frame} {o : Oper} {f : FuncId} {args : Array Operand} {ats : Array TypeId} (hm : fr.mode = .run) (hr : fr.roundOf = none) (hk : (fr.kind == CallKind.early) = false) (h : AtOp fr o) (hop : o.op = .go { callee := .value (.func f), args := args, argTypes := ats }) (hf : fr.eval (.func f) = .func (.func f) #[] #[]) (main : Bool) (cs : List Frame) (w : World) :
    stepG P main (G fr cs) w = .spawn (G (fr.finish undef) cs) (newborn P f (args.map fr.eval)) w #[] := by
  have hex : execOp fr.eval o = Pure.pure (Next.spawn { target := .fn (.func f) #[], args := args.map fr.eval }) := by
    unfold execOp; rw [hop]; simp [resolve, Deferred.ofValue, hf]
  rw [op_step hm hr h main cs w, hex]
  simp [stepG.apply, hk, GStep.after, G, seen, Pure.pure, newborn]
theorem child_start {f : FuncId} {fn : Func} {body : Code} {args : Array Value} {vs : List Value} (hf : P.funcs[f]? = some fn) (hb : fn.body = some body) (hn : (fn.name == "runtime.NumGoroutine") = false) (h : SD P c B tm w0 vs (G (Frame.enter P f args .deferred) [bot P])) : SD P c B tm w0 vs (newborn P f args) := by
  refine .step rfl (fun _ => G (Frame.enter P f args .deferred) [bot P]) (fun w => w.drawn) (fun _ => #[]) (fun w _ _ => ⟨?_, by simp⟩) (fun _ _ _ => h)
  have hinv : (invoke (.fn (.func f) #[]) args).runT P w #[] = (.ok (Next.enter f args) w, #[]) := by
    show (callFunc f (args ++ #[])).runT P w #[] = _
    rw [Array.append_empty]
    unfold callFunc
    show Sem.runT P ((match P.funcs[f]? with | none => _ | some fn => _ : Sem Next)) w #[] = _
    rw [hf]
    simp only [hn, hb, Option.isNone_some, Bool.false_eq_true, if_false]
    rfl
  simp only [newborn, G, stepG, unwind, callDeferred]
  rw [hinv]
  simp [seen, GStep.after, bot, World.at]
end
end Go.Goes

-- Child2
/-
  The child's script from the tree of its lone twin, at its entry.
-/
namespace Go.Goes
open Go.Conc
set_option linter.unusedVariables false
/-- A function and its lone twin: one slot more, the operations replaced. -/
structure TwinOf (φ : Oper → Oper) (P : Program) (F' : Array Func) (f0 fz : FuncId) (nt : Nat) (A : Code) (id : Nat) (ops : Array Oper) : Prop where
  real : ∃ fn, P.funcs[f0]? = some fn ∧ fn.body = some (.seq A (.region id ops false)) ∧ fn.ntmps = nt ∧ fn.results = #[] ∧ (fn.name == "runtime.NumGoroutine") = false
  twin : ∃ fn, F'[fz]? = some fn ∧ fn.body = some (.seq (mapC φ A) (.region id (ops.map φ) false)) ∧ fn.ntmps = nt + 1
  fitA : FitC φ (· = nt) A
  fitR : FitOps φ (· = nt) ops
  ncc : NCC φ nt A
  lastOk : LastOk φ nt ops (List.range ops.size)
section
variable {P : Program} {F' : Array Func} {F : FuncId → Prop} {φ : Oper → Oper} {c B : Nat} {tm : Bool} {w0 : World} {vs : List Value}
theorem sd_of_tree {f0 fz : FuncId} {nt : Nat} {A : Code} {id : Nat} {ops : Array Oper} (hT : TwinOf φ P F' f0 fz nt A id ops) (hHas : ∀ w1, Lo c B w0 w1 → Ch c tm w1 → Has w0 w1) (hB : w0.heap.size = B)
    {args : Array Value} (hargs : args.size ≤ nt) (h : Tr (tw P F') F (SStop nt c B vs) (Frame.enter (tw P F') fz args .normal) [] w0) : SD P c B tm w0 vs (newborn P f0 args) := by
  obtain ⟨fn, hf, hb, hnt, hres, hname⟩ := hT.real
  obtain ⟨fn', hf', hb', hnt'⟩ := hT.twin
  refine child_start hf hb hname ?_
  have e1 : Frame.enter P f0 args .deferred = { fn := f0, tmps := args ++ Array.replicate (nt - args.size) undef, todo := [.code (.seq A (.region id ops false))], defers := [], mode := .run, kind := .deferred } := by
    unfold Frame.enter; simp only [hf, Option.map_some, Option.bind_some, hb, hnt, Option.getD_some]
  have e2 : Frame.enter (tw P F') fz args .normal = { fn := fz, tmps := args ++ Array.replicate (nt + 1 - args.size) undef, todo := [.code (.seq (mapC φ A) (.region id (ops.map φ) false))], defers := [], mode := .run, kind := .normal } := by
    unfold Frame.enter; simp only [hf', Option.map_some, Option.bind_some, hb', hnt', Option.getD_some]
  rw [e1]
  rw [e2] at h
  have hSr : ∀ fr w, SStop nt c B vs fr w → fr.mode = .returning := fun _ _ h => h.back
  have t1 := h.ctl_inv hSr rfl (fr' := { fn := fz, tmps := args ++ Array.replicate (nt + 1 - args.size) undef, todo := [.code (mapC φ A), .code (.region id (ops.map φ) false)], defers := [], mode := .run, kind := .normal }) rfl
  have hM : Mp φ (· = nt) { fn := f0, tmps := args ++ Array.replicate (nt - args.size) undef, todo := [.code A, .code (.region id ops false)], defers := [], mode := .run, kind := .deferred } { fn := fz, tmps := args ++ Array.replicate (nt + 1 - args.size) undef, todo := [.code (mapC φ A), .code (.region id (ops.map φ) false)], defers := [], mode := .run, kind := .normal } := by
    refine ⟨rfl, ?_, fun i hi => ?_, rfl, rfl, rfl⟩
    · exact .cons (it := .code A) hT.fitA (.cons (it := .code (.region id ops false)) hT.fitR (fun x hx => by cases hx))
    · dsimp only
      simp only [Array.getElem?_append, Array.getElem?_replicate]
      split
      · rfl
      · have : (i - args.size < nt + 1 - args.size) ↔ (i - args.size < nt - args.size) := by omega
        simp only [this]
  have hTs : Tst φ nt [.code A, .code (.region id ops false)] := .far (pre := [.code A]) (fun it hit => by rw [List.mem_singleton.1 hit]; exact hT.ncc) hT.lastOk
  obtain ⟨_, h2⟩ := send_tree hHas hB hf hres t1 rfl _ hM hTs rfl rfl rfl (by simp; omega)
  obtain ⟨vs0, vs1, q1, q2, hS⟩ := h2 (fun _ _ => rfl)
  have hacc : (args ++ Array.replicate (nt + 1 - args.size) undef).getD nt undef = undef := by
    rw [Array.getD_eq_getD_getElem?, Array.getElem?_append_right hargs, Array.getElem?_replicate]
    split <;> rfl
  have q3 : encR c [] = encR c vs0.reverse := hacc.symm.trans q2
  have q4 : vs0 = [] := by have := encR_inj q3; simpa using this.symm
  subst q4
  rw [List.nil_append] at q1
  subst q1
  exact .step rfl (fun _ => G { fn := f0, tmps := args ++ Array.replicate (nt - args.size) undef, todo := [.code A, .code (.region id ops false)], defers := [], mode := .run, kind := .deferred } [bot P]) (fun w => w.drawn) (fun _ => #[]) (fun w1 _ _ => ⟨ctl_step (fr := { fn := f0, tmps := args ++ Array.replicate (nt - args.size) undef, todo := [.code (.seq A (.region id ops false))], defers := [], mode := .run, kind := .deferred }) rfl rfl rfl false [bot P] w1, by simp⟩) (fun _ _ _ => hS)
end
end Go.Goes

-- Stroke1
/-
  The worlds while the sender runs.
-/
namespace Go.Goes
open Go.Conc
set_option linter.unusedVariables false
section
variable {fz : Bool} {c B : Nat} {tm : Bool} {x u w w₁ : World}
/-- Whatever the sender does to the channel's block, the worlds stay alike. -/
theorem Vr.as (h : Vr fz x w) (hx : ∃ cl s r, x.heap[c]? = some (.chan 0 #[] cl s r tm)) (ha : As c w w₁) (hc : Ch c tm w₁) : Vr fz x w₁ := by
  refine ⟨ha.os.trans h.os, ha.output.trans h.output, ha.size.trans h.size, fun k o ho => ?_⟩
  by_cases hk : k = c
  · subst hk
    obtain ⟨cl, s, r, hx⟩ := hx
    obtain ⟨cl', s', r', hw⟩ := hc
    rw [hx] at ho
    cases ho
    exact ⟨_, hw, .inr (.inl ⟨_, _, _, _, _, _, _, rfl, rfl⟩)⟩
  · rw [ha.block k hk]; exact h.block k o ho
/-- What the follower lists while the reference is sealed below B. -/
theorem ev0_of {e : Event} (h : EvS false B e) : Ev0 B e := ⟨h.1, fun y hy hw hl => by
  obtain ⟨h1, h2⟩ := h.2 y hy hw
  cases hloc : y.loc with
  | cell a => exact h1 (by rw [hloc]; exact hl a hloc)
  | obj r => exact h2 rfl r hloc
  | _ => exact h1 (by rw [hloc]; trivial)⟩
end
end Go.Goes

-- Both
/-
  One operation, followed from two references at once.
-/
namespace Go.Goes
open Go.Conc
set_option linter.unusedVariables false
section
variable {P : Program} {F' : Array Func} {fs : List FuncId} {B : Nat}
theorem Vr.to {fz : Bool} {x u u' : World} (h : Vr fz x u) (e : ∀ τ d, u.re τ d = u'.re τ d) : Vr fz x u' := by
  have h0 := e (fun _ _ => 0) 0
  have h1 : u.heap = u'.heap := by have := congrArg World.heap h0; exact this
  have h2 : u.os = u'.os := by have := congrArg World.os h0; exact this
  have h3 : u.output = u'.output := by have := congrArg World.output h0; exact this
  exact ⟨by rw [← h2]; exact h.os, by rw [← h3]; exact h.output, by rw [← h1]; exact h.size, by rw [← h1]; exact h.block⟩
/-- What is known behind an operation. -/
structure Both (P : Program) (fs : List FuncId) (B : Nat) (m : Sem Next) (τ : Nat → Question → Nat) (d : Nat) (u : World) (y1 y2 : OpTo) (u' : World) : Prop where
  nx : y1.nx = y2.nx
  vr1 : Vr true y1.w u'
  vr2 : Vr false y2.w u'
  sealed_ : Sealed B y2.w
  low : ∀ k, k < B → u'.heap[k]? = u.heap[k]?
  objs : ∀ (k : Nat) (o : Obj), u.heap[k]? = some o → (∀ c e f, o ≠ .cells c e f) → u'.heap[k]? = some o
  ok : okNext (· ∈ fs) y2.nx
  evs : ∀ e ∈ y2.fs, EvS false B e
  run : m.runT P (u.re τ d) #[] = (.ok y2.nx (u'.re τ (d + y2.k)), y2.fs)
theorem op_both (hA : Alike P F' fs) {o : Oper} (ho : simOpB P fs o = true) {fr : Frame} {x1 x2 u : World} (hV1 : Vr true x1 u) (hV2 : Vr false x2 u) (hS : Sealed B x2) {τ : Nat → Question → Nat} {d : Nat} {y1 y2 : OpTo}
    (h1 : (execOp fr.eval o).runT (tw P F') (x1.re τ d) #[] = (.ok y1.nx (y1.w.re τ (d + y1.k)), y1.fs))
    (h2 : (execOp fr.eval o).runT (tw P F') (x2.re τ d) #[] = (.ok y2.nx (y2.w.re τ (d + y2.k)), y2.fs)) : ∃ u', Both P fs B (execOp fr.eval o) τ d u y1 y2 u' := by
  obtain ⟨u1, a1, _, _, _, _, _, a7⟩ := op_follow (Pb := P) (fz := true) (B := 0) (fun _ => rfl) hA ho hV1 (sealed0 _) h1
  obtain ⟨u2, b1, b2, b3, b4, b5, _, b7⟩ := op_follow (Pb := P) (fz := false) (B := B) (fun h => by cases h) hA ho hV2 hS h2
  have r1 := a7 τ d (fun _ _ => rfl)
  have r2 := b7 τ d (fun _ _ => rfl)
  obtain ⟨e1, _⟩ := Prod.mk.inj (r1.symm.trans r2)
  injection e1 with e2 e3
  refine ⟨u2, e2, a1.to (re_inj e3).2, b1, b2, b3, fun k o' ho' hne => ?_, b4, b5, r2⟩
  have := (simOp_of (P := P) (F' := F') (fz := false) hA ho fr.eval (fun _ => rfl)).objs rfl _ _ _ _ _ r2 k o' ho' hne
  exact this
end
end Go.Goes

-- Along
/-
  By induction over the tree, with what is shown at the return of each call that comes to it alone.
-/
namespace Go.Goes
open Go.Conc
set_option linter.unusedVariables false
section
variable {P : Program} {F : FuncId → Prop} {Stop : Frame → World → Prop} {M : Frame → List Frame → World → Prop}
/-- A run of one goroutine down to the caller leads where M holds. -/
def Along (P : Program) (M : Frame → List Frame → World → Prop) (fr : Frame) (stack : List Frame) (w : World) : Prop :=
  ∀ (r1 : List Frame) (c : Frame) (r2 : List Frame), stack = r1 ++ c :: r2 → ∀ (N : Nat) (τ : Nat → Question → Nat) (d : Nat) (fr' : Frame) (w' : World) (v : Value),
    runN P N (lone fr (r1 ++ [dead]) (w.re τ d)) = .next (lone fr' [dead] w') → fr'.leaving P w' (.returned v) → ∃ u d', w' = World.re u τ d' ∧ M (c.finish v) r2 u
theorem Tr.induct3 (hMre : ∀ fr rest u w, (∀ τ d, u.re τ d = w.re τ d) → M fr rest u → M fr rest w)
    (hstop : ∀ fr w, Stop fr w → M fr [] w)
    (hctl : ∀ fr fr' rest w, CalmF P F fr → fr.mode = .run → Goes.ctl fr = some fr' → M fr' rest w → M fr rest w)
    (hdraw : ∀ fr id ops k rest w, CalmF P F fr → fr.mode = .run → AtDraw fr id ops k → (∀ n, M { fr with todo := .inRegion ops (Region.schedule (P.follows .mixedOrders) ops n) :: k } rest w) → M fr rest w)
    (hop : ∀ fr o rest w, CalmF P F fr → fr.mode = .run → AtOp fr o → ∀ y : (Nat → Question → Nat) → Nat → OpTo, (∀ τ d, (execOp fr.eval o).runT P (w.re τ d) #[] = (.ok (y τ d).nx ((y τ d).w.re τ (d + (y τ d).k)), (y τ d).fs) ∧ okNext F (y τ d).nx) →
      (∀ τ d, M ((y τ d).top P fr) ((y τ d).rest fr rest) (y τ d).w ∧ Along P M ((y τ d).top P fr) ((y τ d).rest fr rest) (y τ d).w) → M fr rest w)
    (hret : ∀ fr c fn rest w, CalmF P F fr → fr.mode = .returning → P.funcs[fr.fn]? = some fn → ∀ y : (Nat → Question → Nat) → Nat → RetTo, (∀ τ d, (results fn fr.tmps).runT P (w.re τ d) #[] = (.ok (y τ d).v ((y τ d).w.re τ (d + (y τ d).k)), (y τ d).fs)) → (∀ τ d, M (c.finish (y τ d).v) rest (y τ d).w) → M fr (c :: rest) w)
    {fr : Frame} {stack : List Frame} {w : World} (h : Tr P F Stop fr stack w) : M fr stack w ∧ Along P M fr stack w := by
  induction h with
  | stop h => exact ⟨hstop _ _ h, fun r1 c r2 e => by cases r1 <;> cases e⟩
  | @ctl fr fr1 rest w hc hm h t ih =>
    refine ⟨hctl _ _ _ _ hc hm h ih.1, ?_⟩
    intro r1 c r2 e N τ d fr' w' v hr hl
    cases N with
    | zero =>
      simp only [runN] at hr
      injection hr with hr
      obtain ⟨e1, _, _⟩ := lone_inj hr
      rw [← e1] at hl
      have := hl.1
      rw [hm] at this; cases this
    | succ N => exact ih.2 r1 c r2 e N τ d fr' w' v (lone_next (step_go (ctl_step hm hc.round h true _ _)) hr) hl
  | @draw fr id ops k rest w hc hm h t ih =>
    refine ⟨hdraw _ _ _ _ _ _ hc hm h (fun n => (ih n).1), ?_⟩
    intro r1 c r2 e N τ d fr' w' v hr hl
    cases N with
    | zero =>
      simp only [runN] at hr
      injection hr with hr
      obtain ⟨e1, _, _⟩ := lone_inj hr
      rw [← e1] at hl
      have := hl.1
      rw [hm] at this; cases this
    | succ N => exact (ih _).2 r1 c r2 e N τ (d + 1) fr' w' v (lone_next (step_go (draw_step hm h true _ w τ d)) hr) hl
  | @op fr o rest w hc hm h y hy t ih =>
    refine ⟨hop _ _ _ _ hc hm h y hy ih, ?_⟩
    intro r1 c r2 e N τ d fr' w' v hr hl
    subst e
    cases N with
    | zero =>
      simp only [runN] at hr
      injection hr with hr
      obtain ⟨e1, _, _⟩ := lone_inj hr
      rw [← e1] at hl
      have := hl.1
      rw [hm] at this; cases this
    | succ N =>
      obtain ⟨h1, h2⟩ := hy τ d
      have h3 := op_step (P := P) hm hc.round h true (r1 ++ [dead]) (w.re τ d)
      have ih' := (ih τ d).2 ((y τ d).rest fr r1) c r2 (by unfold OpTo.rest; split <;> rfl) N τ (d + (y τ d).k) fr' w' v
      unfold OpTo.top OpTo.rest at ih'
      cases hnx : (y τ d).nx <;> rw [hnx] at h1 h2 ih' <;> try exact h2.elim
      case value v' =>
        rw [apply_ok (kind_normal hc) (waits_nocall (op_waits h)) h1] at h3
        exact ih' (lone_next (step_go h3) hr) hl
      case skip =>
        rw [apply_ok (kind_normal hc) (waits_nocall (op_waits h)) h1] at h3
        exact ih' (lone_next (step_go h3) hr) hl
      case enter f args =>
        rw [apply_ok (kind_normal hc) (waits_nocall (op_waits h)) h1] at h3
        exact ih' (lone_next (step_go h3) hr) hl
  | @ret fr c0 fn rest w hc hm hfn y hy t ih =>
    refine ⟨hret _ _ _ _ _ hc hm hfn y hy (fun τ d => (ih τ d).1), ?_⟩
    intro r1 c r2 e N τ d fr' w' v hr hl
    have hrr := hy τ d
    have hrun : (results fn fr.tmps).run P (w.re τ d) = .ok (y τ d).v ((y τ d).w.re τ (d + (y τ d).k)) := by rw [Sem.runT_eq] at hrr; exact (Prod.mk.inj hrr).1
    have hev : (results fn fr.tmps).events P (w.re τ d) #[] = (y τ d).fs := by rw [Sem.runT_eq] at hrr; exact (Prod.mk.inj hrr).2
    have hd := hc.defers
    have hkk := hc.kind
    cases r1 with
    | nil =>
      rw [List.nil_append] at e
      cases e
      cases N with
      | zero =>
        simp only [runN] at hr
        injection hr with hr
        obtain ⟨e1, _, e3⟩ := lone_inj hr
        rw [← e1, ← e3] at hl
        obtain ⟨_, _, _, fn', hfn', hres⟩ := hl
        rw [hfn] at hfn'; cases hfn'
        rw [hrun] at hres
        injection hres with a1 a2
        refine ⟨w, d, e3.symm, ?_⟩
        rw [← a1]
        exact hMre _ _ _ _ (fun τ d => (re_inj a2).2 τ d) (ih τ d).1
      | succ N =>
        exfalso
        have h6 : stepG P true (G fr [dead]) (w.re τ d) = .go (G (dead.finish (y τ d).v) []) ((y τ d).w.re τ (d + (y τ d).k)) (seen P fr.fn (y τ d).fs) := by
          simp [stepG, unwind, doReturn, G, hm, hd, hkk, hfn, hrun, hev, GStep.after]
        have h7 := lone_next (step_go h6) hr
        rw [dead_finish] at h7
        cases N with
        | zero =>
          simp only [runN] at h7
          injection h7 with h7
          exact absurd (lone_inj h7).2.1 (by simp)
        | succ N =>
          obtain ⟨o, w3, he⟩ := dead_run (P := P) ((y τ d).w.re τ (d + (y τ d).k))
          rw [runN_ended he] at h7; cases h7
    | cons c1 r1 =>
      rw [List.cons_append] at e
      cases e
      cases N with
      | zero =>
        simp only [runN] at hr
        injection hr with hr
        exact absurd (congrArg List.length (lone_inj hr).2.1) (by simp)
      | succ N =>
        have h6 : stepG P true (G fr (c0 :: r1 ++ [dead])) (w.re τ d) = .go (G (c0.finish (y τ d).v) (r1 ++ [dead])) ((y τ d).w.re τ (d + (y τ d).k)) (seen P fr.fn (y τ d).fs) := by
          simp [stepG, unwind, doReturn, G, hm, hd, hkk, hfn, hrun, hev, GStep.after]
        exact (ih τ d).2 r1 c r2 rfl N τ (d + (y τ d).k) fr' w' v (lone_next (step_go h6) hr) hl
/-- A call by its lone contract. -/
theorem Along.skip (hMre : ∀ fr rest u w, (∀ τ d, u.re τ d = w.re τ d) → M fr rest u → M fr rest w) {f : FuncId} {args : Array Value} {c : Frame} {r2 : List Frame} {w : World} (h : Along P M (Frame.enter P f args .normal) (c :: r2) w) {v : Value} (hC : Calls P f args (w.re (fun _ _ => 0) 0) (fun e w' => e = .returned v ∧ w' = w.re (fun _ _ => 0) 0)) : M (c.finish v) r2 w := by
  obtain ⟨e, w', fr', ⟨rfl, rfl⟩, ⟨N, hN⟩, _, hl⟩ := hC [dead]
  obtain ⟨u, d', e1, ht⟩ := h [] c r2 rfl N (fun _ _ => 0) 0 fr' _ v hN hl
  exact hMre _ _ _ _ (fun τ d => ((re_inj e1).2 τ d).symm) ht
/-- An operation of the tree. -/
theorem Tr.op_get (hSr : ∀ fr w, Stop fr w → fr.mode = .returning) {fr : Frame} {o : Oper} {rest : List Frame} {w : World} (h : Tr P F Stop fr rest w) (hm : fr.mode = .run) (ho : AtOp fr o) :
    ∃ y : (Nat → Question → Nat) → Nat → OpTo, (∀ τ d, (execOp fr.eval o).runT P (w.re τ d) #[] = (.ok (y τ d).nx ((y τ d).w.re τ (d + (y τ d).k)), (y τ d).fs) ∧ okNext F (y τ d).nx) ∧ ∀ τ d, Tr P F Stop ((y τ d).top P fr) ((y τ d).rest fr rest) (y τ d).w := by
  cases h with
  | stop h => have := hSr _ _ h; rw [hm] at this; cases this
  | ctl _ _ h t => rw [ctl_op ho] at h; cases h
  | draw _ _ h t => exact (op_not_draw ho h).elim
  | op _ _ h y hy t =>
    obtain rfl := op_one h ho
    exact ⟨y, hy, t⟩
  | ret _ hm' _ _ _ _ => rw [hm] at hm'; cases hm'
/-- A return of the tree. -/
theorem Tr.ret_get {fr c : Frame} {rest : List Frame} {w : World} (h : Tr P F Stop fr (c :: rest) w) (hm : fr.mode = .returning) :
    ∃ fn, P.funcs[fr.fn]? = some fn ∧ ∃ y : (Nat → Question → Nat) → Nat → RetTo, (∀ τ d, (results fn fr.tmps).runT P (w.re τ d) #[] = (.ok (y τ d).v ((y τ d).w.re τ (d + (y τ d).k)), (y τ d).fs)) ∧ ∀ τ d, Tr P F Stop (c.finish (y τ d).v) rest (y τ d).w := by
  cases h with
  | ctl _ hm' h t => rw [hm] at hm'; cases hm'
  | draw _ hm' h t => rw [hm] at hm'; cases hm'
  | op _ hm' h y hy t => rw [hm] at hm'; cases hm'
  | ret _ _ hfn' y hy t => exact ⟨_, hfn', y, hy, t⟩
end
end Go.Goes

-- Stroke2
/-
  StrokeOf: the kinds of its operations, the straight piece around the go statement, what is shown in each phase.
-/
namespace Go.Goes
open Go.Conc
set_option linter.unusedVariables false

/-- What the twin's slot holds of the edges that are still to come. -/
def Lv (z : Value) : List Value → Value
  | [] => .tuple #[z, .bool false]
  | v :: vs => .tuple #[v, .bool true, Lv z vs]
section
variable (P : Program) (fs : List FuncId) (φ : Oper → Oper) (q ch : Nat) (z : Value)
/-- An operation that is the same in both. -/
structure PlainS (o : Oper) : Prop where
  same : φ o = o
  sim : simOpB P fs o = true
  out : SameOp (· = q) o
  dst : o.dst ≠ some q ∧ o.dst ≠ some ch ∧ o.dst ≠ some 0
  nomk : ∀ t s, o.op ≠ .makeChan t s
structure ExtS (o : Oper) (j : Nat) : Prop where
  op : o.op = .extract (.tmp q) j
  lt : j < 2
  same : φ o = o
  dst : o.dst ≠ some q ∧ o.dst ≠ some ch ∧ o.dst ≠ some 0
structure RcvS (o : Oper) : Prop where
  dst : o.dst = some q
  guard : o.guard = none
  to : φ o = { o with op := .extract (.tmp q) 2 }
  run : ∀ (ρ : Operand → Value) (w : World), (execOp ρ o).runT P w #[] = (.ok (Next.comm #[{ chan := ρ (.tmp ch), send := none, zero := z }] true (.recv true)) w, #[])
def Kd (o : Oper) : Prop := PlainS P fs φ q ch o ∨ (∃ j, ExtS φ q ch o j) ∨ RcvS P φ q ch z o
/-- What is known on the straight piece: nothing; slots that hold the channel, slots that hold the lines; the same behind the go statement. -/
inductive Tk where
  | none
  | made (KC KL : List Nat)
  | gone (KC : List Nat)
structure MvS (o : Oper) (s d : Nat) : Prop where
  op : o.op = .move (.tmp s) ∨ o.op = .assign (.tmp s)
  dst : o.dst = some d
  same : φ o = o
  guard : o.guard = none
  q : s ≠ q ∧ d < q ∧ d ≠ 0
variable (f0 fY : FuncId)
inductive LStep : Tk → Oper → Tk → Prop
  | mk {o : Oper} {t : TypeId} {s : Operand} {d : Nat} (op : o.op = .makeChan t s) (hs : ∀ fr : Frame, fr.eval s = .int .i64 0) (dst : o.dst = some d) (same : φ o = o) (guard : o.guard = none) (hd : d < q ∧ d ≠ 0) : LStep .none o (.made [d] [0])
  | mvC {o : Oper} {s d : Nat} {KC KL : List Nat} (h : MvS φ q o s d) (hs : s ∈ KC) (hd : d ∉ KL) : LStep (.made KC KL) o (.made (d :: KC) KL)
  | mvL {o : Oper} {s d : Nat} {KC KL : List Nat} (h : MvS φ q o s d) (hs : s ∈ KL) (hd : d ∉ KC) : LStep (.made KC KL) o (.made KC (d :: KL))
  | go {o : Oper} {a s : Nat} {ats ats' : Array TypeId} {KC KL : List Nat} (op : o.op = .go { callee := .value (.func f0), args := #[.tmp a, .tmp s], argTypes := ats }) (dst : o.dst = none) (guard : o.guard = none)
      (to : φ o = { o with dst := some q, op := .call { callee := .value (.func fY), args := #[.tmp 0], argTypes := ats' } }) (ha : a ∈ KL) (hs : s ∈ KC) : LStep (.made KC KL) o (.gone KC)
  | mvG {o : Oper} {s d : Nat} {KC : List Nat} (h : MvS φ q o s d) (hs : s ∈ KC) : LStep (.gone KC) o (.gone (d :: KC))
inductive Line : Tk → List Item → Prop
  | seq {tk : Tk} {a b : Code} {k : List Item} (h : Line tk (.code a :: .code b :: k)) : Line tk (.code (.seq a b) :: k)
  | reg {tk : Tk} {id : Nat} {ops : Array Oper} {k : List Item} (h : Line tk (.inRegion ops (List.range ops.size) :: k)) : Line tk (.code (.region id ops false) :: k)
  | blk {tk : Tk} {id : Nat} {c : Code} {k : List Item} (h : Line tk (.code c :: .inBlock id :: k)) : Line tk (.code (.block id c) :: k)
  | lop {tk : Tk} {c : Code} {k : List Item} (h : Line tk (.code c :: .inLoop c :: k)) : Line tk (.code (.loop c) :: k)
  | done {tk : Tk} {ops : Array Oper} {k : List Item} (h : Line tk k) : Line tk (.inRegion ops [] :: k)
  | op {tk tk' : Tk} {ops : Array Oper} {i : Nat} {l : List Nat} {k : List Item} {o : Oper} (ho : ops[i]? = some o) (hs : LStep φ q f0 fY tk o tk') (h : Line tk' (.inRegion ops l :: k)) : Line tk (.inRegion ops (i :: l) :: k)
  | run {KC : List Nat} {ops : Array Oper} {i : Nat} {l : List Nat} {k : List Item} {o : Oper} (ho : ops[i]? = some o) (hr : RcvS P φ q ch z o) (hch : ch ∈ KC) (hall : AllL (Kd P fs φ q ch z) (.inRegion ops (i :: l) :: k)) : Line (.gone KC) (.inRegion ops (i :: l) :: k)
inductive Ahd2 : Code → Prop
  | here {c : Code} (h : Line P fs φ q ch z f0 fY .none [.code c]) : Ahd2 c
  | more {a b : Code} (ha : AllC (PlainS P fs φ q ch) a) (hb : Ahd2 b) : Ahd2 (.seq a b)
inductive Pre2 : List Item → Prop
  | far {pre : List Item} {c : Code} (hp : AllL (PlainS P fs φ q ch) pre) (hc : Ahd2 P fs φ q ch z f0 fY c) : Pre2 (pre ++ [.code c])
  | line {l : List Item} (h : Line P fs φ q ch z f0 fY .none l) : Pre2 l
end
section
variable {P : Program} {fs : List FuncId} {φ : Oper → Oper} {q ch : Nat} {z : Value} {f0 fY : FuncId} {fr fr1 : Frame}
theorem LStep.guard {tk tk' : Tk} {o : Oper} (h : LStep φ q f0 fY tk o tk') : o.guard = none := by
  cases h with
  | mk _ _ _ _ h _ => exact h
  | mvC h _ _ => exact h.guard
  | mvL h _ _ => exact h.guard
  | go _ _ h _ _ _ => exact h
  | mvG h _ => exact h.guard
/-- Control along the straight piece. -/
theorem ctl_line {tk : Tk} (h : Line P fs φ q ch z f0 fY tk fr.todo) (hc : ctl fr = some fr1) : Line P fs φ q ch z f0 fY tk fr1.todo ∧ fr1.mode = fr.mode ∧ fr1.tmps = fr.tmps := by
  unfold ctl at hc
  generalize hl : fr.todo = l at hc h
  cases h with
  | seq h => cases hc; exact ⟨h, rfl, rfl⟩
  | reg h => cases hc; exact ⟨h, rfl, rfl⟩
  | blk h => cases hc; exact ⟨h, rfl, rfl⟩
  | lop h => cases hc; exact ⟨h, rfl, rfl⟩
  | done h => cases hc; exact ⟨h, rfl, rfl⟩
  | op ho hs h =>
    exfalso
    simp [ho, Region.wanted, hs.guard] at hc
  | run ho hr hch hall =>
    exfalso
    simp [ho, Region.wanted, hr.guard] at hc
theorem ctl_pre2 (h : Pre2 P fs φ q ch z f0 fY fr.todo) (hc : ctl fr = some fr1) : Pre2 P fs φ q ch z f0 fY fr1.todo ∨ fr1.mode = .returning := by
  generalize hl : fr.todo = l at h
  cases h with
  | line h => rw [← hl] at h; exact .inl (.line (ctl_line h hc).1)
  | far hp hcd =>
    rename_i pre c
    cases pre with
    | nil =>
      cases hcd with
      | here h =>
        rw [List.nil_append] at hl
        rw [← hl] at h
        exact .inl (.line (ctl_line h hc).1)
      | more ha hb =>
        rename_i a b
        rw [List.nil_append] at hl
        unfold ctl at hc
        rw [hl] at hc
        cases hc
        exact .inl (.far (pre := [.code a]) (.cons (it := .code a) ha (fun _ h => by cases h)) hb)
    | cons it k =>
      unfold ctl at hc
      rw [hl] at hc
      have hi := hp.head
      have hk := hp.tail
      have mk : ∀ h : List Item, AllL (PlainS P fs φ q ch) h → Pre2 P fs φ q ch z f0 fY (h ++ k ++ [.code c]) := fun h hh => .far (fun x hx => (List.mem_append.1 hx).elim (hh x) (hk x)) hcd
      have one : ∀ it, AllI (PlainS P fs φ q ch) it → AllL (PlainS P fs φ q ch) [it] := fun it h => .cons h (fun _ h => by cases h)
      have two : ∀ it it', AllI (PlainS P fs φ q ch) it → AllI (PlainS P fs φ q ch) it' → AllL (PlainS P fs φ q ch) [it, it'] := fun it it' h h' => .cons h (one it' h')
      rw [List.cons_append] at hc
      cases it with
      | inBlock id => cases hc; exact .inl (.far hk hcd)
      | inScope c => exact hi.elim
      | inLoop c => cases hc; exact .inl (mk _ (two (.code c) (.inLoop c) hi hi))
      | inRangeFunc l => exact hi.elim
      | endRangeFunc l => exact hi.elim
      | beginRound => exact hi.elim
      | call d b r s => exact hi.elim
      | extern r a => exact hi.elim
      | inRegion ops2 l =>
        cases l with
        | nil => cases hc; exact .inl (.far hk hcd)
        | cons i rest =>
          dsimp only at hc
          split at hc
          · cases hc
          · cases hc
            rw [(finish_todo (fr := fr) (by rw [hl, List.cons_append]) undef).1]
            exact .inl (mk _ (one (.inRegion ops2 rest) hi))
      | code c =>
        cases c with
        | skip => cases hc; exact .inl (.far hk hcd)
        | label l => exact hi.elim
        | seq a b => cases hc; exact .inl (mk _ (two (.code a) (.code b) hi.1 hi.2))
        | block id c => cases hc; exact .inl (mk _ (two (.code c) (.inBlock id) hi trivial))
        | loop c => cases hc; exact .inl (mk _ (two (.code c) (.inLoop c) hi hi))
        | scope c => exact hi.elim
        | ret => cases hc; exact .inr rfl
        | rangeFunc f ps a b => exact hi.elim
        | refuse why => exact hi.elim
        | exit id2 =>
          dsimp only at hc
          obtain ⟨k', hk', rfl⟩ := Option.map_eq_some_iff.1 hc
          obtain ⟨p, rfl, h2⟩ := exitTo_far hk'
          exact .inl (.far (fun x hx => hk x (h2 x hx)) hcd)
        | goto l => exact hi.elim
        | cond c a b =>
          dsimp only at hc
          split at hc
          · cases hc; rename_i t _; exact .inl (mk _ (one (.code (if t then a else b)) (by cases t; exact hi.2; exact hi.1)))
          · cases hc
        | region id2 ops2 draw =>
          cases draw with
          | false => cases hc; exact .inl (mk _ (one (.inRegion ops2 (List.range ops2.size)) hi))
          | true => cases hc
/-- A control step leaves a slot that no skipped operation writes. -/
theorem ctl_slot {t : Nat} (hc : ctl fr = some fr1) (hg : ∀ ops i rest k o, fr.todo = .inRegion ops (i :: rest) :: k → ops[i]? = some o → Region.wanted o (yielded ops fr.tmps) = true ∨ o.dst ≠ some t) : fr1.tmps.getD t undef = fr.tmps.getD t undef := by
  unfold ctl at hc
  cases ht : fr.todo with
  | nil => rw [ht] at hc; cases hc; rfl
  | cons it k =>
    rw [ht] at hc
    cases it with
    | inRegion ops l =>
      cases l with
      | nil => cases hc; rfl
      | cons i rest =>
        dsimp only at hc
        split at hc
        · cases hc
        · rename_i hw
          cases hc
          cases ho : ops[i]? with
          | none => unfold Frame.finish; rw [ht]; simp [ho]
          | some o =>
            rcases hg ops i rest k o ht ho with h | h
            · simp [ho, h] at hw
            · exact finish_acc ht ho h _
    | code c =>
      cases c with
      | region id ops draw =>
        cases draw with
        | false => cases hc; rfl
        | true => cases hc
      | _ => (try dsimp only at hc) <;> repeat' (first | (cases hc; done) | (cases hc; rfl) | (obtain ⟨k', _, rfl⟩ := Option.map_eq_some_iff.1 hc; rfl) | split at hc)
    | _ => (try dsimp only at hc) <;> first | (cases hc; done) | (cases hc; rfl)
end

section
variable (P : Program) (Post : Value → World → Prop) (B : Nat) (tm : Bool) (z : Value)
/-- What is shown: the run ends well; or goroutine 0's script. -/
def Cn : Option (Nat × List Value) → Goroutine → World → Prop
  | none => fun g u => Ends P Post g u
  | some (c, vs) => fun g u => RT P c B tm z (fun g w => Ends P Post g w) vs g u
/-- The worlds for which it must be shown. -/
def Okw : Option (Nat × List Value) → World → World → Prop
  | none => fun u u₁ => u₁ = u
  | some (c, _) => fun u u₁ => As c u u₁ ∧ Ch c tm u₁
def ChanOf : Option (Nat × List Value) → World → World → Prop
  | none => fun _ _ => True
  | some (c, _) => fun u u' => u'.heap[c]? = u.heap[c]?
end
section
variable {P : Program} {Post : Value → World → Prop} {B c : Nat} {tm : Bool} {z : Value}
theorem RT.step' {Fin : Goroutine → World → Prop} {vs : List Value} {g : Goroutine} {w : World} (hrun : g.status = .running)
    (h : ∀ w₁, As c w w₁ → Ch c tm w₁ → ∃ y : StepTo, (stepG P true g w₁ = .go y.g y.w y.es ∧ y.g.status = .running ∧ (∀ e ∈ y.es, Ev0 B e) ∧ y.w.heap[c]? = w₁.heap[c]? ∧ Lo c B w₁ y.w) ∧ RT P c B tm z Fin vs y.g y.w) : RT P c B tm z Fin vs g w := by
  classical
  refine .step hrun (fun w₁ => if h1 : As c w w₁ ∧ Ch c tm w₁ then Classical.choose (h w₁ h1.1 h1.2) else ⟨g, w, #[]⟩) (fun w₁ ha hc => ?_) (fun w₁ ha hc => ?_)
  · rw [dif_pos ⟨ha, hc⟩]; exact (Classical.choose_spec (h w₁ ha hc)).1
  · rw [dif_pos ⟨ha, hc⟩]; exact (Classical.choose_spec (h w₁ ha hc)).2
/-- One step in either. -/
theorem cn_step {cl : Option (Nat × List Value)} {g : Goroutine} {u : World} (hrun : g.status = .running)
    (h : ∀ u₁, Okw tm cl u u₁ → ∀ τ d, ∃ g' u' k es, stepG P true g (u₁.re τ d) = .go g' (u'.re τ (d + k)) es ∧ g'.status = .running ∧ (∀ e ∈ es, Ev0 B e) ∧ ChanOf cl u₁ u' ∧ (∀ k, k < B → u'.heap[k]? = u₁.heap[k]?) ∧ Cn P Post B tm z cl g' u') : Cn P Post B tm z cl g u := by
  cases cl with
  | none =>
    refine ends_step hrun fun τ d => ?_
    obtain ⟨g', u', k, es, h1, _, h3, _, _, h6⟩ := h u rfl τ d
    exact ⟨g', u', k, es, h1, fun e he => (h3 e he).1, h6⟩
  | some cv =>
    obtain ⟨c, vs⟩ := cv
    refine RT.step' hrun fun w₁ ha hc => ?_
    obtain ⟨g', u', k, es, h1, h2, h3, h4, h5, h6⟩ := h w₁ ⟨ha, hc⟩ w₁.tape w₁.drawn
    refine ⟨⟨g', u'.re w₁.tape (w₁.drawn + k), es⟩, ⟨h1, h2, h3, h4, fun k hk _ => h5 k hk⟩, ?_⟩
    exact RT.rely h6 ⟨rfl, rfl, rfl, fun _ _ => rfl⟩
theorem Vr.chan {fz : Bool} {x u : World} (h : Vr fz x u) (hc : Ch c tm u) : ∃ cl s r, x.heap[c]? = some (.chan 0 #[] cl s r tm) := by
  obtain ⟨cl, s, r, hu⟩ := hc
  have hlt : c < x.heap.size := by rw [← h.size]; exact (Array.getElem?_eq_some_iff.1 hu).1
  obtain ⟨o', h1, h2⟩ := h.block c _ (Array.getElem?_eq_getElem hlt)
  rw [hu] at h1
  cases h1
  rw [Array.getElem?_eq_getElem hlt]
  rcases h2 with h2 | ⟨_, _, _, _, _, _, _, h2, h3⟩ | ⟨_, _, _, _, _, _, h3, _⟩
  · exact ⟨cl, s, r, by rw [h2]⟩
  · cases h3; exact ⟨_, _, _, by rw [h2]⟩
  · cases h3
theorem Okw.vr {cl : Option (Nat × List Value)} {fz : Bool} {x u u₁ : World} (h : Okw tm cl u u₁) (hc : ∀ c vs, cl = some (c, vs) → Ch c tm u) (hV : Vr fz x u) : Vr fz x u₁ := by
  cases cl with
  | none => cases h; exact hV
  | some cv => obtain ⟨c, vs⟩ := cv; exact hV.as (hV.chan (hc c vs rfl)) h.1 h.2
/-- A return, followed from two references at once. -/
theorem ret_both {F' : Array Func} (fn : Func) (tmps : Array Value) {x1 x2 u : World} (hV1 : Vr true x1 u) (hV2 : Vr false x2 u) (hS : Sealed B x2) {τ : Nat → Question → Nat} {d : Nat} {y1 y2 : RetTo}
    (h1 : (results fn tmps).runT (tw P F') (x1.re τ d) #[] = (.ok y1.v (y1.w.re τ (d + y1.k)), y1.fs))
    (h2 : (results fn tmps).runT (tw P F') (x2.re τ d) #[] = (.ok y2.v (y2.w.re τ (d + y2.k)), y2.fs)) :
    ∃ u', y1.v = y2.v ∧ Vr true y1.w u' ∧ Vr false y2.w u' ∧ Sealed B y2.w ∧ (∀ k, k < B → u'.heap[k]? = u.heap[k]?) ∧ (∀ (k : Nat) (o : Obj), u.heap[k]? = some o → (∀ c e f, o ≠ .cells c e f) → u'.heap[k]? = some o) ∧ (∀ e ∈ y2.fs, EvS false B e) ∧
      (results fn tmps).runT P (u.re τ d) #[] = (.ok y2.v (u'.re τ (d + y2.k)), y2.fs) := by
  obtain ⟨n1, a1, b1, r1⟩ := (sim_results (P := P) (F' := F') (fz := true) fn tmps).run (B := 0) (fun _ => rfl) τ x1 u d #[] hV1 (sealed0 _) _ _ _ h1
  obtain ⟨n2, a2, b2, r2⟩ := (sim_results (P := P) (F' := F') (fz := false) fn tmps).run (B := B) (fun h => by cases h) τ x2 u d #[] hV2 hS _ _ _ h2
  obtain ⟨e1, e2⟩ := re_inj r1.eq
  obtain ⟨e3, e4⟩ := re_inj r2.eq
  have q1 := r1.run τ d (fun _ _ => rfl)
  have q2 := r2.run τ d (fun _ _ => rfl)
  obtain ⟨g1, _⟩ := Prod.mk.inj (q1.symm.trans q2)
  injection g1 with g2 g3
  have hk : n2 = y2.k := by omega
  subst hk
  have hh : y2.w.heap = a2.heap := by have h0 := e4 (fun _ _ => 0) 0; exact (show (y2.w.re (fun _ _ => 0) 0).heap = (a2.re (fun _ _ => 0) 0).heap by rw [h0])
  refine ⟨b2, g2, ?_, r2.vr.re (fun τ d => (e4 τ d).symm), ?_, r2.low, fun k o ho hne => ?_, fun e he => (r2.evs e he).resolve_left (by simp), q2⟩
  · exact (r1.vr.re (fun τ d => (e2 τ d).symm)).to (re_inj g3).2
  · unfold Sealed; rw [hh]; exact r2.sealed_
  · have := (sim_results (P := P) (F' := F') (fz := false) fn tmps).objs rfl _ _ _ _ _ q2 k o ho hne
    exact this
end
end Go.Goes

-- Stroke3
/-
  StrokeOf against its twin: the state while both go.
-/
namespace Go.Goes
open Go.Conc
set_option linter.unusedVariables false

def topOf (mid : List Frame) (b : Frame) : Frame := match mid with | [] => b | t :: _ => t
def restOf (mid : List Frame) (b : Frame) : List Frame := match mid with | [] => [] | _ :: ms => ms ++ [b]
def Frame.slot (fr : Frame) (t : Nat) : Value := fr.tmps.getD t undef
theorem slot_eval (fr : Frame) (t : Nat) : fr.eval (.tmp t) = Frame.slot fr t := rfl
inductive Ph where
  | pre
  | made (c : Nat) (KC KL : List Nat)
  | gone (c : Nat) (KC : List Nat)
  | run (c : Nat) (vs : List Value)
  | ended
def Ph.cl (vs0 : List Value) : Ph → Option (Nat × List Value)
  | .gone c _ => some (c, vs0)
  | .run c vs => some (c, vs)
  | _ => none
section
variable (P : Program) (fs : List FuncId) (φ : Oper → Oper) (q ch : Nat) (z : Value) (f0 fY : FuncId) (lv : Value) (vs0 : List Value) (B : Nat) (S S2 : FuncId)
def PhI : Ph → Frame → Frame → Prop
  | .pre => fun fr f1 => (fr.mode = .run → Pre2 P fs φ q ch z f0 fY fr.todo) ∧ Frame.slot f1 q = undef
  | .made c KC KL => fun fr f1 => fr.mode = .run ∧ Line P fs φ q ch z f0 fY (.made KC KL) fr.todo ∧ (∀ s ∈ KC, Frame.slot fr s = .chan (some c)) ∧ (∀ s ∈ KL, Frame.slot fr s = lv) ∧ Frame.slot f1 q = undef
  | .gone c KC => fun fr f1 => fr.mode = .run ∧ Line P fs φ q ch z f0 fY (.gone KC) fr.todo ∧ (∀ s ∈ KC, Frame.slot fr s = .chan (some c)) ∧ ∃ a, Frame.slot f1 q = .tuple #[a, .bool true, Lv z vs0]
  | .run c vs => fun fr f1 => AllL (Kd P fs φ q ch z) fr.todo ∧ Frame.slot fr ch = .chan (some c) ∧ ∃ a, Frame.slot f1 q = .tuple #[a, .bool true, Lv z vs] ∧ Frame.slot fr q = .tuple #[a, .bool true]
  | .ended => fun fr f1 => AllL (Kd P fs φ q ch z) fr.todo ∧ ∃ a, Frame.slot f1 q = .tuple #[a, .bool false] ∧ Frame.slot fr q = .tuple #[a, .bool false]
def PhW : Ph → World → Prop
  | .made c _ _ => fun u => B ≤ c ∧ u.heap[c]? = some (.chan 0 #[] false 0 0 false)
  | .gone c _ => fun u => B ≤ c ∧ Ch c false u
  | .run c _ => fun u => B ≤ c ∧ Ch c false u
  | _ => fun _ => True
/-- StrokeOf's own frame, the twin's, and that of the twin with one result more. -/
structure Bt (fr f1 f2 : Frame) : Prop where
  mp : Mp φ (· = q) fr f1
  two : f2 = { f1 with fn := S2 }
  fn : fr.fn = S
  fn1 : f1.fn = S
  kind : fr.kind = .normal
  slot0 : Frame.slot fr 0 = lv
  lt : q < fr.tmps.size
  lt1 : q < f1.tmps.size
/-- It waits for a call that is the same in both. -/
def WaitP (fr : Frame) : Prop := fr.mode = .run ∧ ∃ ops i rest k o, fr.todo = .inRegion ops (i :: rest) :: k ∧ ops[i]? = some o ∧ PlainS P fs φ q ch o
def Ph.far : Ph → Prop
  | .made _ _ _ | .gone _ _ => False
  | _ => True
structure Mids (ph : Ph) (mid : List Frame) (fr : Frame) : Prop where
  all : ∀ t ∈ mid, ShF P fs S t
  waits : ∀ t ∈ mid.tail, Waits t
  wait : mid ≠ [] → WaitP P fs φ q ch fr
  far : mid ≠ [] → ph.far
theorem far_of {ph : Ph} (h1 : (∃ c KC KL, ph = .made c KC KL) → False) (h2 : (∃ c KC, ph = .gone c KC) → False) : ph.far := by
  cases ph with
  | made c KC KL => exact h1 ⟨_, _, _, rfl⟩
  | gone c KC => exact h2 ⟨_, _, rfl⟩
  | _ => trivial
end
section
variable {P : Program} {fs : List FuncId} {φ : Oper → Oper} {q ch : Nat} {z : Value} {f0 fY : FuncId} {lv : Value} {vs0 : List Value} {B : Nat} {S S2 : FuncId} {fr f1 f2 : Frame}
theorem eval_tmps {a b : Frame} (h : a.tmps = b.tmps) (x : Operand) : a.eval x = b.eval x := by
  cases x with
  | tmp t => show a.tmps.getD t undef = b.tmps.getD t undef; rw [h]
  | _ => rfl
theorem ctl_other {f f' : Frame} {s : FuncId} (h : ctl { f with fn := s } = some f') : ∃ g, ctl f = some g ∧ f' = { g with fn := s } := by
  obtain ⟨fn, tmps, todo, defers, mode, kind, roundOf⟩ := f
  unfold ctl at h ⊢
  cases todo with
  | nil => cases h; exact ⟨_, rfl, rfl⟩
  | cons it k =>
    cases it with
    | inRegion ops l =>
      cases l with
      | nil => cases h; exact ⟨_, rfl, rfl⟩
      | cons i rest =>
        dsimp only at h ⊢
        split at h
        · cases h
        · rename_i hw
          cases h
          rw [if_neg hw]
          exact ⟨_, rfl, rfl⟩
    | code c =>
      cases c with
      | region id ops draw =>
        cases draw with
        | false => cases h; exact ⟨_, rfl, rfl⟩
        | true => cases h
      | cond c a b =>
        dsimp only at h ⊢
        have he := eval_tmps (a := { fn := s, tmps := tmps, todo := .code (.cond c a b) :: k, defers := defers, mode := mode, kind := kind, roundOf := roundOf }) (b := { fn := fn, tmps := tmps, todo := .code (.cond c a b) :: k, defers := defers, mode := mode, kind := kind, roundOf := roundOf }) rfl c
        rw [he] at h
        generalize Frame.eval _ c = v at h ⊢
        cases v <;> first | (cases h; done) | (cases h; exact ⟨_, rfl, rfl⟩)
      | exit id =>
        dsimp only at h ⊢
        obtain ⟨k', hk, rfl⟩ := Option.map_eq_some_iff.1 h
        exact ⟨_, by rw [hk]; rfl, rfl⟩
      | goto id =>
        dsimp only at h ⊢
        obtain ⟨k', hk, rfl⟩ := Option.map_eq_some_iff.1 h
        exact ⟨_, by rw [hk]; rfl, rfl⟩
      | _ => first | (cases h; done) | (cases h; exact ⟨_, rfl, rfl⟩)
    | _ => first | (cases h; done) | (cases h; exact ⟨_, rfl, rfl⟩)
theorem eval_other (f : Frame) (s : FuncId) : ({ f with fn := s } : Frame).eval = f.eval := by funext x; cases x <;> rfl
theorem finish_other (f : Frame) (s : FuncId) (v : Value) : ({ f with fn := s } : Frame).finish v = { f.finish v with fn := s } := by
  obtain ⟨fn, tmps, todo, defers, mode, kind, roundOf⟩ := f
  unfold Frame.finish
  cases todo with
  | nil => rfl
  | cons it k =>
    cases it with
    | inRegion ops l => cases l <;> rfl
    | _ => rfl
/-- A slot that no operation writes that is passed over. -/
theorem slot_keep {t : Nat} (hM : Mp φ (· = q) fr f1) {f1' : Frame} (hc : ctl f1 = some f1') (hg : ∀ ops i rest k o, fr.todo = .inRegion ops (i :: rest) :: k → ops[i]? = some o → Region.wanted o (yielded ops fr.tmps) = true ∨ (φ o).dst ≠ some t) : Frame.slot f1' t = Frame.slot f1 t := by
  refine ctl_slot hc fun ops' i rest k' o' ht' ho' => ?_
  rw [hM.todo] at ht'
  cases ht : fr.todo with
  | nil => rw [ht] at ht'; cases ht'
  | cons it k =>
    have hi := hM.fits
    rw [ht] at ht' hi
    rw [List.map_cons] at ht'
    injection ht' with e1 e2
    cases it <;> try (cases e1; done)
    case inRegion ops l =>
      simp only [mapI] at e1
      injection e1 with e3 e4
      subst e4
      rw [← e3, Array.getElem?_map] at ho'
      cases hoo : ops[i]? with
      | none => rw [hoo] at ho'; cases ho'
      | some o =>
        rw [hoo] at ho'
        cases ho'
        rcases hg ops i rest k o ht hoo with h | h
        · rw [← e3, yielded_map hi.head hM.tmps hoo]; exact .inl h
        · exact .inr h
theorem kd_op {l : List Item} (h : AllL (Kd P fs φ q ch z) l) {ops : Array Oper} {i : Nat} {rest : List Nat} {k : List Item} {o : Oper} (ht : l = .inRegion ops (i :: rest) :: k) (ho : ops[i]? = some o) : Kd P fs φ q ch z o := by
  subst ht; exact h.head i o ho
/-- Whatever is at an operation that is passed over does not write q, ch or 0. -/
theorem kd_pass {o : Oper} (h : Kd P fs φ q ch z o) {ops : Array Oper} {tmps : Array Value} : Region.wanted o (yielded ops tmps) = true ∨ ((φ o).dst = o.dst ∧ o.dst ≠ some q ∧ o.dst ≠ some ch ∧ o.dst ≠ some 0) := by
  rcases h with h | ⟨j, h⟩ | h
  · exact .inr ⟨by rw [h.same], h.dst⟩
  · exact .inr ⟨by rw [h.same], h.dst⟩
  · exact .inl (by simp [Region.wanted, h.guard])
theorem pre_pass {l : List Item} (h : Pre2 P fs φ q ch z f0 fY l) {ops : Array Oper} {i : Nat} {rest : List Nat} {k : List Item} {o : Oper} (ht : l = .inRegion ops (i :: rest) :: k) (ho : ops[i]? = some o) (tmps : Array Value) : Region.wanted o (yielded ops tmps) = true ∨ ((φ o).dst = o.dst ∧ o.dst ≠ some q ∧ o.dst ≠ some ch ∧ o.dst ≠ some 0) := by
  cases h with
  | line h =>
    subst ht
    cases h with
    | op ho' hs h => rw [ho] at ho'; cases ho'; exact .inl (by simp [Region.wanted, hs.guard])
  | far hp hc =>
    rename_i pre c
    cases pre with
    | nil => cases ht
    | cons it pre =>
      rw [List.cons_append] at ht
      injection ht with e1 e2
      subst e1
      have := hp.head i o ho
      exact .inr ⟨by rw [this.same], this.dst⟩
theorem line_pass {tk : Tk} {l : List Item} (h : Line P fs φ q ch z f0 fY tk l) {ops : Array Oper} {i : Nat} {rest : List Nat} {k : List Item} {o : Oper} (ht : l = .inRegion ops (i :: rest) :: k) (ho : ops[i]? = some o) (tmps : Array Value) : Region.wanted o (yielded ops tmps) = true := by
  subst ht
  cases h with
  | op ho' hs h => rw [ho] at ho'; cases ho'; simp [Region.wanted, hs.guard]
  | run ho' hr hch hall => rw [ho] at ho'; cases ho'; simp [Region.wanted, hr.guard]
/-- Control keeps the state of StrokeOf's own frame. -/
theorem ctl_state {ph : Ph} (hm : fr.mode = .run) (hB : Bt φ q lv S S2 fr f1 f2) (hI : PhI P fs φ q ch z f0 fY lv vs0 ph fr f1) {f2' : Frame} (hc : ctl f2 = some f2') :
    ∃ fr' f1', ctl fr = some fr' ∧ ctl f1 = some f1' ∧ Bt φ q lv S S2 fr' f1' f2' ∧ PhI P fs φ q ch z f0 fY lv vs0 ph fr' f1' := by
  rw [hB.two] at hc
  obtain ⟨f1', hc1, rfl⟩ := ctl_other hc
  obtain ⟨fr', hcr, hM'⟩ := ctl_map hB.mp hc1
  have pass : ∀ t, (t = q ∨ t = ch ∨ t = 0) → ∀ ops i rest k o, fr.todo = .inRegion ops (i :: rest) :: k → ops[i]? = some o → Region.wanted o (yielded ops fr.tmps) = true ∨ ((φ o).dst = o.dst ∧ o.dst ≠ some t) := by
    intro t ht ops i rest k o e ho
    have fin : (Region.wanted o (yielded ops fr.tmps) = true ∨ ((φ o).dst = o.dst ∧ o.dst ≠ some q ∧ o.dst ≠ some ch ∧ o.dst ≠ some 0)) → Region.wanted o (yielded ops fr.tmps) = true ∨ ((φ o).dst = o.dst ∧ o.dst ≠ some t) := by
      rintro (h | ⟨h0, h1, h2, h3⟩)
      · exact .inl h
      · rcases ht with rfl | rfl | rfl
        · exact .inr ⟨h0, h1⟩
        · exact .inr ⟨h0, h2⟩
        · exact .inr ⟨h0, h3⟩
    apply fin
    cases ph with
    | pre => exact pre_pass (hI.1 hm) e ho fr.tmps
    | made c KC KL => exact .inl (line_pass hI.2.1 e ho fr.tmps)
    | gone c KC => exact .inl (line_pass hI.2.1 e ho fr.tmps)
    | run c vs => exact kd_pass (kd_op hI.1 e ho)
    | ended => exact kd_pass (kd_op hI.1 e ho)
  have s1 : ∀ t, (t = q ∨ t = ch ∨ t = 0) → Frame.slot f1' t = Frame.slot f1 t := fun t ht => slot_keep hB.mp hc1 (fun ops i rest k o e ho => (pass t ht ops i rest k o e ho).imp id (fun h => by rw [h.1]; exact h.2))
  have sr : ∀ t, (t = q ∨ t = ch ∨ t = 0) → Frame.slot fr' t = Frame.slot fr t := fun t ht => ctl_slot hcr (fun ops i rest k o e ho => (pass t ht ops i rest k o e ho).imp id (fun h => h.2))
  have hsz : ∀ {a b : Frame}, ctl a = some b → b.tmps.size = a.tmps.size ∧ b.kind = a.kind := by
    intro a b h
    unfold ctl at h
    repeat' (first | (cases h; done) | (cases h; exact ⟨rfl, rfl⟩) | (obtain ⟨k', _, rfl⟩ := Option.map_eq_some_iff.1 h; exact ⟨rfl, rfl⟩) | split at h)
    all_goals (rename_i ht _; cases h; exact ⟨(finish_todo ht _).2.2.2.2, (finish_todo ht _).2.2.1⟩)
  refine ⟨fr', f1', hcr, hc1, ⟨hM', rfl, by rw [ctl_fn hcr]; exact hB.fn, by rw [ctl_fn hc1]; exact hB.fn1, by rw [(hsz hcr).2]; exact hB.kind, by rw [sr 0 (.inr (.inr rfl))]; exact hB.slot0, by rw [(hsz hcr).1]; exact hB.lt, by rw [(hsz hc1).1]; exact hB.lt1⟩, ?_⟩
  cases ph with
  | pre =>
    refine ⟨fun hm' => ?_, (s1 q (.inl rfl)).trans hI.2⟩
    rcases ctl_pre2 (hI.1 hm) hcr with h | h
    · exact h
    · rw [h] at hm'; cases hm'
  | made c KC KL =>
    obtain ⟨h1, h2, h3, h4, h5⟩ := hI
    obtain ⟨k1, k2, k3⟩ := ctl_line h2 hcr
    exact ⟨k2.trans h1, k1, fun s hs => by unfold Frame.slot; rw [k3]; exact h3 s hs, fun s hs => by unfold Frame.slot; rw [k3]; exact h4 s hs, (s1 q (.inl rfl)).trans h5⟩
  | gone c KC =>
    obtain ⟨h1, h2, h3, a, h5⟩ := hI
    obtain ⟨k1, k2, k3⟩ := ctl_line h2 hcr
    exact ⟨k2.trans h1, k1, fun s hs => by unfold Frame.slot; rw [k3]; exact h3 s hs, a, (s1 q (.inl rfl)).trans h5⟩
  | run c vs =>
    obtain ⟨h1, h2, a, h3, h4⟩ := hI
    exact ⟨ctl_all h1 hcr, (sr ch (.inr (.inl rfl))).trans h2, a, (s1 q (.inl rfl)).trans h3, (sr q (.inl rfl)).trans h4⟩
  | ended =>
    obtain ⟨h1, a, h3, h4⟩ := hI
    exact ⟨ctl_all h1 hcr, a, (s1 q (.inl rfl)).trans h3, (sr q (.inl rfl)).trans h4⟩
end
end Go.Goes

-- Stroke4
/-
  StrokeOf against its twin: draws, operations that are the same in both, shared callees, returns.
-/
namespace Go.Goes
open Go.Conc
set_option linter.unusedVariables false
section
variable (P : Program) (F' : Array Func) (fs : List FuncId) (S S2 : FuncId) (FT : FuncId → Prop) (Post : Value → World → Prop) (Mc : Frame → List Frame → World → Prop)
variable (φ : Oper → Oper) (q ch r : Nat) (z aY : Value) (f0 fY : FuncId) (lv : Value) (vs0 : List Value) (B : Nat) (Ok : World → Prop) (c : Frame) (r2 : List Frame)
/-- What is asked of the program, its twin and the lines. -/
structure Strk : Prop where
  tw : Tw P F' fs S
  isS : ∀ f ∈ fs, (P.funcs[f]?).isSome = true
  notS : S ∉ fs
  fnS : ∃ fn, P.funcs[S]? = some fn ∧ fn.results = #[.tmp r]
  fn1 : ∃ fn, F'[S]? = some fn ∧ fn.results = #[.tmp r]
  rq : r ≠ q
  q0 : 0 < q
  isY : ∃ fn body, F'[fY]? = some fn ∧ fn.body = some body ∧ (fn.name == "runtime.NumGoroutine") = false
  okB : ∀ u u', (∀ k, k < B → u'.heap[k]? = u.heap[k]?) → Ok u → Ok u'
  callY : ∀ fz x u, Vr fz x u → Ok u → Calls (Goes.tw P F') fY #[lv] (x.re (fun _ _ => 0) 0) (fun e w' => e = .returned (.tuple #[aY, .bool true, Lv z vs0]) ∧ w' = x.re (fun _ _ => 0) 0)
  sends : ∀ u c, B ≤ c → Ok u → u.heap[c]? = some (.chan 0 #[] false 0 0 false) → SD P c B false u vs0 (newborn P f0 #[lv, .chan (some c)])
/-- What is shown of each node of the second tree. -/
def MM (fr2 : Frame) (rest2 : List Frame) (x2 : World) : Prop :=
  ∀ (ph : Ph) (mid : List Frame) (f1 f2 fr : Frame) (x1 u : World), fr2 = topOf mid f2 → rest2 = restOf mid f2 → Bt φ q lv S S2 fr f1 f2 → PhI P fs φ q ch z f0 fY lv vs0 ph fr f1 → PhW B ph u → Mids P fs φ q ch S ph mid fr →
    Vr true x1 u → Vr false x2 u → Sealed B x2 → Ok u → Tr (tw P F') FT (Back (tw P F') FT Mc c r2) (topOf mid f1) (restOf mid f1) x1 →
    Cn P Post B false z (ph.cl vs0) (G (topOf mid fr) (restOf mid fr ++ c :: r2)) u
/-- The second tree's end: no return while edges are left. -/
def Stop2 (fr : Frame) (w : World) : Prop := fr.mode = .returning ∧ (fr.fn = S2 → Frame.slot fr q = undef ∨ ∃ a, Frame.slot fr q = .tuple #[a, .bool false])
end
section
variable {P : Program} {F' : Array Func} {fs : List FuncId} {S S2 : FuncId} {FT FT2 : FuncId → Prop} {Post : Value → World → Prop} {Mc : Frame → List Frame → World → Prop}
variable {φ : Oper → Oper} {q ch r : Nat} {z aY : Value} {f0 fY : FuncId} {lv : Value} {vs0 : List Value} {B : Nat} {Ok : World → Prop} {c : Frame} {r2 : List Frame} {fr f1 f2 : Frame}
theorem pre_draw {id : Nat} {ops : Array Oper} {k : List Item} (h : Pre2 P fs φ q ch z f0 fY (.code (.region id ops true) :: k)) (l : List Nat) : Pre2 P fs φ q ch z f0 fY (.inRegion ops l :: k) := by
  generalize hl : Item.code (.region id ops true) :: k = L at h
  cases h with
  | line h => subst hl; cases h
  | far hp hc =>
    rename_i pre cc
    cases pre with
    | nil =>
      rw [List.nil_append] at hl
      injection hl with e1 e2
      injection e1 with e1
      subst e1
      cases hc with
      | here h => cases h
    | cons it pre =>
      rw [List.cons_append] at hl
      injection hl with e1 e2
      subst e1 e2
      exact .far (pre := .inRegion ops l :: pre) (.cons (it := .inRegion ops l) hp.head hp.tail) hc
theorem draw_state {ph : Ph} (hm : fr.mode = .run) (hB : Bt φ q lv S S2 fr f1 f2) (hI : PhI P fs φ q ch z f0 fY lv vs0 ph fr f1) {id : Nat} {ops' : Array Oper} {k' : List Item} (hd : AtDraw f2 id ops' k') :
    ∃ ops k, AtDraw fr id ops k ∧ AtDraw f1 id ops' k' ∧ (∀ n, Region.schedule (P.follows .mixedOrders) ops' n = Region.schedule (P.follows .mixedOrders) ops n) ∧ ∀ l : List Nat, Bt φ q lv S S2 { fr with todo := .inRegion ops l :: k } { f1 with todo := .inRegion ops' l :: k' } { f2 with todo := .inRegion ops' l :: k' } ∧ PhI P fs φ q ch z f0 fY lv vs0 ph { fr with todo := .inRegion ops l :: k } { f1 with todo := .inRegion ops' l :: k' } := by
  have hd1 : AtDraw f1 id ops' k' := by rw [hB.two] at hd; exact hd
  obtain ⟨ops, k, hdr, rfl, hM⟩ := draw_map hB.mp hd1
  have hfit : FitOps φ (· = q) ops := by
    have := hB.mp.fits
    unfold AtDraw at hdr
    rw [hdr] at this
    exact this.head
  refine ⟨ops, k, hdr, hd1, fun n => schedule_map hfit _ _, fun l => ⟨⟨hM l, by rw [hB.two], hB.fn, hB.fn1, hB.kind, hB.slot0, hB.lt, hB.lt1⟩, ?_⟩⟩
  unfold AtDraw at hdr
  cases ph with
  | pre => exact ⟨fun _ => by have h := hI.1 hm; rw [hdr] at h; exact pre_draw h l, hI.2⟩
  | made c KC KL => obtain ⟨_, h, _⟩ := hI; rw [hdr] at h; cases h
  | gone c KC => obtain ⟨_, h, _⟩ := hI; rw [hdr] at h; cases h
  | run c vs =>
    obtain ⟨h1, h2⟩ := hI
    rw [hdr] at h1
    exact ⟨.cons (it := .inRegion ops l) h1.head h1.tail, h2⟩
  | ended =>
    obtain ⟨h1, h2⟩ := hI
    rw [hdr] at h1
    exact ⟨.cons (it := .inRegion ops l) h1.head h1.tail, h2⟩
/-- A slot that the operation does not write. -/
theorem finish_slot {ops : Array Oper} {i : Nat} {rest : List Nat} {k : List Item} {o : Oper} {t : Nat} (ht : fr.todo = .inRegion ops (i :: rest) :: k) (ho : ops[i]? = some o) (hd : o.dst ≠ some t) (v : Value) : Frame.slot (fr.finish v) t = Frame.slot fr t := finish_acc ht ho hd v
theorem Bt.fin (hB : Bt φ q lv S S2 fr f1 f2) {ops : Array Oper} {i : Nat} {rest : List Nat} {k : List Item} {o : Oper} (ht : fr.todo = .inRegion ops (i :: rest) :: k) (ho : ops[i]? = some o) (v v' : Value) (hv : (φ o).dst = o.dst → (v' = v ∨ o.dst = some q)) (h0 : o.dst ≠ some 0) : Bt φ q lv S S2 (fr.finish v) (f1.finish v') (f2.finish v') := by
  have ht1 : f1.todo = .inRegion (ops.map φ) (i :: rest) :: k.map (mapI φ) := by rw [hB.mp.todo, ht]; rfl
  obtain ⟨_, _, a3, a4, a5⟩ := finish_todo ht v
  obtain ⟨_, _, _, b4, b5⟩ := finish_todo ht1 v'
  refine ⟨finish_map hB.mp ht v v' (fun o2 ho2 hd => by rw [ho] at ho2; cases ho2; exact (hv hd).imp id (fun h t e => by rw [h] at e; cases e; rfl)), by rw [hB.two, finish_other], by rw [a4]; exact hB.fn, by rw [b4]; exact hB.fn1, by rw [a3]; exact hB.kind, ?_, by rw [a5]; exact hB.lt, by rw [b5]; exact hB.lt1⟩
  rw [finish_slot ht ho h0]; exact hB.slot0
/-- Behind an operation that is the same in both. -/
theorem plain_state {ph : Ph} (hm : fr.mode = .run) (hB : Bt φ q lv S S2 fr f1 f2) (hI : PhI P fs φ q ch z f0 fY lv vs0 ph fr f1) {ops : Array Oper} {i : Nat} {rest : List Nat} {k : List Item} {o : Oper} (ht : fr.todo = .inRegion ops (i :: rest) :: k) (ho : ops[i]? = some o) (hp : PlainS P fs φ q ch o) (hph : (∃ c KC KL, ph = .made c KC KL) → False) (hpg : (∃ c KC, ph = .gone c KC) → False) (v : Value) :
    Bt φ q lv S S2 (fr.finish v) (f1.finish v) (f2.finish v) ∧ PhI P fs φ q ch z f0 fY lv vs0 ph (fr.finish v) (f1.finish v) := by
  have ht1 : f1.todo = .inRegion (ops.map φ) (i :: rest) :: k.map (mapI φ) := by rw [hB.mp.todo, ht]; rfl
  have ho1 : (ops.map φ)[i]? = some (φ o) := by rw [Array.getElem?_map, ho]; rfl
  have s1 : ∀ t, o.dst ≠ some t → Frame.slot (f1.finish v) t = Frame.slot f1 t := fun t h => finish_slot ht1 ho1 (by rw [hp.same]; exact h) v
  have sr : ∀ t, o.dst ≠ some t → Frame.slot (fr.finish v) t = Frame.slot fr t := fun t h => finish_slot ht ho h v
  refine ⟨hB.fin ht ho v v (fun _ => .inl rfl) hp.dst.2.2, ?_⟩
  cases ph with
  | pre =>
    refine ⟨fun _ => ?_, (s1 q hp.dst.1).trans hI.2⟩
    have h := hI.1 hm
    rw [(finish_todo ht v).1]
    rw [ht] at h
    generalize hl : Item.inRegion ops (i :: rest) :: k = L at h
    cases h with
    | line h =>
      subst hl
      cases h with
      | op ho' hs h =>
        rw [ho] at ho'; cases ho'
        cases hs with
        | mk op hs dst same guard hd => exact (hp.nomk _ _ op).elim
    | far hp' hc =>
      rename_i pre cc
      cases pre with
      | nil => cases hl
      | cons it pre =>
        rw [List.cons_append] at hl
        injection hl with e1 e2
        subst e1 e2
        exact .far (pre := .inRegion ops rest :: pre) (.cons (it := .inRegion ops rest) hp'.head hp'.tail) hc
  | made c KC KL => exact (hph ⟨_, _, _, rfl⟩).elim
  | gone c KC => exact (hpg ⟨_, _, rfl⟩).elim
  | run c vs =>
    obtain ⟨h1, h2, a, h3, h4⟩ := hI
    rw [ht] at h1
    exact ⟨by rw [(finish_todo ht v).1]; exact .cons (it := .inRegion ops rest) h1.head h1.tail, (sr ch hp.dst.2.1).trans h2, a, (s1 q hp.dst.1).trans h3, (sr q hp.dst.1).trans h4⟩
  | ended =>
    obtain ⟨h1, a, h3, h4⟩ := hI
    rw [ht] at h1
    exact ⟨by rw [(finish_todo ht v).1]; exact .cons (it := .inRegion ops rest) h1.head h1.tail, a, (s1 q hp.dst.1).trans h3, (sr q hp.dst.1).trans h4⟩
end
end Go.Goes

-- Stroke5
/-
  StrokeOf against its twin: each kind of operation.
-/
namespace Go.Goes
open Go.Conc
set_option linter.unusedVariables false
section
variable {P : Program} {F' : Array Func} {fs : List FuncId} {S S2 : FuncId} {FT FT2 : FuncId → Prop} {Post : Value → World → Prop} {Mc : Frame → List Frame → World → Prop}
variable {φ : Oper → Oper} {q ch r : Nat} {z aY : Value} {f0 fY : FuncId} {lv : Value} {vs0 : List Value} {B : Nat} {Ok : World → Prop} {c : Frame} {r2 : List Frame} {fr f1 f2 : Frame}
theorem mids_nil {ph : Ph} : Mids P fs φ q ch S ph [] fr := ⟨fun t h => (by cases h), fun t h => (by cases h), fun h => (h rfl).elim, fun h => (h rfl).elim⟩
theorem heap_of_re {u w : World} (e : ∀ τ d, u.re τ d = w.re τ d) : u.heap = w.heap := by
  have h0 := e (fun _ _ => 0) 0
  exact (show (u.re (fun _ _ => 0) 0).heap = (w.re (fun _ _ => 0) 0).heap by rw [h0])
theorem MM.re : ∀ fr rest u w, (∀ τ d, u.re τ d = w.re τ d) → MM P F' fs S S2 FT Post Mc φ q ch z f0 fY lv vs0 B Ok c r2 fr rest u → MM P F' fs S S2 FT Post Mc φ q ch z f0 fY lv vs0 B Ok c r2 fr rest w := by
  intro fr rest u w e h ph mid f1 f2 fr' x1 v e1 e2 hB hI hW hMi hV1 hV2 hS hO hT
  refine h ph mid f1 f2 fr' x1 v e1 e2 hB hI hW hMi hV1 (hV2.re (fun τ d => (e τ d).symm)) ?_ hO hT
  unfold Sealed; rw [heap_of_re e]; exact hS
theorem pure_op {P : Program} {w : World} {τ : Nat → Question → Nat} {d : Nat} {v : Value} {y : OpTo} (h : (Pure.pure (Next.value v) : Sem Next).runT P (w.re τ d) #[] = (.ok y.nx (y.w.re τ (d + y.k)), y.fs)) : y.nx = .value v ∧ (∀ τ d, y.w.re τ d = w.re τ d) := by
  obtain ⟨h1, h2⟩ := Prod.mk.inj h
  injection h1 with h3 h4
  exact ⟨h3.symm, fun τ d => ((re_inj h4).2 τ d).symm⟩
/-- The worlds beside: whatever the sender does. -/
theorem okw_ok (hK : Strk P F' fs S q r z aY f0 fY lv vs0 B Ok) {ph : Ph} {u u₁ : World} (hW : PhW B ph u) (h : Okw false (ph.cl vs0) u u₁) (hO : Ok u) : Ok u₁ ∧ PhW B ph u₁ := by
  cases ph with
  | pre => cases h; exact ⟨hO, hW⟩
  | made c KC KL => cases h; exact ⟨hO, hW⟩
  | ended => cases h; exact ⟨hO, hW⟩
  | gone c KC => exact ⟨hK.okB u u₁ (fun k hk => h.1.block k (by have := hW.1; omega)) hO, hW.1, h.2⟩
  | run c vs => exact ⟨hK.okB u u₁ (fun k hk => h.1.block k (by have := hW.1; omega)) hO, hW.1, h.2⟩
theorem phw_ch {ph : Ph} {u : World} (hW : PhW B ph u) (c : Nat) (vs : List Value) (e : ph.cl vs0 = some (c, vs)) : Ch c false u := by
  cases ph <;> cases e
  · exact hW.2
  · exact hW.2
/-- The channel stands. -/
theorem phw_next {ph : Ph} {u u' : World} (hW : PhW B ph u) (hobj : ∀ (k : Nat) (o : Obj), u.heap[k]? = some o → (∀ c e f, o ≠ .cells c e f) → u'.heap[k]? = some o) : PhW B ph u' ∧ ChanOf (ph.cl vs0) u u' := by
  cases ph with
  | pre => exact ⟨trivial, trivial⟩
  | ended => exact ⟨trivial, trivial⟩
  | made c KC KL => exact ⟨⟨hW.1, hobj _ _ hW.2 (by intros; simp)⟩, trivial⟩
  | gone c KC =>
    obtain ⟨h1, cl, s, r, h2⟩ := hW
    have h3 := hobj _ _ h2 (by intros; simp)
    exact ⟨⟨h1, cl, s, r, h3⟩, h3.trans h2.symm⟩
  | run c vs =>
    obtain ⟨h1, cl, s, r, h2⟩ := hW
    have h3 := hobj _ _ h2 (by intros; simp)
    exact ⟨⟨h1, cl, s, r, h3⟩, h3.trans h2.symm⟩
/-- An operation that only hands a value on: the same, or not, in the twin. -/
theorem val_step (hK : Strk P F' fs S q r z aY f0 fY lv vs0 B Ok) {ph ph' : Ph} {x1 x2 u : World} (hm : fr.mode = .run) (hround : fr.roundOf = none) (hB : Bt φ q lv S S2 fr f1 f2) (hW : PhW B ph u) (hV1 : Vr true x1 u) (hV2 : Vr false x2 u) (hS : Sealed B x2) (hO : Ok u) {o : Oper} (hat : AtOp fr o)
    {v : Value} (hex : execOp fr.eval o = Pure.pure (Next.value v)) (hcl : ph'.cl vs0 = ph.cl vs0) (hW' : ∀ u, PhW B ph u → PhW B ph' u) {v' : Value} (hB' : Bt φ q lv S S2 (fr.finish v) (f1.finish v') (f2.finish v')) (hI' : PhI P fs φ q ch z f0 fY lv vs0 ph' (fr.finish v) (f1.finish v'))
    (k2 : MM P F' fs S S2 FT Post Mc φ q ch z f0 fY lv vs0 B Ok c r2 (f2.finish v') [] x2) (k1 : Tr (tw P F') FT (Back (tw P F') FT Mc c r2) (f1.finish v') [] x1) : Cn P Post B false z (ph.cl vs0) (G fr (c :: r2)) u := by
  refine cn_step rfl fun u₁ hu τ d => ?_
  obtain ⟨hO1, hW1⟩ := okw_ok hK hW hu hO
  have hV1' := Okw.vr hu (phw_ch hW) hV1
  have hV2' := Okw.vr hu (phw_ch hW) hV2
  obtain ⟨ops, i, rest, k, ht, ho, hw⟩ := hat
  have hat : AtOp fr o := ⟨ops, i, rest, k, ht, ho, hw⟩
  have hke : (fr.kind == CallKind.early) = false := by rw [hB.kind]; rfl
  have hnc : ∀ d b r s l, fr.todo ≠ .call d b r s :: l := fun d b r s l e => by rw [ht] at e; cases e
  have hrun : (execOp fr.eval o).runT P (u₁.re τ d) #[] = (.ok (Next.value v) (u₁.re τ (d + 0)), #[]) := by rw [hex]; rfl
  refine ⟨G (fr.finish v) (c :: r2), u₁, 0, seen P fr.fn #[], ?_, rfl, fun e he => ?_, ?_, fun _ _ => rfl, ?_⟩
  · rw [op_step hm hround hat, apply_ok hke hnc hrun]
  · have := mem_seen he; simp at this
  · cases h : ph.cl vs0 with
    | none => trivial
    | some cv => rfl
  · have := k2 ph' [] (f1.finish v') (f2.finish v') (fr.finish v) x1 u₁ rfl rfl hB' hI' (hW' _ hW1) mids_nil hV1' hV2' hS hO1 k1
    rw [hcl] at this
    exact this
/-- An operation that both programs do alike, in StrokeOf's own frame. -/
theorem plain_step (hK : Strk P F' fs S q r z aY f0 fY lv vs0 B Ok) {ph : Ph} {x1 x2 u : World} (hm : fr.mode = .run) (hround : fr.roundOf = none) (hB : Bt φ q lv S S2 fr f1 f2) (hI : PhI P fs φ q ch z f0 fY lv vs0 ph fr f1) (hW : PhW B ph u) (hV1 : Vr true x1 u) (hV2 : Vr false x2 u) (hS : Sealed B x2) (hO : Ok u)
    {ops : Array Oper} {i : Nat} {rest : List Nat} {k : List Item} {o : Oper} (ht : fr.todo = .inRegion ops (i :: rest) :: k) (ho : ops[i]? = some o) (hat : AtOp fr o) (hp : PlainS P fs φ q ch o) (hph : (∃ c KC KL, ph = .made c KC KL) → False) (hpg : (∃ c KC, ph = .gone c KC) → False)
    {y2 : (Nat → Question → Nat) → Nat → OpTo} (hy2 : ∀ τ d, (execOp f2.eval (φ o)).runT (tw P F') (x2.re τ d) #[] = (.ok (y2 τ d).nx ((y2 τ d).w.re τ (d + (y2 τ d).k)), (y2 τ d).fs))
    (k2 : ∀ τ d, MM P F' fs S S2 FT Post Mc φ q ch z f0 fY lv vs0 B Ok c r2 ((y2 τ d).top (tw P F') f2) ((y2 τ d).rest f2 []) (y2 τ d).w)
    {y1 : (Nat → Question → Nat) → Nat → OpTo} (hy1 : ∀ τ d, (execOp f1.eval (φ o)).runT (tw P F') (x1.re τ d) #[] = (.ok (y1 τ d).nx ((y1 τ d).w.re τ (d + (y1 τ d).k)), (y1 τ d).fs))
    (k1 : ∀ τ d, Tr (tw P F') FT (Back (tw P F') FT Mc c r2) ((y1 τ d).top (tw P F') f1) ((y1 τ d).rest f1 []) (y1 τ d).w) : Cn P Post B false z (ph.cl vs0) (G fr (c :: r2)) u := by
  have hex1 : execOp f1.eval (φ o) = execOp fr.eval o := by rw [hp.same]; exact hp.out _ _ (fun x hx => hB.mp.eval hx)
  have hex2 : execOp f2.eval (φ o) = execOp fr.eval o := by rw [hB.two, eval_other]; exact hex1
  rw [hex1] at hy1
  rw [hex2] at hy2
  refine cn_step rfl fun u₁ hu τ d => ?_
  obtain ⟨hO1, hW1⟩ := okw_ok hK hW hu hO
  have hV1' := Okw.vr hu (phw_ch hW) hV1
  have hV2' := Okw.vr hu (phw_ch hW) hV2
  have hke : (fr.kind == CallKind.early) = false := by rw [hB.kind]; rfl
  have hnc : ∀ d b r s l, fr.todo ≠ .call d b r s :: l := fun d b r s l e => by rw [ht] at e; cases e
  obtain ⟨u', hb⟩ := op_both (P := P) (F' := F') hK.tw.alike hp.sim hV1' hV2' hS (hy1 τ d) (hy2 τ d)
  obtain ⟨hW2, hCh⟩ := phw_next (vs0 := vs0) hW1 hb.objs
  have hO2 := hK.okB u₁ u' hb.low hO1
  have hev : ∀ e ∈ seen P fr.fn (y2 τ d).fs, Ev0 B e := fun e he => ev0_of (hb.evs e (mem_seen he))
  have K2 := k2 τ d
  have K1 := k1 τ d
  have hrun := hb.run
  have hok := hb.ok
  have hnx := hb.nx
  unfold OpTo.top OpTo.rest at K1 K2
  rw [hnx] at K1
  cases hn : (y2 τ d).nx <;> rw [hn] at K1 K2 hrun hok <;> try exact hok.elim
  case value v =>
    obtain ⟨hB', hI'⟩ := plain_state hm hB hI ht ho hp hph hpg v
    refine ⟨G (fr.finish v) (c :: r2), u', (y2 τ d).k, seen P fr.fn (y2 τ d).fs, ?_, rfl, hev, hCh, hb.low, ?_⟩
    · rw [op_step hm hround hat, apply_ok hke hnc hrun]
    · exact K2 ph [] (f1.finish v) (f2.finish v) (fr.finish v) (y1 τ d).w u' rfl rfl hB' hI' hW2 mids_nil hb.vr1 hb.vr2 hb.sealed_ hO2 K1
  case skip =>
    obtain ⟨hB', hI'⟩ := plain_state hm hB hI ht ho hp hph hpg undef
    refine ⟨G (fr.finish undef) (c :: r2), u', (y2 τ d).k, seen P fr.fn (y2 τ d).fs, ?_, rfl, hev, hCh, hb.low, ?_⟩
    · rw [op_step hm hround hat, apply_ok hke hnc hrun]
    · exact K2 ph [] (f1.finish undef) (f2.finish undef) (fr.finish undef) (y1 τ d).w u' rfl rfl hB' hI' hW2 mids_nil hb.vr1 hb.vr2 hb.sealed_ hO2 K1
  case enter f args =>
    have hfS : f ≠ S := fun e => hK.notS (e ▸ hok)
    dsimp only at K1 K2
    rw [enter_same hK.tw hok hfS] at K1 K2
    refine ⟨G (Frame.enter P f args .normal) (fr :: c :: r2), u', (y2 τ d).k, seen P fr.fn (y2 τ d).fs, ?_, rfl, hev, hCh, hb.low, ?_⟩
    · rw [op_step hm hround hat, apply_ok hke hnc hrun]
    · exact K2 ph [Frame.enter P f args .normal] f1 f2 fr (y1 τ d).w u' rfl rfl hB hI hW2 ⟨fun t h => by rw [List.mem_singleton.1 h]; exact enter_ok hK.tw hok hfS (hK.isS f hok) args, fun t h => (by cases h), fun _ => ⟨hm, ops, i, rest, k, o, ht, ho, hp⟩, fun _ => far_of hph hpg⟩ hb.vr1 hb.vr2 hb.sealed_ hO2 K1
/-- An operation of a callee. -/
theorem shared_step (hK : Strk P F' fs S q r z aY f0 fY lv vs0 B Ok) {ph : Ph} {x1 x2 u : World} {t : Frame} {ms : List Frame} (hm : t.mode = .run) (hc : CalmF (tw P F') FT2 t) (hB : Bt φ q lv S S2 fr f1 f2) (hI : PhI P fs φ q ch z f0 fY lv vs0 ph fr f1) (hW : PhW B ph u) (hMi : Mids P fs φ q ch S ph (t :: ms) fr) (hV1 : Vr true x1 u) (hV2 : Vr false x2 u) (hS : Sealed B x2) (hO : Ok u)
    {o : Oper} (hat : AtOp t o)
    {y2 : (Nat → Question → Nat) → Nat → OpTo} (hy2 : ∀ τ d, (execOp t.eval o).runT (tw P F') (x2.re τ d) #[] = (.ok (y2 τ d).nx ((y2 τ d).w.re τ (d + (y2 τ d).k)), (y2 τ d).fs))
    (k2 : ∀ τ d, MM P F' fs S S2 FT Post Mc φ q ch z f0 fY lv vs0 B Ok c r2 ((y2 τ d).top (tw P F') t) ((y2 τ d).rest t (ms ++ [f2])) (y2 τ d).w)
    {y1 : (Nat → Question → Nat) → Nat → OpTo} (hy1 : ∀ τ d, (execOp t.eval o).runT (tw P F') (x1.re τ d) #[] = (.ok (y1 τ d).nx ((y1 τ d).w.re τ (d + (y1 τ d).k)), (y1 τ d).fs))
    (k1 : ∀ τ d, Tr (tw P F') FT (Back (tw P F') FT Mc c r2) ((y1 τ d).top (tw P F') t) ((y1 τ d).rest t (ms ++ [f1])) (y1 τ d).w) : Cn P Post B false z (ph.cl vs0) (G t (ms ++ [fr] ++ c :: r2)) u := by
  have hsh := hMi.all t (List.mem_cons_self ..)
  refine cn_step rfl fun u₁ hu τ d => ?_
  obtain ⟨hO1, hW1⟩ := okw_ok hK hW hu hO
  have hV1' := Okw.vr hu (phw_ch hW) hV1
  have hV2' := Okw.vr hu (phw_ch hW) hV2
  obtain ⟨u', hb⟩ := op_both (P := P) (F' := F') hK.tw.alike (hsh.op hat) hV1' hV2' hS (hy1 τ d) (hy2 τ d)
  obtain ⟨hW2, hCh⟩ := phw_next (vs0 := vs0) hW1 hb.objs
  have hO2 := hK.okB u₁ u' hb.low hO1
  have hev : ∀ e ∈ seen P t.fn (y2 τ d).fs, Ev0 B e := fun e he => ev0_of (hb.evs e (mem_seen he))
  have K2 := k2 τ d
  have K1 := k1 τ d
  have hrun := hb.run
  have hok := hb.ok
  have hnx := hb.nx
  unfold OpTo.top OpTo.rest at K1 K2
  rw [hnx] at K1
  cases hn : (y2 τ d).nx <;> rw [hn] at K1 K2 hrun hok <;> try exact hok.elim
  case value v =>
    refine ⟨G (t.finish v) (ms ++ [fr] ++ c :: r2), u', (y2 τ d).k, seen P t.fn (y2 τ d).fs, ?_, rfl, hev, hCh, hb.low, ?_⟩
    · rw [op_step hm hc.round hat, apply_ok (kind_normal hc) (waits_nocall (op_waits hat)) hrun]
    · exact K2 ph (t.finish v :: ms) f1 f2 fr (y1 τ d).w u' rfl rfl hB hI hW2 ⟨fun t' h => (List.mem_cons.1 h).elim (fun e => by rw [e]; exact hsh.finish (op_waits hat) v) (fun h => hMi.all t' (List.mem_cons_of_mem _ h)), hMi.waits, fun _ => hMi.wait (by simp), fun _ => hMi.far (by simp)⟩ hb.vr1 hb.vr2 hb.sealed_ hO2 K1
  case skip =>
    refine ⟨G (t.finish undef) (ms ++ [fr] ++ c :: r2), u', (y2 τ d).k, seen P t.fn (y2 τ d).fs, ?_, rfl, hev, hCh, hb.low, ?_⟩
    · rw [op_step hm hc.round hat, apply_ok (kind_normal hc) (waits_nocall (op_waits hat)) hrun]
    · exact K2 ph (t.finish undef :: ms) f1 f2 fr (y1 τ d).w u' rfl rfl hB hI hW2 ⟨fun t' h => (List.mem_cons.1 h).elim (fun e => by rw [e]; exact hsh.finish (op_waits hat) undef) (fun h => hMi.all t' (List.mem_cons_of_mem _ h)), hMi.waits, fun _ => hMi.wait (by simp), fun _ => hMi.far (by simp)⟩ hb.vr1 hb.vr2 hb.sealed_ hO2 K1
  case enter f args =>
    have hfS : f ≠ S := fun e => hK.notS (e ▸ hok)
    dsimp only at K1 K2
    rw [enter_same hK.tw hok hfS] at K1 K2
    refine ⟨G (Frame.enter P f args .normal) (t :: (ms ++ [fr] ++ c :: r2)), u', (y2 τ d).k, seen P t.fn (y2 τ d).fs, ?_, rfl, hev, hCh, hb.low, ?_⟩
    · rw [op_step hm hc.round hat, apply_ok (kind_normal hc) (waits_nocall (op_waits hat)) hrun]
    · exact K2 ph (Frame.enter P f args .normal :: t :: ms) f1 f2 fr (y1 τ d).w u' rfl rfl hB hI hW2 ⟨fun t' h => (List.mem_cons.1 h).elim (fun e => by rw [e]; exact enter_ok hK.tw hok hfS (hK.isS f hok) args) (fun h => hMi.all t' h), fun t' h => (List.mem_cons.1 h).elim (fun e => by rw [e]; exact op_waits hat) (fun h => hMi.waits t' h), fun _ => hMi.wait (by simp), fun _ => hMi.far (by simp)⟩ hb.vr1 hb.vr2 hb.sealed_ hO2 K1
end
end Go.Goes
