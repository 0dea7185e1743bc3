/-
  TwGoesA: texts of one claim, in one.
-/
import GoSem.Dispatch
import Derived.Conc.Own
import Derived.Conc.CrowdComm
import Derived.Conc.Beside
import Derived.Conc.Fork
import Derived.Conc.EventLaws
import Derived.Conc.SmallLaws
import Derived.Laws.Sem
import Derived.IntWalk

/-
  Goroutines: what they do, told without them. (Laid by glay.py.)
-/
set_option maxHeartbeats 2000000
set_option linter.all false
-- Calm
/-
  Pieces of the machine that are calm: they ask nothing of the outside, list no word that stops or starts the hearing, never wait; on another tape that agrees on the draws that they make they do the same. (Made by mk2.py.)
-/
namespace Go.Goes

/-- A halt that is no waiting and no leaving of the program or of the goroutine. -/
def plainHalt : Halt → Prop
  | .panic _ | .stuck _ | .unsupported _ => True
  | _ => False

inductive Calm (P : Program) {α : Type} (Q : α → Prop) : Sem α → Prop
  | pure (a : α) (h : Q a) : Calm P Q (.pure a)
  | load (m : Mode) (a : Addr) (k : Value → Sem α) (h : ∀ v, Calm P Q (k v)) : Calm P Q (.load m a k)
  | store (m : Mode) (a : Addr) (v : Value) (k : Sem α) (h : Calm P Q k) : Calm P Q (.store m a v k)
  | new (o : Obj) (k : Nat → Sem α) (h : ∀ r, Calm P Q (k r)) : Calm P Q (.new o k)
  | shape (r : Nat) (k : Option (TypeId × Nat) → Sem α) (h : ∀ s, Calm P Q (k s)) : Calm P Q (.shape r k)
  | freeze (a : Addr) (n : Nat) (k : Sem α) (h : Calm P Q k) : Calm P Q (.freeze a n k)
  | frozen (a : Addr) (k : Bool → Sem α) (h : ∀ b, Calm P Q (k b)) : Calm P Q (.frozen a k)
  | getObj (r : Nat) (k : Obj → Sem α) (h : ∀ o, Calm P Q (k o)) : Calm P Q (.getObj r k)
  | setObj (r : Nat) (o : Obj) (k : Sem α) (h : Calm P Q k) : Calm P Q (.setObj r o k)
  | choose (q : Question) (k : Nat → Sem α) (h : ∀ n, Calm P Q (k n)) : Calm P Q (.choose q k)
  | program (k : Program → Sem α) (h : Calm P Q (k P)) : Calm P Q (.program k)
  | mark (m : Mark) (k : Sem α) (hm : m ≠ .disable ∧ m ≠ .enable) (h : Calm P Q k) : Calm P Q (.mark m k)
  | halt (h : Halt) (hh : plainHalt h) : Calm P Q (.halt h)

section
variable {P : Program}
theorem Calm.bindQ {α β : Type} {Q : β → Prop} {R : α → Prop} {m : Sem α} {f : α → Sem β} (hm : Calm P R m) (hf : ∀ a, R a → Calm P Q (f a)) : Calm P Q (m.bind f) := by
  induction hm with
  | pure a h => exact hf a h
  | load m a k _ ih => exact .load m a _ ih
  | store m a v k _ ih => exact .store m a v _ ih
  | new o k _ ih => exact .new o _ ih
  | shape r k _ ih => exact .shape r _ ih
  | freeze a n k _ ih => exact .freeze a n _ ih
  | frozen a k _ ih => exact .frozen a _ ih
  | getObj r k _ ih => exact .getObj r _ ih
  | setObj r o k _ ih => exact .setObj r o _ ih
  | choose q k _ ih => exact .choose q _ ih
  | program k _ ih => exact .program _ ih
  | mark m k hm _ ih => exact .mark m _ hm ih
  | halt h hh => exact .halt h hh
variable (P) in
abbrev CalmT {α : Type} (m : Sem α) : Prop := Calm P (fun _ => True) m
theorem Calm.bind {α β : Type} {Q : β → Prop} {m : Sem α} {f : α → Sem β} (hm : CalmT P m) (hf : ∀ a, Calm P Q (f a)) : Calm P Q (m >>= f) := hm.bindQ (fun a _ => hf a)
theorem Calm.ite {α : Type} {Q : α → Prop} {c : Prop} [Decidable c] {a b : Sem α} (ha : Calm P Q a) (hb : Calm P Q b) : Calm P Q (if c then a else b) := by split <;> assumption
theorem calm_pure {α : Type} (a : α) : CalmT P (Pure.pure a : Sem α) := .pure a trivial
theorem calm_stuck {α : Type} {Q : α → Prop} (s : String) : Calm P Q (stuck s : Sem α) := .halt _ trivial
theorem calm_unsupported {α : Type} {Q : α → Prop} (s : Unsupported) : Calm P Q (unsupported s : Sem α) := .halt _ trivial
theorem calm_goPanic {α : Type} {Q : α → Prop} (v : Value) : Calm P Q (goPanic v : Sem α) := .halt _ trivial
theorem calm_program : CalmT P Go.program := .program _ (.pure _ trivial)
theorem calm_load (a : Addr) (m : Mode) : CalmT P (Go.load a m) := .load _ _ _ (fun _ => .pure _ trivial)
theorem calm_store (a : Addr) (v : Value) (m : Mode) : CalmT P (Go.store a v m) := .store _ _ _ _ (.pure _ trivial)
theorem calm_newObj (o : Obj) : CalmT P (newObj o) := .new _ _ (fun _ => .pure _ trivial)
theorem calm_shape (r : Nat) : CalmT P (shape r) := .shape _ _ (fun _ => .pure _ trivial)
theorem calm_frozen (a : Addr) : CalmT P (frozen a) := .frozen _ _ (fun _ => .pure _ trivial)
theorem calm_getObj (r : Nat) : CalmT P (getObj r) := .getObj _ _ (fun _ => .pure _ trivial)
theorem calm_choose (q : Question) : CalmT P (choose q) := .choose _ _ (fun _ => .pure _ trivial)
theorem calm_noRoom : CalmT P (mark .noRoom) := .mark _ _ ⟨by simp, by simp⟩ (.pure _ trivial)
theorem calm_map {α β : Type} (f : α → β) {m : Sem α} (h : CalmT P m) : CalmT P (f <$> m) := h.bindQ (fun _ _ => .pure _ trivial)
theorem calm_listForIn {α β : Type} (f : α → β → Sem (ForInStep β)) (hf : ∀ a b, CalmT P (f a b)) : ∀ (l : List α) (b : β), CalmT P (forIn l b f)
  | [], b => by rw [List.forIn_nil]; exact calm_pure _
  | a :: l, b => by
    rw [List.forIn_cons]
    refine Calm.bind (hf a b) (fun s => ?_)
    cases s with
    | done b => exact calm_pure _
    | yield b => exact calm_listForIn f hf l b
theorem calm_arrayForIn {α β : Type} (f : α → β → Sem (ForInStep β)) (hf : ∀ a b, CalmT P (f a b)) (l : Array α) (b : β) : CalmT P (forIn l b f) := by
  rw [← Array.forIn_toList]; exact calm_listForIn f hf _ _
theorem calm_rangeForIn {β : Type} (f : Nat → β → Sem (ForInStep β)) (hf : ∀ a b, CalmT P (f a b)) (r : Std.Legacy.Range) (b : β) : CalmT P (forIn r b f) := by
  rw [Std.Legacy.Range.forIn_eq_forIn_range']; exact calm_listForIn f hf _ _
theorem lawfulSem : LawfulMonad Sem := by
  have h1 : ∀ {α : Type} (x : Sem α), x.bind Sem.pure = x := by
    intro α x
    induction x with
    | pure a => rfl
    | load m a k ih => exact congrArg _ (funext ih)
    | store m a v k ih => exact congrArg _ ih
    | new o k ih => exact congrArg _ (funext ih)
    | shape r k ih => exact congrArg _ (funext ih)
    | freeze a n k ih => exact congrArg _ ih
    | frozen a k ih => exact congrArg _ (funext ih)
    | getObj r k ih => exact congrArg _ (funext ih)
    | setObj r o k ih => exact congrArg _ ih
    | choose q k ih => exact congrArg _ (funext ih)
    | sys c k ih => exact congrArg _ (funext ih)
    | program k ih => exact congrArg _ (funext ih)
    | mark m k ih => exact congrArg _ ih
    | halt h => rfl
  have h2 : ∀ {α β γ : Type} (x : Sem α) (f : α → Sem β) (g : β → Sem γ), (x.bind f).bind g = x.bind fun a => (f a).bind g := by
    intro α β γ x f g
    induction x with
    | pure a => rfl
    | load m a k ih => exact congrArg _ (funext ih)
    | store m a v k ih => exact congrArg _ ih
    | new o k ih => exact congrArg _ (funext ih)
    | shape r k ih => exact congrArg _ (funext ih)
    | freeze a n k ih => exact congrArg _ ih
    | frozen a k ih => exact congrArg _ (funext ih)
    | getObj r k ih => exact congrArg _ (funext ih)
    | setObj r o k ih => exact congrArg _ ih
    | choose q k ih => exact congrArg _ (funext ih)
    | sys c k ih => exact congrArg _ (funext ih)
    | program k ih => exact congrArg _ (funext ih)
    | mark m k ih => exact congrArg _ ih
    | halt h => rfl
  exact LawfulMonad.mk' Sem (fun x => h1 x) (fun _ _ => rfl) (fun x f g => h2 x f g)
theorem calm_arrayMapM {α β : Type} (f : α → Sem β) (hf : ∀ a, CalmT P (f a)) (l : Array α) : CalmT P (l.mapM f) := by
  haveI := lawfulSem
  rw [Array.mapM_eq_foldlM, ← Array.foldlM_toList]
  generalize (#[] : Array β) = b
  induction l.toList generalizing b with
  | nil => exact calm_pure _
  | cons a l ih => rw [List.foldlM_cons]; exact Calm.bind (Calm.bind (hf a) (fun _ => calm_pure _)) (fun _ => ih _)

theorem calm_typeInfo (t : TypeId) : CalmT P (typeInfo t) := by
  unfold typeInfo
  repeat' (first | exact calm_stuck _ | exact calm_pure _ | exact calm_program | refine Calm.bind ?_ (fun _ => ?_) | refine Calm.ite ?_ ?_ | split | (extract_lets; skip) | dsimp only)
theorem calm_underlying (t : TypeId) : CalmT P (underlying t) := by
  unfold underlying
  repeat' (first | exact calm_stuck _ | exact calm_pure _ | exact calm_program | refine Calm.bind ?_ (fun _ => ?_) | refine Calm.ite ?_ ?_ | split | (extract_lets; skip) | dsimp only)
theorem calm_zeroValue (t : TypeId) : CalmT P (zeroValue t) := by
  unfold zeroValue
  repeat' (first | exact calm_typeInfo _ | exact calm_unsupported _ | exact calm_pure _ | refine Calm.bind ?_ (fun _ => ?_) | refine Calm.ite ?_ ?_ | split | (extract_lets; skip) | dsimp only)
theorem calm_typeStr (t : TypeId) : CalmT P (typeStr t) := by
  unfold typeStr
  repeat' (first | exact calm_typeInfo _ | exact calm_unsupported _ | exact calm_pure _ | refine Calm.bind ?_ (fun _ => ?_) | refine Calm.ite ?_ ?_ | split | (extract_lets; skip) | dsimp only)
theorem calm_sizeOf (t : TypeId) : CalmT P (sizeOf t) := by
  unfold sizeOf
  repeat' (first | exact calm_typeInfo _ | exact calm_pure _ | refine Calm.bind ?_ (fun _ => ?_) | refine Calm.ite ?_ ?_ | split | (extract_lets; skip) | dsimp only)
theorem calm_isAgg (t : TypeId) : CalmT P (isAgg t) := by
  unfold isAgg
  repeat' (first | exact calm_underlying _ | exact calm_pure _ | refine Calm.bind ?_ (fun _ => ?_) | refine Calm.ite ?_ ?_ | split | (extract_lets; skip) | dsimp only)
theorem calm_loadCellsFrom (a : Addr) : ∀ (n i : Nat) (acc : Array Value), CalmT P (loadCellsFrom a i n acc)
  | 0, _, _ => calm_pure _
  | n + 1, _, _ => Calm.bind (calm_load _ _) (fun _ => calm_loadCellsFrom a n _ _)
theorem calm_loadCells (a : Addr) (n : Nat) : CalmT P (loadCells a n) := calm_loadCellsFrom a n 0 _
theorem calm_storeCells (a : Addr) : ∀ (vs : List Value) (i : Nat), CalmT P (storeCells a vs i)
  | [], _ => calm_pure _
  | v :: rest, i => by unfold storeCells; exact Calm.bind (calm_store _ _ _) (fun _ => calm_storeCells a rest _)
theorem calm_loadVar (t : TypeId) (a : Addr) : CalmT P (loadVar t a) := by
  unfold loadVar
  repeat' (first | exact calm_loadCells _ _ | exact calm_isAgg _ | exact calm_sizeOf _ | exact calm_load _ _ | exact calm_pure _ | refine Calm.bind ?_ (fun _ => ?_) | refine Calm.ite ?_ ?_ | split | (extract_lets; skip) | dsimp only)
theorem calm_storeVar (t : TypeId) (a : Addr) (v : Value) : CalmT P (storeVar t a v) := by
  unfold storeVar
  repeat' (first | exact calm_storeCells _ _ _ | exact calm_sizeOf _ | exact calm_stuck _ | refine Calm.bind ?_ (fun _ => ?_) | refine Calm.ite ?_ ?_ | split | (extract_lets; skip) | dsimp only)
theorem calm_newRow (t : TypeId) (c : Array Value) : CalmT P (newRow t c) := by
  unfold newRow
  repeat' (first | exact calm_newObj _ | exact calm_pure _ | refine Calm.bind ?_ (fun _ => ?_) | refine Calm.ite ?_ ?_ | split | (extract_lets; skip) | dsimp only)
theorem calm_newVar (t : TypeId) (v : Value) : CalmT P (newVar t v) := by
  unfold newVar
  repeat' (first | exact calm_newRow _ _ | refine Calm.bind ?_ (fun _ => ?_) | refine Calm.ite ?_ ?_ | split | (extract_lets; skip) | dsimp only)
theorem calm_elemOf (t : TypeId) : CalmT P (elemOf t) := by
  unfold elemOf
  repeat' (first | exact calm_underlying _ | exact calm_stuck _ | exact calm_pure _ | refine Calm.bind ?_ (fun _ => ?_) | refine Calm.ite ?_ ?_ | split | (extract_lets; skip) | dsimp only)
theorem calm_part (t : TypeId) (cs : Array Value) (off : Nat) : CalmT P (part t cs off) := by
  unfold part
  repeat' (first | exact calm_isAgg _ | exact calm_sizeOf _ | exact calm_stuck _ | exact calm_pure _ | refine Calm.bind ?_ (fun _ => ?_) | refine Calm.ite ?_ ?_ | split | (extract_lets; skip) | dsimp only)
theorem calm_runtimePanic {α : Type} {Q : α → Prop} (e : RuntimeError) : Calm P Q (runtimePanic e : Sem α) := by
  unfold runtimePanic
  repeat' (first | exact calm_elemOf _ | exact calm_newVar _ _ | exact calm_goPanic _ | exact calm_program | refine Calm.bind ?_ (fun _ => ?_) | refine Calm.ite ?_ ?_ | split | (extract_lets; skip) | dsimp only)
theorem calm_boundsPanic {α : Type} {Q : α → Prop} (k : IntKind) (x y : Int) (c : BoundsCode) : Calm P Q (boundsPanic k x y c : Sem α) := by
  unfold boundsPanic
  repeat' (first | exact calm_runtimePanic _ | exact calm_map _ (calm_choose _) | exact calm_choose _ | exact calm_pure _ | refine Calm.bind ?_ (fun _ => ?_) | refine Calm.ite ?_ ?_ | split | (extract_lets; skip) | dsimp only)
theorem calm_asIntOf (v : Value) : CalmT P (asIntOf v) := by
  unfold asIntOf
  repeat' (first | exact calm_unsupported _ | exact calm_stuck _ | exact calm_pure _ | refine Calm.bind ?_ (fun _ => ?_) | refine Calm.ite ?_ ?_ | split | (extract_lets; skip) | dsimp only)
theorem calm_asInt (v : Value) : CalmT P (asInt v) := by
  unfold asInt
  repeat' (first | exact calm_asIntOf _ | exact calm_pure _ | refine Calm.bind ?_ (fun _ => ?_) | refine Calm.ite ?_ ?_ | split | (extract_lets; skip) | dsimp only)
theorem calm_asBool (v : Value) : CalmT P (asBool v) := by
  unfold asBool
  repeat' (first | exact calm_stuck _ | exact calm_pure _ | refine Calm.bind ?_ (fun _ => ?_) | refine Calm.ite ?_ ?_ | split | (extract_lets; skip) | dsimp only)
theorem calm_asAgg (v : Value) : CalmT P (asAgg v) := by
  unfold asAgg
  repeat' (first | exact calm_stuck _ | exact calm_pure _ | refine Calm.bind ?_ (fun _ => ?_) | refine Calm.ite ?_ ?_ | split | (extract_lets; skip) | dsimp only)
theorem calm_asAddr (v : Value) : CalmT P (asAddr v) := by
  unfold asAddr
  repeat' (first | exact calm_runtimePanic _ | exact calm_stuck _ | exact calm_pure _ | refine Calm.bind ?_ (fun _ => ?_) | refine Calm.ite ?_ ?_ | split | (extract_lets; skip) | dsimp only)
theorem calm_askRoom (n : Nat) : CalmT P (askRoom n) := by
  unfold askRoom
  repeat' (first | exact calm_noRoom | exact calm_pure _ | refine Calm.bind ?_ (fun _ => ?_) | refine Calm.ite ?_ ?_ | split | (extract_lets; skip) | dsimp only)
theorem calm_viewAt (r : Nat) : CalmT P (viewAt r) := by
  unfold viewAt
  repeat' (first | exact calm_getObj _ | exact calm_shape _ | exact calm_pure _ | refine Calm.bind ?_ (fun _ => ?_) | refine Calm.ite ?_ ?_ | split | (extract_lets; skip) | dsimp only)
theorem calm_numberAt (r : Nat) : CalmT P (numberAt r) := by
  unfold numberAt
  repeat' (first | exact calm_getObj _ | exact calm_shape _ | exact calm_pure _ | refine Calm.bind ?_ (fun _ => ?_) | refine Calm.ite ?_ ?_ | split | (extract_lets; skip) | dsimp only)
theorem calm_asNumber (a : Addr) (b : Bool) : CalmT P (asNumber a b) := by
  unfold asNumber
  repeat' (first | exact calm_newObj _ | exact calm_pure _ | refine Calm.bind ?_ (fun _ => ?_) | refine Calm.ite ?_ ?_ | split | (extract_lets; skip) | dsimp only)
theorem calm_behindNumber (a : Addr) : CalmT P (behindNumber a) := by
  unfold behindNumber
  repeat' (first | exact calm_numberAt _ | exact calm_pure _ | refine Calm.bind ?_ (fun _ => ?_) | refine Calm.ite ?_ ?_ | split | (extract_lets; skip) | dsimp only)
theorem calm_noView (a : Addr) : CalmT P (noView a) := by
  unfold noView
  repeat' (first | exact calm_viewAt _ | exact calm_unsupported _ | exact calm_pure _ | refine Calm.bind ?_ (fun _ => ?_) | refine Calm.ite ?_ ?_ | split | (extract_lets; skip) | dsimp only)
theorem calm_stringish (a : Addr) : CalmT P (stringish a) := by
  unfold stringish
  repeat' (first | exact calm_frozen _ | exact calm_shape _ | exact calm_pure _ | refine Calm.bind ?_ (fun _ => ?_) | refine Calm.ite ?_ ?_ | split | (extract_lets; skip) | dsimp only)
theorem calm_mayBeOne (a b : Addr) : CalmT P (mayBeOne a b) := by
  unfold mayBeOne
  repeat' (first | exact calm_stringish _ | exact calm_shape _ | exact calm_pure _ | refine Calm.bind ?_ (fun _ => ?_) | refine Calm.ite ?_ ?_ | split | (extract_lets; skip) | dsimp only)
theorem calm_sameAddr (a b : Addr) : CalmT P (sameAddr a b) := by
  unfold sameAddr
  repeat' (first | exact calm_mayBeOne _ _ | exact calm_noView _ | exact calm_map _ (calm_choose _) | exact calm_choose _ | exact calm_frozen _ | exact calm_unsupported _ | exact calm_pure _ | refine Calm.bind ?_ (fun _ => ?_) | refine Calm.ite ?_ ?_ | split | (extract_lets; skip) | dsimp only)
theorem calm_samePointer (a b : Option Addr) : CalmT P (samePointer a b) := by
  unfold samePointer
  repeat' (first | exact calm_sameAddr _ _ | exact calm_pure _ | refine Calm.bind ?_ (fun _ => ?_) | refine Calm.ite ?_ ?_ | split | (extract_lets; skip) | dsimp only)
theorem calm_byteOf (a : Addr) : CalmT P (byteOf a) := by
  unfold byteOf
  repeat' (first | exact calm_noView _ | exact calm_shape _ | exact calm_stuck _ | exact calm_pure _ | exact calm_program | refine Calm.bind ?_ (fun _ => ?_) | refine Calm.ite ?_ ?_ | split | (extract_lets; skip) | dsimp only)
theorem calm_partAt (a : Addr) (b c : Nat) : CalmT P (partAt a b c) := by
  unfold partAt
  repeat' (first | exact calm_byteOf _ | exact calm_pure _ | refine Calm.bind ?_ (fun _ => ?_) | refine Calm.ite ?_ ?_ | split | (extract_lets; skip) | dsimp only)
theorem calm_fieldPlace (a : Addr) (f : Field) : CalmT P (fieldPlace a f) := by
  unfold fieldPlace
  repeat' (first | exact calm_partAt _ _ _ | exact calm_sizeOf _ | exact calm_pure _ | refine Calm.bind ?_ (fun _ => ?_) | refine Calm.ite ?_ ?_ | split | (extract_lets; skip) | dsimp only)
theorem calm_alloc (t : TypeId) (h : Bool) (v : Value) : CalmT P (Instr.alloc t h v) := by
  unfold Instr.alloc
  repeat' (first | exact calm_newVar _ _ | exact calm_storeVar _ _ _ | exact calm_zeroValue _ | exact calm_pure _ | refine Calm.bind ?_ (fun _ => ?_) | refine Calm.ite ?_ ?_ | split | (extract_lets; skip) | dsimp only)
theorem calm_box (t : TypeId) (v : Value) : CalmT P (Instr.box t v) := by
  unfold Instr.box
  repeat' (first | exact calm_newVar _ _ | exact calm_pure _ | refine Calm.bind ?_ (fun _ => ?_) | refine Calm.ite ?_ ?_ | split | (extract_lets; skip) | dsimp only)
theorem calm_build (t : TypeId) (ps : Array (Nat × Value)) : CalmT P (Instr.build t ps) := by
  unfold Instr.build
  repeat' (first | exact calm_sizeOf _ | exact calm_zeroValue _ | exact calm_underlying _ | exact calm_stuck _ | exact calm_pure _ | refine Calm.bind ?_ (fun _ => ?_) | refine Calm.ite ?_ ?_ | refine calm_arrayMapM _ (fun _ => ?_) _ | split | (extract_lets; skip) | dsimp only)
theorem calm_buildSlice (t : TypeId) (n : Nat) (ps : Array (Nat × Value)) : CalmT P (Instr.buildSlice t n ps) := by
  unfold Instr.buildSlice
  repeat' (first | exact calm_newRow _ _ | exact calm_sizeOf _ | exact calm_zeroValue _ | exact calm_underlying _ | exact calm_unsupported _ | exact calm_stuck _ | exact calm_pure _ | refine Calm.bind ?_ (fun _ => ?_) | refine Calm.ite ?_ ?_ | split | (extract_lets; skip) | dsimp only)
theorem calm_sureAddr (v : Value) : CalmT P (Instr.sureAddr v) := by
  unfold Instr.sureAddr
  repeat' (first | exact calm_stuck _ | exact calm_pure _ | refine Calm.bind ?_ (fun _ => ?_) | refine Calm.ite ?_ ?_ | split | (extract_lets; skip) | dsimp only)
theorem calm_loadAt (t : TypeId) (v : Value) : CalmT P (Instr.loadAt t v) := by
  unfold Instr.loadAt
  repeat' (first | exact calm_sureAddr _ | exact calm_loadVar _ _ | refine Calm.bind ?_ (fun _ => ?_) | refine Calm.ite ?_ ?_ | split | (extract_lets; skip) | dsimp only)
theorem calm_storeAt (t : TypeId) (v x : Value) : CalmT P (Instr.storeAt t v x) := by
  unfold Instr.storeAt
  repeat' (first | exact calm_sureAddr _ | exact calm_storeVar _ _ _ | refine Calm.bind ?_ (fun _ => ?_) | refine Calm.ite ?_ ?_ | split | (extract_lets; skip) | dsimp only)
theorem calm_fieldAt (t : TypeId) (v : Value) (n : Nat) : CalmT P (Instr.fieldAt t v n) := by
  unfold Instr.fieldAt
  repeat' (first | exact calm_sureAddr _ | exact calm_fieldPlace _ _ | exact calm_underlying _ | exact calm_stuck _ | exact calm_pure _ | refine Calm.bind ?_ (fun _ => ?_) | refine Calm.ite ?_ ?_ | split | (extract_lets; skip) | dsimp only)
theorem calm_indexAt (t : TypeId) (v x : Value) : CalmT P (Instr.indexAt t v x) := by
  unfold Instr.indexAt
  repeat' (first | exact calm_sureAddr _ | exact calm_asIntOf _ | exact calm_boundsPanic _ _ _ _ | exact calm_sizeOf _ | exact calm_underlying _ | exact calm_unsupported _ | exact calm_stuck _ | exact calm_pure _ | refine Calm.bind ?_ (fun _ => ?_) | refine Calm.ite ?_ ?_ | split | (extract_lets; skip) | dsimp only)
theorem calm_field (t : TypeId) (v : Value) (n : Nat) : CalmT P (Instr.field t v n) := by
  unfold Instr.field
  repeat' (first | exact calm_asAgg _ | exact calm_part _ _ _ | exact calm_underlying _ | exact calm_stuck _ | refine Calm.bind ?_ (fun _ => ?_) | refine Calm.ite ?_ ?_ | split | (extract_lets; skip) | dsimp only)
theorem calm_index (t : TypeId) (v x : Value) : CalmT P (Instr.index t v x) := by
  unfold Instr.index
  repeat' (first | exact calm_asIntOf _ | exact calm_boundsPanic _ _ _ _ | exact calm_part _ _ _ | exact calm_sizeOf _ | exact calm_underlying _ | exact calm_stuck _ | exact calm_pure _ | refine Calm.bind ?_ (fun _ => ?_) | refine Calm.ite ?_ ?_ | split | (extract_lets; skip) | dsimp only)
theorem calm_makeSlice (t : TypeId) (l c : Value) : CalmT P (Instr.makeSlice t l c) := by
  unfold Instr.makeSlice
  repeat' (first | exact calm_askRoom _ | exact calm_asInt _ | exact calm_runtimePanic _ | exact calm_newRow _ _ | exact calm_sizeOf _ | exact calm_zeroValue _ | exact calm_underlying _ | exact calm_typeInfo _ | exact calm_map _ (calm_choose _) | exact calm_choose _ | exact calm_stuck _ | exact calm_pure _ | refine Calm.bind ?_ (fun _ => ?_) | refine Calm.ite ?_ ?_ | split | (extract_lets; skip) | dsimp only)
theorem calm_extract (v : Value) (n : Nat) : CalmT P (Instr.extract v n) := by
  unfold Instr.extract
  repeat' (first | exact calm_stuck _ | exact calm_pure _ | refine Calm.bind ?_ (fun _ => ?_) | refine Calm.ite ?_ ?_ | split | (extract_lets; skip) | dsimp only)
theorem calm_len (ts : Array TypeId) (t : TypeId) (vs : Array Value) : CalmT P (Builtin.len_ ts t vs) := by
  unfold Builtin.len_
  repeat' (first | exact calm_underlying _ | exact calm_getObj _ | exact calm_stuck _ | exact calm_pure _ | refine Calm.bind ?_ (fun _ => ?_) | refine Calm.ite ?_ ?_ | split | (extract_lets; skip) | dsimp only)
theorem calm_holdsCells (a : Addr) (n : Nat) : CalmT P (Builtin.holdsCells a n) := by
  unfold Builtin.holdsCells
  repeat' (first | exact calm_shape _ | exact calm_pure _ | refine Calm.bind ?_ (fun _ => ?_) | refine Calm.ite ?_ ?_ | split | (extract_lets; skip) | dsimp only)
theorem calm_mayShare (a b c : Nat) (d : Option Addr) (v : Value) : CalmT P (Builtin.mayShare a b c d v) := by
  unfold Builtin.mayShare
  repeat' (first | exact calm_holdsCells _ _ | exact calm_frozen _ | exact calm_pure _ | refine Calm.bind ?_ (fun _ => ?_) | refine Calm.ite ?_ ?_ | split | (extract_lets; skip) | dsimp only)
theorem calm_lenOf (v : Value) : CalmT P (Builtin.lenOf v) := by
  unfold Builtin.lenOf
  repeat' (first | exact calm_stuck _ | exact calm_pure _ | refine Calm.bind ?_ (fun _ => ?_) | refine Calm.ite ?_ ?_ | split | (extract_lets; skip) | dsimp only)
theorem calm_firstCells (a b : Nat) (v : Value) : CalmT P (Builtin.firstCells a b v) := by
  unfold Builtin.firstCells
  repeat' (first | exact calm_loadCells _ _ | exact calm_stuck _ | exact calm_pure _ | refine Calm.bind ?_ (fun _ => ?_) | refine Calm.ite ?_ ?_ | split | (extract_lets; skip) | dsimp only)
theorem calm_intArith (op : BinOp) (k : IntKind) (a b : Int) : CalmT P (Op.intArith op k a b) := by
  unfold Op.intArith
  repeat' (first | exact calm_stuck _ | exact calm_pure _ | refine Calm.bind ?_ (fun _ => ?_) | refine Calm.ite ?_ ?_ | split | (extract_lets; skip) | dsimp only)
theorem calm_intDiv (op : BinOp) (k : IntKind) (a b : Int) : CalmT P (Op.intDiv op k a b) := by
  unfold Op.intDiv
  repeat' (first | exact calm_runtimePanic _ | exact calm_stuck _ | exact calm_pure _ | refine Calm.bind ?_ (fun _ => ?_) | refine Calm.ite ?_ ?_ | split | (extract_lets; skip) | dsimp only)
theorem calm_intBits (op : BinOp) (k : IntKind) (a b : Int) : CalmT P (Op.intBits op k a b) := by
  unfold Op.intBits
  repeat' (first | exact calm_stuck _ | exact calm_pure _ | refine Calm.bind ?_ (fun _ => ?_) | refine Calm.ite ?_ ?_ | split | (extract_lets; skip) | dsimp only)
theorem calm_intCmp (op : BinOp) (a b : Int) : CalmT P (Op.intCmp op a b) := by
  unfold Op.intCmp
  repeat' (first | exact calm_stuck _ | exact calm_pure _ | refine Calm.bind ?_ (fun _ => ?_) | refine Calm.ite ?_ ?_ | split | (extract_lets; skip) | dsimp only)
theorem calm_shift (op : BinOp) (k : IntKind) (a : Int) (k2 : IntKind) (b : Int) : CalmT P (Op.shift op k a k2 b) := by
  unfold Op.shift
  repeat' (first | exact calm_runtimePanic _ | exact calm_stuck _ | exact calm_pure _ | refine Calm.bind ?_ (fun _ => ?_) | refine Calm.ite ?_ ?_ | split | (extract_lets; skip) | dsimp only)
theorem calm_unary (op : UnOp) (v : Value) : CalmT P (Op.unary op v) := by
  unfold Op.unary
  repeat' (first | exact calm_intBits _ _ _ _ | exact calm_intArith _ _ _ _ | exact calm_unsupported _ | exact calm_stuck _ | exact calm_pure _ | refine Calm.bind ?_ (fun _ => ?_) | refine Calm.ite ?_ ?_ | split | (extract_lets; skip) | dsimp only)
theorem calm_stringOp (op : BinOp) (a b : ByteArray) : CalmT P (Op.stringOp op a b) := by
  unfold Op.stringOp
  repeat' (first | exact calm_unsupported _ | exact calm_stuck _ | exact calm_pure _ | refine Calm.bind ?_ (fun _ => ?_) | refine Calm.ite ?_ ?_ | split | (extract_lets; skip) | dsimp only)
theorem calm_floatArith (op : BinOp) (k : FloatKind) (a b : Nat) : CalmT P (Op.floatArith op k a b) := by
  unfold Op.floatArith
  repeat' (first | exact calm_map _ (calm_choose _) | exact calm_choose _ | exact calm_stuck _ | exact calm_pure _ | refine Calm.bind ?_ (fun _ => ?_) | refine Calm.ite ?_ ?_ | split | (extract_lets; skip) | dsimp only)
theorem calm_floatCmp (op : BinOp) (k : FloatKind) (a b : Nat) : CalmT P (Op.floatCmp op k a b) := by
  unfold Op.floatCmp
  repeat' (first | exact calm_stuck _ | exact calm_pure _ | refine Calm.bind ?_ (fun _ => ?_) | refine Calm.ite ?_ ?_ | split | (extract_lets; skip) | dsimp only)
theorem calm_twoPlaces (a b : Addr) : CalmT P (Op.twoPlaces a b) := by
  unfold Op.twoPlaces
  repeat' (first | exact calm_byteOf _ | exact calm_unsupported _ | exact calm_pure _ | exact calm_program | refine Calm.bind ?_ (fun _ => ?_) | refine Calm.ite ?_ ?_ | split | (extract_lets; skip) | dsimp only)
theorem calm_addrSub (k : IntKind) (a b : Addr) : CalmT P (Op.addrSub k a b) := by
  unfold Op.addrSub
  repeat' (first | exact calm_twoPlaces _ _ | exact calm_pure _ | refine Calm.bind ?_ (fun _ => ?_) | refine Calm.ite ?_ ?_ | split | (extract_lets; skip) | dsimp only)
theorem calm_addrCmp (op : BinOp) (a b : Addr) : CalmT P (Op.addrCmp op a b) := by
  unfold Op.addrCmp
  repeat' (first | exact calm_twoPlaces _ _ | exact calm_unsupported _ | exact calm_pure _ | refine Calm.bind ?_ (fun _ => ?_) | refine Calm.ite ?_ ?_ | split | (extract_lets; skip) | dsimp only)
theorem calm_addrMod (k : IntKind) (a : Addr) (n : Int) : CalmT P (Op.addrMod k a n) := by
  unfold Op.addrMod
  repeat' (first | exact calm_byteOf _ | exact calm_typeInfo _ | exact calm_shape _ | exact calm_unsupported _ | exact calm_pure _ | refine Calm.bind ?_ (fun _ => ?_) | refine Calm.ite ?_ ?_ | split | (extract_lets; skip) | dsimp only)
theorem calm_equalIn : ∀ (d : Nat) (t : TypeId) (x y : Value), CalmT P (Op.equalIn d t x y)
  | 0, _, _, _ => by unfold Op.equalIn; exact calm_unsupported _
  | d + 1, t, x, y => by
    unfold Op.equalIn
    repeat' (first | exact calm_equalIn d _ _ _ | exact calm_byteOf _ | exact calm_samePointer _ _ | exact calm_sameAddr _ _ | exact calm_behindNumber _ | exact calm_runtimePanic _ | exact calm_part _ _ _ | exact calm_sizeOf _ | exact calm_typeStr _ | exact calm_underlying _ | exact calm_typeInfo _ | exact calm_map _ (calm_choose _) | exact calm_choose _ | exact calm_unsupported _ | exact calm_stuck _ | exact calm_pure _ | exact calm_program | refine Calm.bind ?_ (fun _ => ?_) | refine Calm.ite ?_ ?_ | refine calm_arrayForIn _ (fun _ _ => ?_) _ _ | refine calm_rangeForIn _ (fun _ _ => ?_) _ _ | split | (extract_lets; skip) | dsimp only)
theorem calm_equal (t : TypeId) (x y : Value) : CalmT P (Op.equal t x y) := calm_equalIn _ _ _ _
theorem calm_eqGuardIn : ∀ (d : Nat) (t : TypeId) (x y : Value), CalmT P (Op.eqGuardIn d t x y)
  | 0, _, _, _ => by unfold Op.eqGuardIn; exact calm_unsupported _
  | d + 1, t, x, y => by
    unfold Op.eqGuardIn
    repeat' (first | exact calm_eqGuardIn d _ _ _ | exact calm_part _ _ _ | exact calm_sizeOf _ | exact calm_underlying _ | exact calm_unsupported _ | exact calm_pure _ | refine Calm.bind ?_ (fun _ => ?_) | refine Calm.ite ?_ ?_ | refine calm_arrayForIn _ (fun _ _ => ?_) _ _ | refine calm_rangeForIn _ (fun _ _ => ?_) _ _ | split | (extract_lets; skip) | dsimp only)
theorem calm_eqGuard (op : BinOp) (t : TypeId) (x y : Operand) (a b : Value) : CalmT P (eqGuard op t x y a b) := by
  unfold eqGuard
  repeat' (first | exact calm_eqGuardIn _ _ _ _ | exact calm_unsupported _ | exact calm_pure _ | exact calm_program | refine Calm.bind ?_ (fun _ => ?_) | refine Calm.ite ?_ ?_ | split | (extract_lets; skip) | dsimp only)
theorem calm_unsafeAdd (ts : Array TypeId) (t : TypeId) (vs : Array Value) : CalmT P (Builtin.unsafeAdd_ ts t vs) := by
  unfold Builtin.unsafeAdd_
  obtain ⟨l⟩ := vs
  rcases l with _ | ⟨a, _ | ⟨b, _ | ⟨c, l⟩⟩⟩ <;> (try cases a) <;> repeat' (first | exact calm_viewAt _ | exact calm_asInt _ | exact calm_shape _ | exact calm_unsupported _ | exact calm_stuck _ | exact calm_pure _ | exact calm_program | refine Calm.bind ?_ (fun _ => ?_) | refine Calm.ite ?_ ?_ | split | (extract_lets; skip) | dsimp only)
theorem calm_movedNumber (t : TypeId) (x y : Value) : CalmT P (movedNumber t x y) := by
  unfold movedNumber
  repeat' (first | exact calm_unsafeAdd _ _ _ | exact calm_behindNumber _ | exact calm_asNumber _ _ | exact calm_underlying _ | exact calm_unsupported _ | exact calm_pure _ | refine Calm.bind ?_ (fun _ => ?_) | refine Calm.ite ?_ ?_ | split | (extract_lets; skip) | dsimp only)
theorem calm_movedPointer (t : TypeId) (x y : Value) : CalmT P (movedPointer t x y) := by
  unfold movedPointer
  repeat' (first | exact calm_unsafeAdd _ _ _ | exact calm_numberAt _ | exact calm_unsupported _ | refine Calm.bind ?_ (fun _ => ?_) | refine Calm.ite ?_ ?_ | split | (extract_lets; skip) | dsimp only)
theorem calm_floatToFloat (a : FloatKind) (b : Nat) (c : FloatKind) : CalmT P (Conv.floatToFloat a b c) := by
  unfold Conv.floatToFloat
  repeat' (first | exact calm_map _ (calm_choose _) | exact calm_choose _ | exact calm_pure _ | refine Calm.bind ?_ (fun _ => ?_) | refine Calm.ite ?_ ?_ | split | (extract_lets; skip) | dsimp only)
theorem calm_carith (op : BinOp) (k : FloatKind) (a b : Nat) : CalmT P (Op.Complex.arith op k a b) := by
  unfold Op.Complex.arith
  repeat' (first | exact calm_floatArith _ _ _ _ | exact calm_stuck _ | exact calm_pure _ | refine Calm.bind ?_ (fun _ => ?_) | refine Calm.ite ?_ ?_ | split | (extract_lets; skip) | dsimp only)
theorem calm_ccmp (op : BinOp) (k : FloatKind) (a b : Nat) : CalmT P (Op.Complex.cmp op k a b) := by
  unfold Op.Complex.cmp
  repeat' (first | exact calm_floatCmp _ _ _ _ | exact calm_asBool _ | refine Calm.bind ?_ (fun _ => ?_) | refine Calm.ite ?_ ?_ | split | (extract_lets; skip) | dsimp only)
theorem calm_cconv (s : FloatKind) (a : Nat) (d : FloatKind) : CalmT P (Op.Complex.conv s a d) := by
  unfold Op.Complex.conv
  repeat' (first | exact calm_floatToFloat _ _ _ | exact calm_stuck _ | exact calm_pure _ | refine Calm.bind ?_ (fun _ => ?_) | refine Calm.ite ?_ ?_ | split | (extract_lets; skip) | dsimp only)
theorem calm_cadd (a b : Nat) : CalmT P (Op.Complex.add a b) := by
  unfold Op.Complex.add
  repeat' (first | exact calm_carith _ _ _ _ | refine Calm.bind ?_ (fun _ => ?_) | refine Calm.ite ?_ ?_ | split | (extract_lets; skip) | dsimp only)
theorem calm_csub (a b : Nat) : CalmT P (Op.Complex.sub a b) := by
  unfold Op.Complex.sub
  repeat' (first | exact calm_carith _ _ _ _ | refine Calm.bind ?_ (fun _ => ?_) | refine Calm.ite ?_ ?_ | split | (extract_lets; skip) | dsimp only)
theorem calm_cmul (a b : Nat) : CalmT P (Op.Complex.mul a b) := by
  unfold Op.Complex.mul
  repeat' (first | exact calm_carith _ _ _ _ | refine Calm.bind ?_ (fun _ => ?_) | refine Calm.ite ?_ ?_ | split | (extract_lets; skip) | dsimp only)
theorem calm_cquo (a b : Nat) : CalmT P (Op.Complex.quo a b) := by
  unfold Op.Complex.quo
  repeat' (first | exact calm_carith _ _ _ _ | refine Calm.bind ?_ (fun _ => ?_) | refine Calm.ite ?_ ?_ | split | (extract_lets; skip) | dsimp only)
theorem calm_cproduct (a b c d : Nat) : CalmT P (Op.Complex.product a b c d) := by
  unfold Op.Complex.product
  repeat' (first | with_reducible exact calm_cmul _ _ | with_reducible exact calm_cadd _ _ | with_reducible exact calm_csub _ _ | with_reducible exact calm_pure _ | with_reducible refine Calm.bind ?_ (fun _ => ?_) | with_reducible refine Calm.ite ?_ ?_ | split | dsimp only)
theorem calm_ccorrected (e a b c d : Nat) : CalmT P (Op.Complex.corrected e a b c d) := by
  unfold Op.Complex.corrected
  repeat' (first | with_reducible exact calm_cmul _ _ | with_reducible exact calm_cadd _ _ | with_reducible exact calm_csub _ _ | with_reducible exact calm_pure _ | with_reducible refine Calm.bind ?_ (fun _ => ?_) | with_reducible refine Calm.ite ?_ ?_ | split | dsimp only)
theorem calm_cquotient (a b c d : Nat) : CalmT P (Op.Complex.quotient a b c d) := by
  unfold Op.Complex.quotient
  repeat' (first | with_reducible exact calm_ccorrected _ _ _ _ _ | with_reducible exact calm_cmul _ _ | with_reducible exact calm_cadd _ _ | with_reducible exact calm_csub _ _ | with_reducible exact calm_cquo _ _ | with_reducible exact calm_ccmp _ _ _ _ | with_reducible exact calm_pure _ | with_reducible refine Calm.bind ?_ (fun _ => ?_) | with_reducible refine Calm.ite ?_ ?_ | split | dsimp only)
theorem calm_complexOp (op : BinOp) (k : FloatKind) (a b c d : Nat) : CalmT P (Op.complexOp op k a b c d) := by
  unfold Op.complexOp
  repeat' (first | with_reducible exact calm_cproduct _ _ _ _ | with_reducible exact calm_cquotient _ _ _ _ | with_reducible exact calm_ccmp _ _ _ _ | with_reducible exact calm_carith _ _ _ _ | with_reducible exact calm_cconv _ _ _ | with_reducible exact calm_pure _ | with_reducible exact calm_stuck _ | with_reducible refine Calm.bind ?_ (fun _ => ?_) | with_reducible refine Calm.ite ?_ ?_ | split | dsimp only)
theorem calm_binOp (op : BinOp) (t : TypeId) (x y : Value) : CalmT P (binOp op t x y) := by
  unfold binOp
  repeat' (first | exact calm_complexOp _ _ _ _ _ _ | exact calm_movedPointer _ _ _ | exact calm_movedNumber _ _ _ | exact calm_shift _ _ _ _ _ | exact calm_intArith _ _ _ _ | exact calm_intDiv _ _ _ _ | exact calm_intBits _ _ _ _ | exact calm_intCmp _ _ _ | exact calm_floatArith _ _ _ _ | exact calm_floatCmp _ _ _ _ | exact calm_stringOp _ _ _ | exact calm_equal _ _ _ | exact calm_addrSub _ _ _ | exact calm_addrCmp _ _ _ | exact calm_addrMod _ _ _ | exact calm_behindNumber _ | exact calm_underlying _ | exact calm_stuck _ | exact calm_unsupported _ | exact calm_pure _ | refine Calm.bind ?_ (fun _ => ?_) | refine Calm.ite ?_ ?_ | split)
theorem calm_followBlind : ∀ (l : List FieldStep) (t : TypeId) (v : Option Value), CalmT P (followBlind l t v)
  | [], t, v => by
    unfold followBlind
    repeat' (first | exact calm_part _ _ _ | exact calm_underlying _ | exact calm_stuck _ | exact calm_pure _ | refine Calm.bind ?_ (fun _ => ?_) | refine Calm.ite ?_ ?_ | split | (extract_lets; skip) | dsimp only)
  | i :: l, t, v => by
    unfold followBlind
    repeat' (first | exact calm_followBlind l _ _ | exact calm_part _ _ _ | exact calm_underlying _ | exact calm_stuck _ | exact calm_pure _ | refine Calm.bind ?_ (fun _ => ?_) | refine Calm.ite ?_ ?_ | split | (extract_lets; skip) | dsimp only)
theorem calm_nilAhead : ∀ (n : Nat) (t : TypeId) (v : Value) (s : String), CalmT P (nilAhead n t v s)
  | 0, _, _, _ => by unfold nilAhead; exact calm_pure _
  | n + 1, t, v, s => by
    unfold nilAhead
    repeat' (first | exact calm_nilAhead n _ _ _ | exact calm_followBlind _ _ _ | exact calm_underlying _ | exact calm_typeInfo _ | exact calm_stuck _ | exact calm_pure _ | refine Calm.bind ?_ (fun _ => ?_) | refine Calm.ite ?_ ?_ | split | (extract_lets; skip) | dsimp only)
theorem calm_intToInt (k : IntKind) (n : Int) : CalmT P (Conv.intToInt k n) := by
  unfold Conv.intToInt
  repeat' (first | exact calm_pure _ | refine Calm.bind ?_ (fun _ => ?_) | refine Calm.ite ?_ ?_ | split | (extract_lets; skip) | dsimp only)
theorem calm_floatToInt (a : FloatKind) (b : Nat) (c : IntKind) : CalmT P (Conv.floatToInt a b c) := by
  unfold Conv.floatToInt
  repeat' (first | exact calm_map _ (calm_choose _) | exact calm_choose _ | exact calm_pure _ | refine Calm.bind ?_ (fun _ => ?_) | refine Calm.ite ?_ ?_ | split | (extract_lets; skip) | dsimp only)
end
end Go.Goes

-- Sim
/-
  Pieces of the machine that do the same in two programs with the same tables and in two worlds that are alike. (Made by mk3.py.)
-/
namespace Go.Goes
set_option linter.unusedVariables false

/-- The program with other functions. -/
abbrev tw (P : Program) (F' : Array Func) : Program := { toTables := P.toTables, funcs := F' }
/-- Nothing returns here. -/
inductive Dead {α : Type} : Sem α → Prop
  | load (m : Mode) (a : Addr) (k : Value → Sem α) (h : ∀ v, Dead (k v)) : Dead (.load m a k)
  | store (m : Mode) (a : Addr) (v : Value) (k : Sem α) (h : Dead k) : Dead (.store m a v k)
  | new (o : Obj) (k : Nat → Sem α) (h : ∀ r, Dead (k r)) : Dead (.new o k)
  | shape (r : Nat) (k : Option (TypeId × Nat) → Sem α) (h : ∀ s, Dead (k s)) : Dead (.shape r k)
  | freeze (a : Addr) (n : Nat) (k : Sem α) (h : Dead k) : Dead (.freeze a n k)
  | frozen (a : Addr) (k : Bool → Sem α) (h : ∀ b, Dead (k b)) : Dead (.frozen a k)
  | getObj (r : Nat) (k : Obj → Sem α) (h : ∀ o, Dead (k o)) : Dead (.getObj r k)
  | setObj (r : Nat) (o : Obj) (k : Sem α) (h : Dead k) : Dead (.setObj r o k)
  | choose (q : Question) (k : Nat → Sem α) (h : ∀ n, Dead (k n)) : Dead (.choose q k)
  | sys (c : Sys) (k : SysRet → Sem α) (h : ∀ n, Dead (k n)) : Dead (.sys c k)
  | program (k : Program → Sem α) (h : ∀ p, Dead (k p)) : Dead (.program k)
  | mark (m : Mark) (k : Sem α) (h : Dead k) : Dead (.mark m k)
  | halt (h : Halt) : Dead (.halt h)
theorem Dead.bind {α β : Type} (m : Sem α) {f : α → Sem β} (hf : ∀ a, Dead (f a)) : Dead (m.bind f) := by
  induction m with
  | pure a => exact hf a
  | load m a k ih => exact .load m a _ ih
  | store m a v k ih => exact .store m a v _ ih
  | new o k ih => exact .new o _ ih
  | shape r k ih => exact .shape r _ ih
  | freeze a n k ih => exact .freeze a n _ ih
  | frozen a k ih => exact .frozen a _ ih
  | getObj r k ih => exact .getObj r _ ih
  | setObj r o k ih => exact .setObj r o _ ih
  | choose q k ih => exact .choose q _ ih
  | sys c k ih => exact .sys c _ ih
  | program k ih => exact .program _ ih
  | mark m k ih => exact .mark m _ ih
  | halt h => exact .halt h

inductive SimT (P : Program) (F' : Array Func) (fz : Bool) {α : Type} (Q : α → Prop) : Sem α → Prop
  | pure (a : α) (h : Q a) : SimT P F' fz Q (.pure a)
  | load (m : Mode) (a : Addr) (k : Value → Sem α) (h : ∀ v, SimT P F' fz Q (k v)) : SimT P F' fz Q (.load m a k)
  | store (m : Mode) (a : Addr) (v : Value) (k : Sem α) (h : SimT P F' fz Q k) : SimT P F' fz Q (.store m a v k)
  | new (o : Obj) (k : Nat → Sem α) (h : ∀ r, SimT P F' fz Q (k r)) : SimT P F' fz Q (.new o k)
  | shape (r : Nat) (k : Option (TypeId × Nat) → Sem α) (h : ∀ s, SimT P F' fz Q (k s)) : SimT P F' fz Q (.shape r k)
  | freeze (a : Addr) (n : Nat) (k : Sem α) (hf : fz = true) (h : SimT P F' fz Q k) : SimT P F' fz Q (.freeze a n k)
  | frozen (a : Addr) (k : Bool → Sem α) (hf : fz = true) (h : ∀ b, SimT P F' fz Q (k b)) : SimT P F' fz Q (.frozen a k)
  | getObj (r : Nat) (k : Obj → Sem α) (hc : ∀ tm cl s r cl' s' r', k (.chan 0 #[] cl s r tm) = k (.chan 0 #[] cl' s' r' tm)) (h : ∀ o, SimT P F' fz Q (k o)) : SimT P F' fz Q (.getObj r k)
  | setObj (r : Nat) (o : Obj) (k : Sem α) (hf : fz = true) (hv : ∀ a t, o ≠ .view a t) (h : SimT P F' fz Q k) : SimT P F' fz Q (.setObj r o k)
  | choose (q : Question) (k : Nat → Sem α) (h : ∀ n, SimT P F' fz Q (k n)) : SimT P F' fz Q (.choose q k)
  | program (k : Program → Sem α) (hk : k (tw P F') = k P) (h : SimT P F' fz Q (k P)) : SimT P F' fz Q (.program k)
  | mark (m : Mark) (k : Sem α) (hm : (m ≠ .disable ∧ m ≠ .enable) ∧ ∀ a, m ≠ .write a) (h : SimT P F' fz Q k) : SimT P F' fz Q (.mark m k)
  | halt (h : Halt) (hh : plainHalt h) : SimT P F' fz Q (.halt h)
  /-- Nothing returns: it is calm, and that is all that is wanted. -/
  | dead (s : Sem α) (hd : Dead s) (hc : ∀ P, Calm P Q s) : SimT P F' fz Q s

theorem calm_dead {P : Program} {α β : Type} {Q : α → Prop} {R : β → Prop} {s : Sem α} {f : α → Sem β} (hd : Dead s) (hc : Calm P Q s) : Calm P R (s.bind f) := by
  induction hc with
  | pure a h => cases hd
  | load m a k _ ih => cases hd with | load _ _ _ h => exact .load m a _ (fun v => ih v (h v))
  | store m a v k _ ih => cases hd with | store _ _ _ _ h => exact .store m a v _ (ih h)
  | new o k _ ih => cases hd with | new _ _ h => exact .new o _ (fun r => ih r (h r))
  | shape r k _ ih => cases hd with | shape _ _ h => exact .shape r _ (fun s => ih s (h s))
  | freeze a n k _ ih => cases hd with | freeze _ _ _ h => exact .freeze a n _ (ih h)
  | frozen a k _ ih => cases hd with | frozen _ _ h => exact .frozen a _ (fun b => ih b (h b))
  | getObj r k _ ih => cases hd with | getObj _ _ h => exact .getObj r _ (fun o => ih o (h o))
  | setObj r o k _ ih => cases hd with | setObj _ _ _ h => exact .setObj r o _ (ih h)
  | choose q k _ ih => cases hd with | choose _ _ h => exact .choose q _ (fun n => ih n (h n))
  | program k _ ih => cases hd with | program _ h => exact .program _ (ih (h _))
  | mark m k hm _ ih => cases hd with | mark _ _ h => exact .mark m _ hm (ih h)
  | halt h hh => exact .halt h hh
section
variable {P : Program} {F' : Array Func} {fz : Bool}
theorem SimT.bindQ {α β : Type} {Q : β → Prop} {R : α → Prop} {m : Sem α} {f : α → Sem β} (hm : SimT P F' fz R m) (hf : ∀ a, R a → SimT P F' fz Q (f a)) : SimT P F' fz Q (m.bind f) := by
  induction hm with
  | pure a h => exact hf a h
  | load m a k _ ih => exact .load m a _ ih
  | store m a v k _ ih => exact .store m a v _ ih
  | new o k _ ih => exact .new o _ ih
  | shape r k _ ih => exact .shape r _ ih
  | freeze a n k h0 _ ih => exact .freeze a n _ h0 ih
  | frozen a k h0 _ ih => exact .frozen a _ h0 ih
  | getObj r k hc _ ih => exact .getObj r _ (fun tm cl s r cl' s' r' => by rw [hc tm cl s r cl' s' r']) ih
  | setObj r o k h0 h1 _ ih => exact .setObj r o _ h0 h1 ih
  | choose q k _ ih => exact .choose q _ ih
  | program k hk _ ih => exact .program _ (by rw [hk]) ih
  | mark m k hm _ ih => exact .mark m _ hm ih
  | halt h hh => exact .halt h hh
  | dead s hd hc =>
    refine .dead _ ?_ ?_
    · clear hc
      induction hd with
      | load m a k _ ih => exact .load m a _ ih
      | store m a v k _ ih => exact .store m a v _ ih
      | new o k _ ih => exact .new o _ ih
      | shape r k _ ih => exact .shape r _ ih
      | freeze a n k _ ih => exact .freeze a n _ ih
      | frozen a k _ ih => exact .frozen a _ ih
      | getObj r k _ ih => exact .getObj r _ ih
      | setObj r o k _ ih => exact .setObj r o _ ih
      | choose q k _ ih => exact .choose q _ ih
      | sys c k _ ih => exact .sys c _ ih
      | program k _ ih => exact .program _ ih
      | mark m k _ ih => exact .mark m _ ih
      | halt h => exact .halt h
    · intro P'
      exact (calm_dead hd (hc P'))
variable (P F' fz) in
abbrev SimU {α : Type} (m : Sem α) : Prop := SimT P F' fz (fun _ => True) m
theorem SimT.bind {α β : Type} {Q : β → Prop} {m : Sem α} {f : α → Sem β} (hm : SimU P F' fz m) (hf : ∀ a, SimT P F' fz Q (f a)) : SimT P F' fz Q (m >>= f) := hm.bindQ (fun a _ => hf a)
theorem SimT.ite {α : Type} {Q : α → Prop} {c : Prop} [Decidable c] {a b : Sem α} (ha : SimT P F' fz Q a) (hb : SimT P F' fz Q b) : SimT P F' fz Q (if c then a else b) := by split <;> assumption
/-- The program is asked for. -/
theorem sim_prog {β : Type} {Q : β → Prop} {f : Program → Sem β} (hk : f (tw P F') = f P) (h : SimT P F' fz Q (f P)) : SimT P F' fz Q (Go.program >>= f) := .program _ hk h
theorem sim_getO {β : Type} {Q : β → Prop} {r : Nat} {f : Obj → Sem β} (hc : ∀ tm cl s r cl' s' r', f (.chan 0 #[] cl s r tm) = f (.chan 0 #[] cl' s' r' tm)) (h : ∀ o, SimT P F' fz Q (f o)) : SimT P F' fz Q (getObj r >>= f) := .getObj _ _ hc h

theorem sim_pure {α : Type} (a : α) : SimU P F' fz (Pure.pure a : Sem α) := .pure a trivial
theorem sim_stuck {α : Type} {Q : α → Prop} (s : String) : SimT P F' fz Q (stuck s : Sem α) := .halt _ trivial
theorem sim_unsupported {α : Type} {Q : α → Prop} (s : Unsupported) : SimT P F' fz Q (unsupported s : Sem α) := .halt _ trivial
theorem sim_goPanic {α : Type} {Q : α → Prop} (v : Value) : SimT P F' fz Q (goPanic v : Sem α) := .halt _ trivial
theorem sim_load (a : Addr) (m : Mode) : SimU P F' fz (Go.load a m) := .load _ _ _ (fun _ => .pure _ trivial)
theorem sim_store (a : Addr) (v : Value) (m : Mode) : SimU P F' fz (Go.store a v m) := .store _ _ _ _ (.pure _ trivial)
theorem sim_newObj (o : Obj) : SimU P F' fz (newObj o) := .new _ _ (fun _ => .pure _ trivial)
theorem sim_shape (r : Nat) : SimU P F' fz (shape r) := .shape _ _ (fun _ => .pure _ trivial)
theorem sim_choose (q : Question) : SimU P F' fz (choose q) := .choose _ _ (fun _ => .pure _ trivial)
theorem sim_noRoom : SimU P F' fz (mark .noRoom) := .mark _ _ ⟨⟨by simp, by simp⟩, by simp⟩ (.pure _ trivial)
theorem sim_map {α β : Type} (f : α → β) {m : Sem α} (h : SimU P F' fz m) : SimU P F' fz (f <$> m) := h.bindQ (fun _ _ => .pure _ trivial)
theorem sim_listForIn {α β : Type} (f : α → β → Sem (ForInStep β)) (hf : ∀ a b, SimU P F' fz (f a b)) : ∀ (l : List α) (b : β), SimU P F' fz (forIn l b f)
  | [], b => by rw [List.forIn_nil]; exact sim_pure _
  | a :: l, b => by
    rw [List.forIn_cons]
    refine SimT.bind (hf a b) (fun s => ?_)
    cases s with
    | done b => exact sim_pure _
    | yield b => exact sim_listForIn f hf l b
theorem sim_arrayForIn {α β : Type} (f : α → β → Sem (ForInStep β)) (hf : ∀ a b, SimU P F' fz (f a b)) (l : Array α) (b : β) : SimU P F' fz (forIn l b f) := by
  rw [← Array.forIn_toList]; exact sim_listForIn f hf _ _
theorem sim_rangeForIn {β : Type} (f : Nat → β → Sem (ForInStep β)) (hf : ∀ a b, SimU P F' fz (f a b)) (r : Std.Legacy.Range) (b : β) : SimU P F' fz (forIn r b f) := by
  rw [Std.Legacy.Range.forIn_eq_forIn_range']; exact sim_listForIn f hf _ _
theorem sim_arrayMapM {α β : Type} (f : α → Sem β) (hf : ∀ a, SimU P F' fz (f a)) (l : Array α) : SimU P F' fz (l.mapM f) := by
  haveI := lawfulSem
  rw [Array.mapM_eq_foldlM, ← Array.foldlM_toList]
  generalize (#[] : Array β) = b
  induction l.toList generalizing b with
  | nil => exact sim_pure _
  | cons a l ih => rw [List.foldlM_cons]; exact SimT.bind (SimT.bind (hf a) (fun _ => sim_pure _)) (fun _ => ih _)
theorem tw_underlying (t : TypeId) : (tw P F').underlying t = P.underlying t := rfl
theorem tw_byteOfCell : ∀ (d : Nat) (t : TypeId) (o : Nat), byteOfCell (tw P F') d t o = byteOfCell P d t o
  | 0, _, _ => rfl
  | d + 1, t, o => by
    unfold byteOfCell
    rw [tw_underlying]
    cases P.underlying t with
    | none => rfl
    | some x => cases x <;> simp only [tw_byteOfCell d] <;> rfl

theorem sim_typeInfo (t : TypeId) : SimU P F' fz (typeInfo t) := by
  unfold typeInfo
  repeat' (first | with_reducible exact sim_stuck _ | with_reducible exact sim_pure _ | with_reducible refine sim_prog rfl ?_ | with_reducible refine SimT.bind ?_ (fun _ => ?_) | with_reducible refine SimT.ite ?_ ?_ | split | (extract_lets; skip) | dsimp only)
theorem sim_underlying (t : TypeId) : SimU P F' fz (underlying t) := by
  unfold underlying
  repeat' (first | with_reducible exact sim_stuck _ | with_reducible exact sim_pure _ | with_reducible refine sim_prog rfl ?_ | with_reducible refine SimT.bind ?_ (fun _ => ?_) | with_reducible refine SimT.ite ?_ ?_ | split | (extract_lets; skip) | dsimp only)
theorem sim_zeroValue (t : TypeId) : SimU P F' fz (zeroValue t) := by
  unfold zeroValue
  repeat' (first | with_reducible exact sim_typeInfo _ | with_reducible exact sim_unsupported _ | with_reducible exact sim_pure _ | with_reducible refine SimT.bind ?_ (fun _ => ?_) | with_reducible refine SimT.ite ?_ ?_ | split | (extract_lets; skip) | dsimp only)
theorem sim_sizeOf (t : TypeId) : SimU P F' fz (sizeOf t) := by
  unfold sizeOf
  repeat' (first | with_reducible exact sim_typeInfo _ | with_reducible exact sim_pure _ | with_reducible refine SimT.bind ?_ (fun _ => ?_) | with_reducible refine SimT.ite ?_ ?_ | split | (extract_lets; skip) | dsimp only)
theorem sim_isAgg (t : TypeId) : SimU P F' fz (isAgg t) := by
  unfold isAgg
  repeat' (first | with_reducible exact sim_underlying _ | with_reducible exact sim_pure _ | with_reducible refine SimT.bind ?_ (fun _ => ?_) | with_reducible refine SimT.ite ?_ ?_ | split | (extract_lets; skip) | dsimp only)
theorem sim_loadCellsFrom (a : Addr) : ∀ (n i : Nat) (acc : Array Value), SimU P F' fz (loadCellsFrom a i n acc)
  | 0, _, _ => sim_pure _
  | n + 1, _, _ => SimT.bind (sim_load _ _) (fun _ => sim_loadCellsFrom a n _ _)
theorem sim_loadCells (a : Addr) (n : Nat) : SimU P F' fz (loadCells a n) := sim_loadCellsFrom a n 0 _
theorem sim_storeCells (a : Addr) : ∀ (vs : List Value) (i : Nat), SimU P F' fz (storeCells a vs i)
  | [], _ => sim_pure _
  | v :: rest, i => by unfold storeCells; exact SimT.bind (sim_store _ _ _) (fun _ => sim_storeCells a rest _)
theorem sim_loadVar (t : TypeId) (a : Addr) : SimU P F' fz (loadVar t a) := by
  unfold loadVar
  repeat' (first | with_reducible exact sim_loadCells _ _ | with_reducible exact sim_isAgg _ | with_reducible exact sim_sizeOf _ | with_reducible exact sim_load _ _ | with_reducible exact sim_pure _ | with_reducible refine SimT.bind ?_ (fun _ => ?_) | with_reducible refine SimT.ite ?_ ?_ | split | (extract_lets; skip) | dsimp only)
theorem sim_storeVar (t : TypeId) (a : Addr) (v : Value) : SimU P F' fz (storeVar t a v) := by
  unfold storeVar
  repeat' (first | with_reducible exact sim_storeCells _ _ _ | with_reducible exact sim_sizeOf _ | with_reducible exact sim_stuck _ | with_reducible refine SimT.bind ?_ (fun _ => ?_) | with_reducible refine SimT.ite ?_ ?_ | split | (extract_lets; skip) | dsimp only)
theorem sim_newRow (t : TypeId) (c : Array Value) : SimU P F' fz (newRow t c) := by
  unfold newRow
  repeat' (first | with_reducible exact sim_newObj _ | with_reducible exact sim_pure _ | with_reducible refine SimT.bind ?_ (fun _ => ?_) | with_reducible refine SimT.ite ?_ ?_ | split | (extract_lets; skip) | dsimp only)
theorem sim_newVar (t : TypeId) (v : Value) : SimU P F' fz (newVar t v) := by
  unfold newVar
  repeat' (first | with_reducible exact sim_newRow _ _ | with_reducible refine SimT.bind ?_ (fun _ => ?_) | with_reducible refine SimT.ite ?_ ?_ | split | (extract_lets; skip) | dsimp only)
theorem sim_elemOf (t : TypeId) : SimU P F' fz (elemOf t) := by
  unfold elemOf
  repeat' (first | with_reducible exact sim_underlying _ | with_reducible exact sim_stuck _ | with_reducible exact sim_pure _ | with_reducible refine SimT.bind ?_ (fun _ => ?_) | with_reducible refine SimT.ite ?_ ?_ | split | (extract_lets; skip) | dsimp only)
theorem sim_part (t : TypeId) (cs : Array Value) (off : Nat) : SimU P F' fz (part t cs off) := by
  unfold part
  repeat' (first | with_reducible exact sim_isAgg _ | with_reducible exact sim_sizeOf _ | with_reducible exact sim_stuck _ | with_reducible exact sim_pure _ | with_reducible refine SimT.bind ?_ (fun _ => ?_) | with_reducible refine SimT.ite ?_ ?_ | split | (extract_lets; skip) | dsimp only)
theorem sim_runtimePanic {α : Type} {Q : α → Prop} (e : RuntimeError) : SimT P F' fz Q (runtimePanic e : Sem α) := by
  unfold runtimePanic
  repeat' (first | with_reducible exact sim_elemOf _ | with_reducible exact sim_newVar _ _ | with_reducible exact sim_goPanic _ | with_reducible refine sim_prog rfl ?_ | with_reducible refine SimT.bind ?_ (fun _ => ?_) | with_reducible refine SimT.ite ?_ ?_ | split | (extract_lets; skip) | dsimp only)
theorem sim_boundsPanic {α : Type} {Q : α → Prop} (k : IntKind) (x y : Int) (c : BoundsCode) : SimT P F' fz Q (boundsPanic k x y c : Sem α) := by
  unfold boundsPanic
  repeat' (first | with_reducible exact sim_runtimePanic _ | with_reducible exact sim_map _ (sim_choose _) | with_reducible exact sim_choose _ | with_reducible exact sim_pure _ | with_reducible refine SimT.bind ?_ (fun _ => ?_) | with_reducible refine SimT.ite ?_ ?_ | split | (extract_lets; skip) | dsimp only)
theorem sim_asIntOf (v : Value) : SimU P F' fz (asIntOf v) := by
  unfold asIntOf
  repeat' (first | with_reducible exact sim_unsupported _ | with_reducible exact sim_stuck _ | with_reducible exact sim_pure _ | with_reducible refine SimT.bind ?_ (fun _ => ?_) | with_reducible refine SimT.ite ?_ ?_ | split | (extract_lets; skip) | dsimp only)
theorem sim_asInt (v : Value) : SimU P F' fz (asInt v) := by
  unfold asInt
  repeat' (first | with_reducible exact sim_asIntOf _ | with_reducible exact sim_pure _ | with_reducible refine SimT.bind ?_ (fun _ => ?_) | with_reducible refine SimT.ite ?_ ?_ | split | (extract_lets; skip) | dsimp only)
theorem sim_asBool (v : Value) : SimU P F' fz (asBool v) := by
  unfold asBool
  repeat' (first | with_reducible exact sim_stuck _ | with_reducible exact sim_pure _ | with_reducible refine SimT.bind ?_ (fun _ => ?_) | with_reducible refine SimT.ite ?_ ?_ | split | (extract_lets; skip) | dsimp only)
theorem sim_asAgg (v : Value) : SimU P F' fz (asAgg v) := by
  unfold asAgg
  repeat' (first | with_reducible exact sim_stuck _ | with_reducible exact sim_pure _ | with_reducible refine SimT.bind ?_ (fun _ => ?_) | with_reducible refine SimT.ite ?_ ?_ | split | (extract_lets; skip) | dsimp only)
theorem sim_asAddr (v : Value) : SimU P F' fz (asAddr v) := by
  unfold asAddr
  repeat' (first | with_reducible exact sim_runtimePanic _ | with_reducible exact sim_stuck _ | with_reducible exact sim_pure _ | with_reducible refine SimT.bind ?_ (fun _ => ?_) | with_reducible refine SimT.ite ?_ ?_ | split | (extract_lets; skip) | dsimp only)
theorem sim_askRoom (n : Nat) : SimU P F' fz (askRoom n) := by
  unfold askRoom
  repeat' (first | with_reducible exact sim_noRoom | with_reducible exact sim_pure _ | with_reducible refine SimT.bind ?_ (fun _ => ?_) | with_reducible refine SimT.ite ?_ ?_ | split | (extract_lets; skip) | dsimp only)
theorem sim_viewAt (r : Nat) : SimU P F' fz (viewAt r) := by
  unfold viewAt
  repeat' (first | with_reducible exact sim_shape _ | with_reducible exact sim_pure _ | with_reducible refine sim_getO (fun _ _ _ _ _ _ _ => rfl) (fun _ => ?_) | with_reducible refine SimT.bind ?_ (fun _ => ?_) | with_reducible refine SimT.ite ?_ ?_ | split | (extract_lets; skip) | dsimp only)
theorem sim_numberAt (r : Nat) : SimU P F' fz (numberAt r) := by
  unfold numberAt
  repeat' (first | with_reducible exact sim_shape _ | with_reducible exact sim_pure _ | with_reducible refine sim_getO (fun _ _ _ _ _ _ _ => rfl) (fun _ => ?_) | with_reducible refine SimT.bind ?_ (fun _ => ?_) | with_reducible refine SimT.ite ?_ ?_ | split | (extract_lets; skip) | dsimp only)
theorem sim_asNumber (a : Addr) (b : Bool) : SimU P F' fz (asNumber a b) := by
  unfold asNumber
  repeat' (first | with_reducible exact sim_newObj _ | with_reducible exact sim_pure _ | with_reducible refine SimT.bind ?_ (fun _ => ?_) | with_reducible refine SimT.ite ?_ ?_ | split | (extract_lets; skip) | dsimp only)
theorem sim_behindNumber (a : Addr) : SimU P F' fz (behindNumber a) := by
  unfold behindNumber
  repeat' (first | with_reducible exact sim_numberAt _ | with_reducible exact sim_pure _ | with_reducible refine SimT.bind ?_ (fun _ => ?_) | with_reducible refine SimT.ite ?_ ?_ | split | (extract_lets; skip) | dsimp only)
theorem sim_noView (a : Addr) : SimU P F' fz (noView a) := by
  unfold noView
  repeat' (first | with_reducible exact sim_viewAt _ | with_reducible exact sim_unsupported _ | with_reducible exact sim_pure _ | with_reducible refine SimT.bind ?_ (fun _ => ?_) | with_reducible refine SimT.ite ?_ ?_ | split | (extract_lets; skip) | dsimp only)
theorem sim_byteOf (a : Addr) : SimU P F' fz (byteOf a) := by
  unfold byteOf
  split
  · exact sim_pure _
  · refine sim_prog ?_ ?_
    · simp only [tw_byteOfCell]; rfl
    · repeat' (first | with_reducible exact sim_noView _ | with_reducible exact sim_shape _ | with_reducible exact sim_stuck _ | with_reducible exact sim_pure _ | with_reducible refine sim_prog rfl ?_ | with_reducible refine SimT.bind ?_ (fun _ => ?_) | with_reducible refine SimT.ite ?_ ?_ | split | (extract_lets; skip) | dsimp only)
theorem sim_partAt (a : Addr) (b c : Nat) : SimU P F' fz (partAt a b c) := by
  unfold partAt
  repeat' (first | with_reducible exact sim_byteOf _ | with_reducible exact sim_pure _ | with_reducible refine SimT.bind ?_ (fun _ => ?_) | with_reducible refine SimT.ite ?_ ?_ | split | (extract_lets; skip) | dsimp only)
theorem sim_fieldPlace (a : Addr) (f : Field) : SimU P F' fz (fieldPlace a f) := by
  unfold fieldPlace
  repeat' (first | with_reducible exact sim_partAt _ _ _ | with_reducible exact sim_sizeOf _ | with_reducible exact sim_pure _ | with_reducible refine SimT.bind ?_ (fun _ => ?_) | with_reducible refine SimT.ite ?_ ?_ | split | (extract_lets; skip) | dsimp only)
theorem sim_alloc (t : TypeId) (h : Bool) (v : Value) : SimU P F' fz (Instr.alloc t h v) := by
  unfold Instr.alloc
  repeat' (first | with_reducible exact sim_newVar _ _ | with_reducible exact sim_storeVar _ _ _ | with_reducible exact sim_zeroValue _ | with_reducible exact sim_pure _ | with_reducible refine SimT.bind ?_ (fun _ => ?_) | with_reducible refine SimT.ite ?_ ?_ | split | (extract_lets; skip) | dsimp only)
theorem sim_box (t : TypeId) (v : Value) : SimU P F' fz (Instr.box t v) := by
  unfold Instr.box
  repeat' (first | with_reducible exact sim_newVar _ _ | with_reducible exact sim_pure _ | with_reducible refine SimT.bind ?_ (fun _ => ?_) | with_reducible refine SimT.ite ?_ ?_ | split | (extract_lets; skip) | dsimp only)
theorem sim_build (t : TypeId) (ps : Array (Nat × Value)) : SimU P F' fz (Instr.build t ps) := by
  unfold Instr.build
  repeat' (first | with_reducible exact sim_sizeOf _ | with_reducible exact sim_zeroValue _ | with_reducible exact sim_underlying _ | with_reducible exact sim_stuck _ | with_reducible exact sim_pure _ | with_reducible refine SimT.bind ?_ (fun _ => ?_) | with_reducible refine SimT.ite ?_ ?_ | with_reducible refine sim_arrayMapM _ (fun _ => ?_) _ | split | (extract_lets; skip) | dsimp only)
theorem sim_buildSlice (t : TypeId) (n : Nat) (ps : Array (Nat × Value)) : SimU P F' fz (Instr.buildSlice t n ps) := by
  unfold Instr.buildSlice
  repeat' (first | with_reducible exact sim_newRow _ _ | with_reducible exact sim_sizeOf _ | with_reducible exact sim_zeroValue _ | with_reducible exact sim_underlying _ | with_reducible exact sim_unsupported _ | with_reducible exact sim_stuck _ | with_reducible exact sim_pure _ | with_reducible refine SimT.bind ?_ (fun _ => ?_) | with_reducible refine SimT.ite ?_ ?_ | split | (extract_lets; skip) | dsimp only)
theorem sim_sureAddr (v : Value) : SimU P F' fz (Instr.sureAddr v) := by
  unfold Instr.sureAddr
  repeat' (first | with_reducible exact sim_stuck _ | with_reducible exact sim_pure _ | with_reducible refine SimT.bind ?_ (fun _ => ?_) | with_reducible refine SimT.ite ?_ ?_ | split | (extract_lets; skip) | dsimp only)
theorem sim_loadAt (t : TypeId) (v : Value) : SimU P F' fz (Instr.loadAt t v) := by
  unfold Instr.loadAt
  repeat' (first | with_reducible exact sim_sureAddr _ | with_reducible exact sim_loadVar _ _ | with_reducible refine SimT.bind ?_ (fun _ => ?_) | with_reducible refine SimT.ite ?_ ?_ | split | (extract_lets; skip) | dsimp only)
theorem sim_storeAt (t : TypeId) (v x : Value) : SimU P F' fz (Instr.storeAt t v x) := by
  unfold Instr.storeAt
  repeat' (first | with_reducible exact sim_sureAddr _ | with_reducible exact sim_storeVar _ _ _ | with_reducible refine SimT.bind ?_ (fun _ => ?_) | with_reducible refine SimT.ite ?_ ?_ | split | (extract_lets; skip) | dsimp only)
theorem sim_fieldAt (t : TypeId) (v : Value) (n : Nat) : SimU P F' fz (Instr.fieldAt t v n) := by
  unfold Instr.fieldAt
  repeat' (first | with_reducible exact sim_sureAddr _ | with_reducible exact sim_fieldPlace _ _ | with_reducible exact sim_underlying _ | with_reducible exact sim_stuck _ | with_reducible exact sim_pure _ | with_reducible refine SimT.bind ?_ (fun _ => ?_) | with_reducible refine SimT.ite ?_ ?_ | split | (extract_lets; skip) | dsimp only)
theorem sim_indexAt (t : TypeId) (v x : Value) : SimU P F' fz (Instr.indexAt t v x) := by
  unfold Instr.indexAt
  repeat' (first | with_reducible exact sim_sureAddr _ | with_reducible exact sim_asIntOf _ | with_reducible exact sim_boundsPanic _ _ _ _ | with_reducible exact sim_sizeOf _ | with_reducible exact sim_underlying _ | with_reducible exact sim_unsupported _ | with_reducible exact sim_stuck _ | with_reducible exact sim_pure _ | with_reducible refine SimT.bind ?_ (fun _ => ?_) | with_reducible refine SimT.ite ?_ ?_ | split | (extract_lets; skip) | dsimp only)
theorem sim_field (t : TypeId) (v : Value) (n : Nat) : SimU P F' fz (Instr.field t v n) := by
  unfold Instr.field
  repeat' (first | with_reducible exact sim_asAgg _ | with_reducible exact sim_part _ _ _ | with_reducible exact sim_underlying _ | with_reducible exact sim_stuck _ | with_reducible refine SimT.bind ?_ (fun _ => ?_) | with_reducible refine SimT.ite ?_ ?_ | split | (extract_lets; skip) | dsimp only)
theorem sim_index (t : TypeId) (v x : Value) : SimU P F' fz (Instr.index t v x) := by
  unfold Instr.index
  repeat' (first | with_reducible exact sim_asIntOf _ | with_reducible exact sim_boundsPanic _ _ _ _ | with_reducible exact sim_part _ _ _ | with_reducible exact sim_sizeOf _ | with_reducible exact sim_underlying _ | with_reducible exact sim_stuck _ | with_reducible exact sim_pure _ | with_reducible refine SimT.bind ?_ (fun _ => ?_) | with_reducible refine SimT.ite ?_ ?_ | split | (extract_lets; skip) | dsimp only)
theorem sim_makeSlice (t : TypeId) (l c : Value) : SimU P F' fz (Instr.makeSlice t l c) := by
  unfold Instr.makeSlice
  repeat' (first | with_reducible exact sim_askRoom _ | with_reducible exact sim_asInt _ | with_reducible exact sim_runtimePanic _ | with_reducible exact sim_newRow _ _ | with_reducible exact sim_sizeOf _ | with_reducible exact sim_zeroValue _ | with_reducible exact sim_underlying _ | with_reducible exact sim_typeInfo _ | with_reducible exact sim_choose _ | with_reducible exact sim_stuck _ | with_reducible exact sim_pure _ | with_reducible refine SimT.bind ?_ (fun _ => ?_) | with_reducible refine SimT.ite ?_ ?_ | split | (extract_lets; skip) | dsimp only)
theorem sim_makeChan (t : TypeId) (l : Value) : SimU P F' fz (Instr.makeChan t l) := by
  unfold Instr.makeChan
  repeat' (first | with_reducible exact sim_asInt _ | with_reducible exact sim_runtimePanic _ | with_reducible exact sim_underlying _ | with_reducible exact sim_typeInfo _ | with_reducible exact sim_newObj _ | with_reducible exact sim_stuck _ | with_reducible exact sim_pure _ | with_reducible refine SimT.bind ?_ (fun _ => ?_) | with_reducible refine SimT.ite ?_ ?_ | split | (extract_lets; skip) | dsimp only)
theorem sim_makeFunc (fn : Fn) (l c : Array Value) : SimU P F' fz (Instr.makeFunc fn l c) := by
  unfold Instr.makeFunc
  repeat' (first | with_reducible exact sim_pure _ | with_reducible refine SimT.bind ?_ (fun _ => ?_) | with_reducible refine SimT.ite ?_ ?_ | split | (extract_lets; skip) | dsimp only)
theorem sim_extract (v : Value) (n : Nat) : SimU P F' fz (Instr.extract v n) := by
  unfold Instr.extract
  repeat' (first | with_reducible exact sim_stuck _ | with_reducible exact sim_pure _ | with_reducible refine SimT.bind ?_ (fun _ => ?_) | with_reducible refine SimT.ite ?_ ?_ | split | (extract_lets; skip) | dsimp only)
theorem sim_len (ts : Array TypeId) (t : TypeId) (vs : Array Value) : SimU P F' fz (Builtin.len_ ts t vs) := by
  unfold Builtin.len_
  repeat' (first | with_reducible exact sim_underlying _ | with_reducible exact sim_stuck _ | with_reducible exact sim_pure _ | with_reducible refine sim_getO (fun _ _ _ _ _ _ _ => rfl) (fun _ => ?_) | with_reducible refine SimT.bind ?_ (fun _ => ?_) | with_reducible refine SimT.ite ?_ ?_ | split | (extract_lets; skip) | dsimp only)
theorem sim_lenOf (v : Value) : SimU P F' fz (Builtin.lenOf v) := by
  unfold Builtin.lenOf
  repeat' (first | with_reducible exact sim_stuck _ | with_reducible exact sim_pure _ | with_reducible refine SimT.bind ?_ (fun _ => ?_) | with_reducible refine SimT.ite ?_ ?_ | split | (extract_lets; skip) | dsimp only)
theorem sim_firstCells (a b : Nat) (v : Value) : SimU P F' fz (Builtin.firstCells a b v) := by
  unfold Builtin.firstCells
  repeat' (first | with_reducible exact sim_loadCells _ _ | with_reducible exact sim_stuck _ | with_reducible exact sim_pure _ | with_reducible refine SimT.bind ?_ (fun _ => ?_) | with_reducible refine SimT.ite ?_ ?_ | split | (extract_lets; skip) | dsimp only)
theorem sim_intArith (op : BinOp) (k : IntKind) (a b : Int) : SimU P F' fz (Op.intArith op k a b) := by
  unfold Op.intArith
  repeat' (first | with_reducible exact sim_stuck _ | with_reducible exact sim_pure _ | with_reducible refine SimT.bind ?_ (fun _ => ?_) | with_reducible refine SimT.ite ?_ ?_ | split | (extract_lets; skip) | dsimp only)
theorem sim_intDiv (op : BinOp) (k : IntKind) (a b : Int) : SimU P F' fz (Op.intDiv op k a b) := by
  unfold Op.intDiv
  repeat' (first | with_reducible exact sim_runtimePanic _ | with_reducible exact sim_stuck _ | with_reducible exact sim_pure _ | with_reducible refine SimT.bind ?_ (fun _ => ?_) | with_reducible refine SimT.ite ?_ ?_ | split | (extract_lets; skip) | dsimp only)
theorem sim_intBits (op : BinOp) (k : IntKind) (a b : Int) : SimU P F' fz (Op.intBits op k a b) := by
  unfold Op.intBits
  repeat' (first | with_reducible exact sim_stuck _ | with_reducible exact sim_pure _ | with_reducible refine SimT.bind ?_ (fun _ => ?_) | with_reducible refine SimT.ite ?_ ?_ | split | (extract_lets; skip) | dsimp only)
theorem sim_intCmp (op : BinOp) (a b : Int) : SimU P F' fz (Op.intCmp op a b) := by
  unfold Op.intCmp
  repeat' (first | with_reducible exact sim_stuck _ | with_reducible exact sim_pure _ | with_reducible refine SimT.bind ?_ (fun _ => ?_) | with_reducible refine SimT.ite ?_ ?_ | split | (extract_lets; skip) | dsimp only)
theorem sim_shift (op : BinOp) (k : IntKind) (a : Int) (k2 : IntKind) (b : Int) : SimU P F' fz (Op.shift op k a k2 b) := by
  unfold Op.shift
  repeat' (first | with_reducible exact sim_runtimePanic _ | with_reducible exact sim_stuck _ | with_reducible exact sim_pure _ | with_reducible refine SimT.bind ?_ (fun _ => ?_) | with_reducible refine SimT.ite ?_ ?_ | split | (extract_lets; skip) | dsimp only)
theorem sim_unary (op : UnOp) (v : Value) : SimU P F' fz (Op.unary op v) := by
  unfold Op.unary
  repeat' (first | with_reducible exact sim_intBits _ _ _ _ | with_reducible exact sim_intArith _ _ _ _ | with_reducible exact sim_unsupported _ | with_reducible exact sim_stuck _ | with_reducible exact sim_pure _ | with_reducible refine SimT.bind ?_ (fun _ => ?_) | with_reducible refine SimT.ite ?_ ?_ | split | (extract_lets; skip) | dsimp only)
theorem sim_stringOp (op : BinOp) (a b : ByteArray) : SimU P F' fz (Op.stringOp op a b) := by
  unfold Op.stringOp
  repeat' (first | with_reducible exact sim_unsupported _ | with_reducible exact sim_stuck _ | with_reducible exact sim_pure _ | with_reducible refine SimT.bind ?_ (fun _ => ?_) | with_reducible refine SimT.ite ?_ ?_ | split | (extract_lets; skip) | dsimp only)
end
end Go.Goes

-- Retape
/-
  On another tape.
-/
namespace Go.Goes

/-- The world on another tape. -/
def _root_.Go.World.re (w : World) (τ : Nat → Question → Nat) (d : Nat) : World := { w with tape := τ, drawn := d }
def _root_.Go.Result.of {α : Type} (r : Except Halt α) (w : World) : Result α := match r with | .ok a => .ok a w | .error h => .halt h w

theorem cell_re (w : World) (τ : Nat → Question → Nat) (d : Nat) (a : Addr) : (w.re τ d).cell? a = w.cell? a := rfl
theorem farLoad_re (P : Program) (w : World) (τ : Nat → Question → Nat) (d : Nat) (a : Addr) (b : Bool) : (w.re τ d).farLoad P a b = w.farLoad P a b := rfl
theorem frozen_re (w : World) (τ : Nat → Question → Nat) (d : Nat) (a : Addr) : (w.re τ d).frozen? a = w.frozen? a := rfl
theorem shape_re (w : World) (τ : Nat → Question → Nat) (d : Nat) (r : Nat) : (w.re τ d).shape? r = w.shape? r := rfl
theorem freeze_re (w : World) (τ : Nat → Question → Nat) (d : Nat) (a : Addr) (n : Nat) : (w.re τ d).freeze a n = (w.freeze a n).re τ d := by
  unfold World.freeze; split <;> rfl
theorem viewStore_re (P : Program) (w : World) (τ : Nat → Question → Nat) (d : Nat) (at_ : Addr) (u : TypeId) (a : Addr) (v : Value) (b : Bool) :
    (w.re τ d).viewStore P at_ u a v b = (w.viewStore P at_ u a v b).map (fun x => (x.1.re τ d, x.2)) := by
  unfold World.viewStore
  have hs : (w.re τ d).seen P at_ u a b = w.seen P at_ u a b := rfl
  rw [hs]
  generalize w.seen P at_ u a b = s
  by_cases ht : (!tight P P.depth u) = true
  · simp only [ht, if_true]; rfl
  · simp only [ht, Bool.false_eq_true, if_false]
    cases s with
    | error x => rfl
    | ok x =>
      obtain ⟨c, e, fz, first, like, cells⟩ := x
      cases hb : v.bytes? with
      | none => rfl
      | some bytes =>
        by_cases hl : some bytes.length ≠ like.bytes?.map (·.length)
        · simp only [bind, Except.bind, if_pos hl]; rfl
        · simp only [bind, Except.bind, if_neg hl, Except.map, pure, Except.pure]
          generalize (List.foldlM _ c cells : Except String (Array Value)) = r
          cases r <;> rfl
theorem farStore_re (P : Program) (w : World) (τ : Nat → Question → Nat) (d : Nat) (a : Addr) (v : Value) (b : Bool) :
    (w.re τ d).farStore P a v b = (w.farStore P a v b).map (fun x => (x.1.re τ d, x.2)) := by
  unfold World.farStore
  rw [show (w.re τ d).heap[a.block]? = w.heap[a.block]? from rfl, show (w.re τ d).noCell a "store: no such cell" = w.noCell a "store: no such cell" from rfl]
  cases w.heap[a.block]? with
  | none => rfl
  | some o =>
    cases o with
    | view at_ u =>
      simp only
      rw [viewStore_re]
      cases w.viewStore P at_ u a v b <;> rfl
    | _ => rfl

theorem noCell_plain (w : World) (a : Addr) (s : String) : plainHalt (w.noCell a s) := by
  unfold World.noCell; split <;> trivial
theorem farLoad_plain {P : Program} {w : World} {a : Addr} {b : Bool} {h : Halt} (e : w.farLoad P a b = .error h) : plainHalt h := by
  unfold World.farLoad at e
  split at e
  · split at e
    · cases e
    · cases e; trivial
  · cases e; exact noCell_plain _ _ _
theorem farStore_plain {P : Program} {w : World} {a : Addr} {v : Value} {b : Bool} {h : Halt} (e : w.farStore P a v b = .error h) : plainHalt h := by
  unfold World.farStore at e
  split at e
  · split at e
    · cases e
    · cases e; trivial
  · cases e; exact noCell_plain _ _ _

/-- An entry that is no word that stops or starts the hearing. -/
def Tame (e : Event) : Prop := e.loc ≠ .mark .disable ∧ e.loc ≠ .mark .enable

/-- **A calm piece, on another tape that agrees on the draws that it makes, does the same.** -/
theorem Calm.retape {P : Program} {α : Type} {Q : α → Prop} {m : Sem α} (hm : Calm P Q m) (τ : Nat → Question → Nat) : ∀ (w : World) (d : Nat) (es : Array Event),
    ∃ (k : Nat) (u : World) (r : Except Halt α) (fs : Array Event), ((∀ a, r = .ok a → Q a) ∧ ∀ h, r = .error h → plainHalt h) ∧ (∀ e ∈ fs, e ∈ es ∨ Tame e) ∧
      ∀ τ' d', (∀ i, i < k → τ' (d' + i) = τ (d + i)) → m.runT P (w.re τ' d') es = (Result.of r (u.re τ' (d' + k)), fs) := by
  induction hm with
  | pure a h => exact fun w d es => ⟨0, w, .ok a, es, ⟨fun _ e => by cases e; exact h, fun _ e => by cases e⟩, fun e he => .inl he, fun _ _ _ => rfl⟩
  | halt h hh => exact fun w d es => ⟨0, w, .error h, es, ⟨fun _ e => (by cases e), fun _ e => by cases e; exact hh⟩, fun e he => .inl he, fun _ _ _ => rfl⟩
  | load md a k _ ih =>
    intro w d es
    cases hc : w.cell? a with
    | some v =>
      obtain ⟨n, u, r, fs, h1, h2, h3⟩ := ih v w d (es.push ⟨.cell a, false, md == .atomic⟩)
      refine ⟨n, u, r, fs, h1, fun e he => ?_, fun τ' d' hh => ?_⟩
      · rcases h2 e he with h | h
        · rcases Array.mem_push.1 h with h | h
          · exact .inl h
          · subst h; exact .inr ⟨by simp, by simp⟩
        · exact .inr h
      · unfold Sem.runT; rw [cell_re, hc]; exact h3 τ' d' hh
    | none =>
      cases hf : w.farLoad P a (md == .atomic) with
      | error h => exact ⟨0, w, .error h, es, ⟨fun _ e => (by cases e), fun _ e => by cases e; exact farLoad_plain hf⟩, fun e he => .inl he, fun τ' d' _ => by unfold Sem.runT; rw [cell_re, hc, farLoad_re, hf]; rfl⟩
      | ok x =>
        obtain ⟨v, touched⟩ := x
        obtain ⟨n, u, r, fs, h1, h2, h3⟩ := ih v w d (es ++ touched.toArray.map (⟨.cell ·, false, md == .atomic⟩))
        refine ⟨n, u, r, fs, h1, fun e he => ?_, fun τ' d' hh => ?_⟩
        · rcases h2 e he with h | h
          · rcases Array.mem_append.1 h with h | h
            · exact .inl h
            · obtain ⟨y, _, rfl⟩ := Array.mem_map.1 h; exact .inr ⟨by simp, by simp⟩
          · exact .inr h
        · unfold Sem.runT; rw [cell_re, hc, farLoad_re, hf]; exact h3 τ' d' hh
  | store md a v k _ ih =>
    intro w d es
    by_cases hv : ∃ xs, v = .agg xs ∨ v = .tuple xs
    · obtain ⟨xs, rfl | rfl⟩ := hv <;> exact ⟨0, w, .error (.stuck "store: not the value of one cell"), es, ⟨fun _ e => (by cases e), fun _ e => by cases e; trivial⟩, fun e he => .inl he, fun τ' d' _ => by unfold Sem.runT; rfl⟩
    · have e1 : ∀ (u : World), (Sem.store md a v k).runT P u es = (match u.cell? a with
          | some _ => if u.frozen? a then (.halt (.unsupported (.unsafePointer "a write to bytes that a string shares")) u, es) else k.runT P (u.setCell a v) (es.push ⟨.cell a, true, md == .atomic⟩)
          | none => match u.farStore P a v (md == .atomic) with
            | .ok (u', touched) => k.runT P u' (es ++ touched.toArray.map (⟨.cell ·, true, md == .atomic⟩))
            | .error h => (.halt h u, es)) := fun u => by
        cases v <;> first | rfl | exact absurd ⟨_, .inl rfl⟩ hv | exact absurd ⟨_, .inr rfl⟩ hv
      cases hc : w.cell? a with
      | some x =>
        by_cases hf : w.frozen? a = true
        · exact ⟨0, w, .error (.unsupported (.unsafePointer "a write to bytes that a string shares")), es, ⟨fun _ e => (by cases e), fun _ e => by cases e; trivial⟩, fun e he => .inl he, fun τ' d' _ => by rw [e1, cell_re, hc]; simp only [frozen_re, hf, if_true]; rfl⟩
        · obtain ⟨n, u, r, fs, h1, h2, h3⟩ := ih (w.setCell a v) d (es.push ⟨.cell a, true, md == .atomic⟩)
          refine ⟨n, u, r, fs, h1, fun e he => ?_, fun τ' d' hh => ?_⟩
          · rcases h2 e he with h | h
            · rcases Array.mem_push.1 h with h | h
              · exact .inl h
              · subst h; exact .inr ⟨by simp, by simp⟩
            · exact .inr h
          · rw [e1, cell_re, hc]; simp only [frozen_re, hf]; exact h3 τ' d' hh
      | none =>
        cases hf : w.farStore P a v (md == .atomic) with
        | error h => exact ⟨0, w, .error h, es, ⟨fun _ e => (by cases e), fun _ e => by cases e; exact farStore_plain hf⟩, fun e he => .inl he, fun τ' d' _ => by rw [e1, cell_re, hc, farStore_re, hf]; rfl⟩
        | ok x =>
          obtain ⟨w', touched⟩ := x
          obtain ⟨n, u, r, fs, h1, h2, h3⟩ := ih w' d (es ++ touched.toArray.map (⟨.cell ·, true, md == .atomic⟩))
          refine ⟨n, u, r, fs, h1, fun e he => ?_, fun τ' d' hh => ?_⟩
          · rcases h2 e he with h | h
            · rcases Array.mem_append.1 h with h | h
              · exact .inl h
              · obtain ⟨y, _, rfl⟩ := Array.mem_map.1 h; exact .inr ⟨by simp, by simp⟩
            · exact .inr h
          · rw [e1, cell_re, hc, farStore_re, hf]; exact h3 τ' d' hh
  | new o k _ ih =>
    intro w d es
    obtain ⟨n, u, r, fs, h1, h2, h3⟩ := ih w.heap.size { w with heap := w.heap.push o } d es
    exact ⟨n, u, r, fs, h1, h2, fun τ' d' hh => h3 τ' d' hh⟩
  | shape r k _ ih =>
    intro w d es
    obtain ⟨n, u, r', fs, h1, h2, h3⟩ := ih (w.shape? r) w d es
    exact ⟨n, u, r', fs, h1, h2, fun τ' d' hh => h3 τ' d' hh⟩
  | freeze a n k _ ih =>
    intro w d es
    obtain ⟨n', u, r', fs, h1, h2, h3⟩ := ih (w.freeze a n) d es
    exact ⟨n', u, r', fs, h1, h2, fun τ' d' hh => by unfold Sem.runT; rw [freeze_re]; exact h3 τ' d' hh⟩
  | frozen a k _ ih =>
    intro w d es
    obtain ⟨n, u, r', fs, h1, h2, h3⟩ := ih (w.frozen? a) w d es
    exact ⟨n, u, r', fs, h1, h2, fun τ' d' hh => h3 τ' d' hh⟩
  | getObj r k _ ih =>
    intro w d es
    cases ho : w.heap[r]? with
    | none => exact ⟨0, w, .error (.stuck "getObj: no such block"), es, ⟨fun _ e => (by cases e), fun _ e => by cases e; trivial⟩, fun e he => .inl he, fun τ' d' _ => by unfold Sem.runT; rw [show (w.re τ' d').heap[r]? = w.heap[r]? from rfl, ho]; rfl⟩
    | some o =>
      by_cases hcell : ∃ c e f, o = .cells c e f
      · obtain ⟨c, e, f, rfl⟩ := hcell
        exact ⟨0, w, .error (.stuck "getObj: a row of cells"), es, ⟨fun _ e => (by cases e), fun _ e => by cases e; trivial⟩, fun e he => .inl he, fun τ' d' _ => by unfold Sem.runT; rw [show (w.re τ' d').heap[r]? = w.heap[r]? from rfl, ho]; rfl⟩
      · obtain ⟨n, u, r', fs, h1, h2, h3⟩ := ih o w d (es.push ⟨.obj r, false, o.isChan⟩)
        refine ⟨n, u, r', fs, h1, fun e he => ?_, fun τ' d' hh => ?_⟩
        · rcases h2 e he with h | h
          · rcases Array.mem_push.1 h with h | h
            · exact .inl h
            · subst h; exact .inr ⟨by simp, by simp⟩
          · exact .inr h
        · unfold Sem.runT
          rw [show (w.re τ' d').heap[r]? = w.heap[r]? from rfl, ho]
          have := h3 τ' d' hh
          cases o <;> first | exact this | exact absurd ⟨_, _, _, rfl⟩ hcell
  | setObj r o k _ ih =>
    intro w d es
    cases ho : w.heap[r]? with
    | none => exact ⟨0, w, .error (.stuck "setObj: no such block"), es, ⟨fun _ e => (by cases e), fun _ e => by cases e; trivial⟩, fun e he => .inl he, fun τ' d' _ => by unfold Sem.runT; rw [show (w.re τ' d').heap[r]? = w.heap[r]? from rfl, ho]; rfl⟩
    | some x =>
      by_cases hcell : ∃ c e f, x = .cells c e f
      · obtain ⟨c, e, f, rfl⟩ := hcell
        exact ⟨0, w, .error (.stuck "setObj: a row of cells"), es, ⟨fun _ e => (by cases e), fun _ e => by cases e; trivial⟩, fun e he => .inl he, fun τ' d' _ => by unfold Sem.runT; rw [show (w.re τ' d').heap[r]? = w.heap[r]? from rfl, ho]; rfl⟩
      · obtain ⟨n, u, r', fs, h1, h2, h3⟩ := ih { w with heap := w.heap.setIfInBounds r o } d (es.push ⟨.obj r, true, o.isChan⟩)
        refine ⟨n, u, r', fs, h1, fun e he => ?_, fun τ' d' hh => ?_⟩
        · rcases h2 e he with h | h
          · rcases Array.mem_push.1 h with h | h
            · exact .inl h
            · subst h; exact .inr ⟨by simp, by simp⟩
          · exact .inr h
        · unfold Sem.runT
          rw [show (w.re τ' d').heap[r]? = w.heap[r]? from rfl, ho]
          have := h3 τ' d' hh
          cases x <;> first | exact this | exact absurd ⟨_, _, _, rfl⟩ hcell
  | choose q k _ ih =>
    intro w d es
    by_cases hq : q.forced = true
    · obtain ⟨n, u, r, fs, h1, h2, h3⟩ := ih 0 w d es
      exact ⟨n, u, r, fs, h1, h2, fun τ' d' hh => by unfold Sem.runT; rw [if_pos hq]; exact h3 τ' d' hh⟩
    · obtain ⟨n, u, r, fs, h1, h2, h3⟩ := ih (q.cut (τ d q)) w (d + 1) es
      refine ⟨n + 1, u, r, fs, h1, h2, fun τ' d' hh => ?_⟩
      unfold Sem.runT
      rw [if_neg hq]
      have e0 : τ' d' = τ d := by simpa using hh 0 (by omega)
      show (k (q.cut (τ' d' q))).runT P (w.re τ' (d' + 1)) es = _
      rw [e0, h3 τ' (d' + 1) (fun i hi => by have := hh (i + 1) (by omega); simpa [Nat.add_assoc, Nat.add_comm 1 i] using this)]
      rw [show d' + 1 + n = d' + (n + 1) by omega]
  | program k _ ih =>
    intro w d es
    obtain ⟨n, u, r, fs, h1, h2, h3⟩ := ih w d es
    exact ⟨n, u, r, fs, h1, h2, fun τ' d' hh => h3 τ' d' hh⟩
  | mark m k hm _ ih =>
    intro w d es
    obtain ⟨n, u, r, fs, h1, h2, h3⟩ := ih w d (es.push ⟨.mark m, false, true⟩)
    refine ⟨n, u, r, fs, h1, fun e he => ?_, fun τ' d' hh => h3 τ' d' hh⟩
    rcases h2 e he with h | h
    · rcases Array.mem_push.1 h with h | h
      · exact .inl h
      · subst h; exact .inr ⟨by simpa using hm.1, by simpa using hm.2⟩
    · exact .inr h
end Go.Goes

-- Frames
/-
  Frames whose code is calm: one step, on another tape.
-/
namespace Go.Goes
open Go.Conc (G)

def okNext (F : FuncId → Prop) : Next → Prop
  | .value _ | .skip => True
  | .enter f _ => F f
  | _ => False
def CalmOp (P : Program) (F : FuncId → Prop) (o : Oper) : Prop := ∀ ρ : Operand → Value, (∀ f, ρ (.func f) = .func (.func f) #[] #[]) → Calm P (okNext F) (execOp ρ o)
def CalmOps (P : Program) (F : FuncId → Prop) (ops : Array Oper) : Prop := ∀ (i : Nat) o, ops[i]? = some o → CalmOp P F o
def CalmCode (P : Program) (F : FuncId → Prop) : Code → Prop
  | .region _ ops _ => CalmOps P F ops
  | .seq a b | .cond _ a b => CalmCode P F a ∧ CalmCode P F b
  | .block _ c | .loop c | .scope c => CalmCode P F c
  | .rangeFunc .. => False
  | _ => True
def CalmItem (P : Program) (F : FuncId → Prop) : Item → Prop
  | .code c | .inLoop c | .inScope c => CalmCode P F c
  | .inBlock _ => True
  | .inRegion ops _ => CalmOps P F ops
  | _ => False
def CalmItems (P : Program) (F : FuncId → Prop) (l : List Item) : Prop := ∀ it ∈ l, CalmItem P F it
structure CalmF (P : Program) (F : FuncId → Prop) (fr : Frame) : Prop where
  items : CalmItems P F fr.todo
  defers : fr.defers = []
  round : fr.roundOf = none
  kind : fr.kind = .normal
  known : (P.funcs[fr.fn]?).isSome = true
  mode : fr.mode = .run ∨ fr.mode = .returning
def CalmFn (P : Program) (F : FuncId → Prop) (f : FuncId) : Prop := ∃ fn body, P.funcs[f]? = some fn ∧ fn.body = some body ∧ CalmCode P F body

section
variable {P : Program} {F : FuncId → Prop}
theorem enter_calm {f : FuncId} (h : CalmFn P F f) (args : Array Value) : CalmF P F (Frame.enter P f args .normal) := by
  obtain ⟨fn, body, h1, h2, h3⟩ := h
  refine ⟨?_, rfl, rfl, rfl, by simp [Frame.enter, h1], .inl rfl⟩
  intro it hit
  simp only [Frame.enter, h1, Option.bind_some, h2, Option.getD_some, List.mem_singleton] at hit
  subst hit
  exact h3
theorem CalmItems.tail {it : Item} {l : List Item} (h : CalmItems P F (it :: l)) : CalmItems P F l := fun x hx => h x (List.mem_cons_of_mem _ hx)
theorem CalmItems.head {it : Item} {l : List Item} (h : CalmItems P F (it :: l)) : CalmItem P F it := h it (List.mem_cons_self ..)
theorem CalmItems.cons {it : Item} {l : List Item} (h1 : CalmItem P F it) (h2 : CalmItems P F l) : CalmItems P F (it :: l) := fun x hx => by
  rcases List.mem_cons.1 hx with rfl | hx
  · exact h1
  · exact h2 x hx
theorem exitTo_calm {id : Nat} : ∀ {l l' : List Item}, CalmItems P F l → exitTo id l = some l' → CalmItems P F l'
  | [], _, _, e => by simp [exitTo] at e
  | it :: l, l', h, e => by
    cases it with
    | inBlock id' =>
      simp only [exitTo] at e
      split at e
      · cases e; exact h.tail
      · exact exitTo_calm h.tail e
    | _ => simp only [exitTo] at e; exact exitTo_calm h.tail e
theorem findLabel_calm : ∀ {c rest : Code} {l : Nat}, CalmCode P F c → findLabel c l = some rest → CalmCode P F rest
  | .seq a b, rest, l, h, e => by
    unfold findLabel at e
    cases ha : findLabel a l with
    | some r => rw [ha] at e; cases e; exact ⟨findLabel_calm h.1 ha, h.2⟩
    | none => rw [ha] at e; exact findLabel_calm h.2 e
  | .label l', rest, l, _, e => by
    unfold findLabel at e
    split at e
    · cases e; trivial
    · cases e
  | .skip, _, _, _, e | .region .., _, _, _, e | .cond .., _, _, _, e | .block .., _, _, _, e | .loop _, _, _, _, e | .rangeFunc .., _, _, _, e | .exit _, _, _, _, e | .scope _, _, _, _, e | .goto _, _, _, _, e | .ret, _, _, _, e | .refuse _, _, _, _, e => by simp [findLabel] at e
theorem gotoIn_calm {l : Nat} : ∀ {k k' : List Item}, CalmItems P F k → gotoIn l k = some k' → CalmItems P F k'
  | [], _, _, e => by simp [gotoIn] at e
  | it :: k, k', h, e => by
    cases it with
    | inScope body =>
      simp only [gotoIn] at e
      cases hb : findLabel body l with
      | some r => rw [hb] at e; cases e; exact .cons (findLabel_calm (c := body) h.head hb) (.cons h.head h.tail)
      | none => rw [hb] at e; exact gotoIn_calm h.tail e
    | _ => simp only [gotoIn] at e; exact gotoIn_calm h.tail e
theorem finish_calm {fr : Frame} {ops : Array Oper} {i : Nat} {rest : List Nat} {k : List Item} (h : CalmF P F fr) (ht : fr.todo = .inRegion ops (i :: rest) :: k) (v : Value) : CalmF P F (fr.finish v) := by
  have hi := h.items
  rw [ht] at hi
  unfold Frame.finish
  rw [ht]
  exact ⟨.cons hi.head hi.tail, h.defers, h.round, h.kind, h.known, h.mode⟩

/-- It stands at an operation. -/
def Waits (fr : Frame) : Prop := ∃ ops i rest k, fr.todo = .inRegion ops (i :: rest) :: k

/-- What one step of a frame leads to. -/
inductive Out where
  | same (fr : Frame)
  | push (top below : Frame)
  | ended (o : Outcome)
def Out.to (cs : List Frame) (w : World) (es : Array Event) : Out → GStep
  | .same fr => .go (G fr cs) w es
  | .push top below => .go (G top (below :: cs)) w es
  | .ended o => .ended o w es
variable (P F) in
/-- .. calm frames, or one that panics. -/
def Out.ok : Out → Prop
  | .same fr => CalmF P F fr ∨ (fr.defers = [] ∧ (P.funcs[fr.fn]?).isSome = true ∧ ∃ ch, fr.mode = .panicking ch)
  | .push top below => CalmF P F top ∧ CalmF P F below ∧ Waits below
  | .ended _ => True

variable (P F) in
def StepOn (fr : Frame) (w : World) (τ : Nat → Question → Nat) (d : Nat) : Prop :=
  ∃ (k : Nat) (u : World) (es : Array Event) (o : Out), (∀ e ∈ es, Tame e) ∧ o.ok P F ∧
    ∀ cs τ' d', (∀ i, i < k → τ' (d' + i) = τ (d + i)) → stepG P true (G fr cs) (w.re τ' d') = o.to cs (u.re τ' (d' + k)) es

theorem seen_tame (fn : FuncId) {es : Array Event} (h : ∀ e ∈ es, Tame e) : ∀ e ∈ seen P fn es, Tame e := by
  have key : ∀ (l : List Event) (x : Bool × Array Event), (∀ e ∈ l, Tame e) → (∀ e ∈ x.2, Tame e) → ∀ e ∈ (l.foldl (fun (x : Bool × Array Event) e => match e.loc with
      | .mark (.extern f) => ((P.funcs[f]?).any (·.norace), x.2)
      | _ => (x.1, if x.1 && !e.sync then x.2 else x.2.push e)) x).2, Tame e := by
    intro l
    induction l with
    | nil => intro x _ hx; exact hx
    | cons a l ih =>
      intro x hl hx
      rw [List.foldl_cons]
      refine ih _ (fun e he => hl e (List.mem_cons_of_mem _ he)) ?_
      split
      · exact hx
      · dsimp only
        split
        · exact hx
        · intro e he
          rcases Array.mem_push.1 he with he | rfl
          · exact hx e he
          · exact hl _ (List.mem_cons_self ..)
  have := key es.toList ((P.funcs[fn]?).any (·.norace), #[]) (fun e he => h e (Array.mem_toList_iff.1 he)) (by simp)
  dsimp only [seen]
  rw [← Array.foldl_toList]
  exact this

theorem step_same {fr fr' : Frame} {w : World} {τ : Nat → Question → Nat} {d : Nat} (hc : CalmF P F fr') (h : ∀ cs w, stepG P true (G fr cs) w = .go (G fr' cs) w #[]) : StepOn P F fr w τ d :=
  ⟨0, w, #[], .same fr', by simp, .inl hc, fun cs τ' d' _ => by rw [h]; rfl⟩
theorem step_ended {fr : Frame} {w : World} {τ : Nat → Question → Nat} {d : Nat} (o : Outcome) (h : ∀ cs w, stepG P true (G fr cs) w = .ended o w #[]) : StepOn P F fr w τ d :=
  ⟨0, w, #[], .ended o, by simp, trivial, fun cs τ' d' _ => by rw [h]; rfl⟩

/-- What is left to the program's make: no variable waits for an initialiser. -/
def NoSteps (P : Program) : Prop := ∀ g, P.stepOf g = none

theorem early_on (hP : NoSteps P) (fr : Frame) (hc : CalmF P F fr) (g : Nat) (u : World) : ∃ (u' : World) (o : Out), o.ok P F ∧ ∀ cs τ d, early P fr cs none g (u.re τ d) = o.to cs (u'.re τ d) #[] := by
  by_cases hf : P.follows .staticDataAhead = true
  · exact ⟨u, .ended (.unsupported (.initOrder g) (fr.pos P)), trivial, fun cs τ d => by unfold early; simp [hf, hP g]; rfl⟩
  · cases ho : u.heap[g]? with
    | none => exact ⟨u, .ended (.stuck "early: the variable does not wait" (fr.pos P)), trivial, fun cs τ d => by unfold early; simp [hf, show (u.re τ d).heap[g]? = none from ho]; rfl⟩
    | some x =>
      by_cases hx : ∃ c e, x = .pending c e
      · obtain ⟨c, e, rfl⟩ := hx
        exact ⟨{ u with heap := u.heap.setIfInBounds g (.cells c e) }, .same fr, .inl hc, fun cs τ d => by unfold early; simp [hf, show (u.re τ d).heap[g]? = some (.pending c e) from ho]; rfl⟩
      · refine ⟨u, .ended (.stuck "early: the variable does not wait" (fr.pos P)), trivial, fun cs τ d => ?_⟩
        have ho' : (u.re τ d).heap[g]? = some x := ho
        unfold early
        cases x <;> first | exact absurd ⟨_, _, rfl⟩ hx | (simp [hf, ho']; rfl)

/-- An operation that is carried out. -/
theorem oper_on (hP : NoSteps P) (hF : ∀ f, F f → CalmFn P F f) {fr : Frame} (hm : fr.mode = .run) (hc : CalmF P F fr) {ops : Array Oper} {i : Nat} {rest : List Nat} {k : List Item} (ht : fr.todo = .inRegion ops (i :: rest) :: k) {o : Oper} (ho : ops[i]? = some o)
    (w : World) (τ : Nat → Question → Nat) (d : Nat) :
    ∃ (n : Nat) (u : World) (es : Array Event) (x : Out), (∀ e ∈ es, Tame e) ∧ x.ok P F ∧
      ∀ cs τ' d', (∀ j, j < n → τ' (d' + j) = τ (d + j)) → stepG.apply P true fr cs none (execOp fr.eval o) (w.re τ' d') = x.to cs (u.re τ' (d' + n)) es := by
  have hco : CalmOp P F o := by have := hc.items; rw [ht] at this; exact this.head i o ho
  obtain ⟨n, u, r, fs, ⟨h1, h1'⟩, h2, h3⟩ := (hco fr.eval (fun _ => rfl)).retape τ w d #[]
  have hk : (fr.kind == CallKind.early) = false := by rw [hc.kind]; rfl
  have hts : ∀ e ∈ seen P fr.fn fs, Tame e := seen_tame _ (fun e he => (h2 e he).resolve_left (by simp))
  have hr : ∀ (τ' : Nat → Question → Nat) (d' : Nat), (∀ j, j < n → τ' (d' + j) = τ (d + j)) → (execOp fr.eval o).run P (w.re τ' d') = Result.of r (u.re τ' (d' + n)) := fun τ' d' hh => by
    have := h3 τ' d' hh; rw [Sem.runT_eq] at this; exact (Prod.mk.inj this).1
  have hv : ∀ (τ' : Nat → Question → Nat) (d' : Nat), (∀ j, j < n → τ' (d' + j) = τ (d + j)) → (execOp fr.eval o).events P (w.re τ' d') #[] = fs := fun τ' d' hh => by
    have := h3 τ' d' hh; rw [Sem.runT_eq] at this; exact (Prod.mk.inj this).2
  cases r with
  | ok nx =>
    have hn := h1 nx rfl
    cases nx <;> try exact hn.elim
    case value v =>
      exact ⟨n, u, seen P fr.fn fs, .same (fr.finish v), hts, .inl (finish_calm hc ht v), fun cs τ' d' hh => by simp [stepG.apply, hr τ' d' hh, hv τ' d' hh, Result.of, hk, GStep.after, Out.to, G]⟩
    case skip =>
      exact ⟨n, u, seen P fr.fn fs, .same (fr.finish undef), hts, .inl (finish_calm hc ht _), fun cs τ' d' hh => by simp [stepG.apply, hr τ' d' hh, hv τ' d' hh, Result.of, hk, GStep.after, Out.to, G]⟩
    case enter f args =>
      refine ⟨n, u, seen P fr.fn fs, .push (Frame.enter P f args .normal) fr, hts, ⟨enter_calm (hF f hn) args, hc, ⟨ops, i, rest, k, ht⟩⟩, fun cs τ' d' hh => ?_⟩
      simp [stepG.apply, hr τ' d' hh, hv τ' d' hh, Result.of, hk, ht, GStep.after, Out.to, G]
  | error h =>
    have hp := h1' h rfl
    cases h <;> try exact hp.elim
    case panic v =>
      refine ⟨n, u, seen P fr.fn fs, .same (fr.raise [{ v, recovered := false }]), hts, .inr ⟨?_, ?_, [{ v, recovered := false }], ?_⟩, fun cs τ' d' hh => ?_⟩
      · unfold Frame.raise; rw [hm]; exact hc.defers
      · unfold Frame.raise; rw [hm]; exact hc.known
      · unfold Frame.raise; rw [hm]
      · simp [stepG.apply, hr τ' d' hh, hv τ' d' hh, Result.of, hk, GStep.after, Out.to, G]
    case stuck s =>
      exact ⟨n, u, seen P fr.fn fs, .ended (.stuck s (fr.pos P)), hts, trivial, fun cs τ' d' hh => by simp [stepG.apply, hr τ' d' hh, hv τ' d' hh, Result.of, hk, GStep.after, Out.to]⟩
    case unsupported s =>
      by_cases hg : ∃ g, s = .initOrder g
      · obtain ⟨g, rfl⟩ := hg
        obtain ⟨u', x, hx, he⟩ := early_on hP fr hc g u
        refine ⟨n, u', #[], x, by simp, hx, fun cs τ' d' hh => ?_⟩
        simp [stepG.apply, hr τ' d' hh, hv τ' d' hh, Result.of, hk, he]
        cases x <;> simp [GStep.after, Out.to, seen]
      · refine ⟨n, u, seen P fr.fn fs, .ended (.unsupported s (fr.pos P)), hts, trivial, fun cs τ' d' hh => ?_⟩
        have h4 := hr τ' d' hh
        have h5 := hv τ' d' hh
        clear hr hv h3
        cases s <;> first | exact absurd ⟨_, rfl⟩ hg | simp [stepG.apply, h4, h5, Result.of, hk, GStep.after, Out.to]

/-- Another list of what is to be done. -/
theorem CalmF.to {fr : Frame} (h : CalmF P F fr) {k : List Item} (hk : CalmItems P F k) : CalmF P F { fr with todo := k } := ⟨hk, h.defers, h.round, h.kind, h.known, h.mode⟩
theorem CalmF.back {fr : Frame} (h : CalmF P F fr) : CalmF P F { fr with mode := .returning } := ⟨h.items, h.defers, h.round, h.kind, h.known, .inr rfl⟩

/-- **One step of a calm frame that runs, on another tape.** -/
theorem run_on (hP : NoSteps P) (hF : ∀ f, F f → CalmFn P F f) {fr : Frame} (hm : fr.mode = .run) (hc : CalmF P F fr) (w : World) (τ : Nat → Question → Nat) (d : Nat) : StepOn P F fr w τ d := by
  have hi := hc.items
  have hr := hc.round
  cases ht : fr.todo with
  | nil => exact step_same hc.back (fun cs w => by simp [stepG, stepG.exec, G, hm, ht, hr])
  | cons it k =>
    rw [ht] at hi
    have hk := hi.tail
    cases it with
    | inBlock id => exact step_same (hc.to hk) (fun cs w => by simp [stepG, stepG.exec, G, hm, ht])
    | inScope c => exact step_same (hc.to hk) (fun cs w => by simp [stepG, stepG.exec, G, hm, ht])
    | inLoop c => exact step_same (hc.to (.cons (it := .code c) hi.head (.cons (it := .inLoop c) hi.head hk))) (fun cs w => by simp [stepG, stepG.exec, G, hm, ht])
    | inRangeFunc l => exact hi.head.elim
    | endRangeFunc l => exact hi.head.elim
    | beginRound => exact hi.head.elim
    | call d b r s => exact hi.head.elim
    | extern r a => exact hi.head.elim
    | inRegion ops l =>
      cases l with
      | nil => exact step_same (hc.to hk) (fun cs w => by simp [stepG, stepG.exec, G, hm, ht])
      | cons i rest =>
        cases ho : ops[i]? with
        | none => exact step_same (finish_calm hc ht undef) (fun cs w => by simp [stepG, stepG.exec, G, hm, ht, ho])
        | some o =>
          by_cases hw : Region.wanted o (yielded ops fr.tmps) = true
          · obtain ⟨n, u, es, x, h1, h2, h3⟩ := oper_on hP hF hm hc ht ho w τ d
            refine ⟨n, u, es, x, h1, h2, fun cs τ' d' hh => ?_⟩
            rw [← h3 cs τ' d' hh]
            simp [stepG, stepG.exec, stepG.oper, Frame.oper?, G, hm, ht, ho, hw, hr]
          · exact step_same (finish_calm hc ht undef) (fun cs w => by simp [stepG, stepG.exec, G, hm, ht, ho, hw])
    | code c =>
      cases c with
      | skip => exact step_same (hc.to hk) (fun cs w => by simp [stepG, stepG.exec, G, hm, ht])
      | label l => exact step_same (hc.to hk) (fun cs w => by simp [stepG, stepG.exec, G, hm, ht])
      | seq a b => exact step_same (hc.to (.cons (it := .code a) hi.head.1 (.cons (it := .code b) hi.head.2 hk))) (fun cs w => by simp [stepG, stepG.exec, G, hm, ht])
      | block id c => exact step_same (hc.to (.cons (it := .code c) hi.head (.cons (it := .inBlock id) trivial hk))) (fun cs w => by simp [stepG, stepG.exec, G, hm, ht])
      | loop c => exact step_same (hc.to (.cons (it := .code c) hi.head (.cons (it := .inLoop c) hi.head hk))) (fun cs w => by simp [stepG, stepG.exec, G, hm, ht])
      | scope c => exact step_same (hc.to (.cons (it := .code c) hi.head (.cons (it := .inScope c) hi.head hk))) (fun cs w => by simp [stepG, stepG.exec, G, hm, ht])
      | rangeFunc f ps a b => exact hi.head.elim
      | ret => exact step_same hc.back (fun cs w => by simp [stepG, stepG.exec, G, hm, ht, hr])
      | refuse why =>
        have hst : ∃ o, ∀ cs w, stepG P true (G fr cs) w = .ended o w #[] := by
          simp only [stepG, stepG.exec, G, hm, ht]
          exact ⟨_, fun _ _ => rfl⟩
        obtain ⟨o, ho⟩ := hst
        exact step_ended o ho
      | exit id =>
        cases he : exitTo id k with
        | some k' => exact step_same (hc.to (exitTo_calm hk he)) (fun cs w => by simp [stepG, stepG.exec, G, hm, ht, he])
        | none => exact step_ended (.stuck "exit, goto: no such block or label" (fr.pos P)) (fun cs w => by simp [stepG, stepG.exec, G, hm, ht, he, hr])
      | goto l =>
        cases he : gotoIn l k with
        | some k' => exact step_same (hc.to (gotoIn_calm hk he)) (fun cs w => by simp [stepG, stepG.exec, G, hm, ht, he])
        | none => exact step_ended (.stuck "exit, goto: no such block or label" (fr.pos P)) (fun cs w => by simp [stepG, stepG.exec, G, hm, ht, he, hr])
      | cond c a b =>
        by_cases hb : ∃ t, fr.eval c = .bool t
        · obtain ⟨t, hb⟩ := hb
          exact step_same (hc.to (.cons (it := .code (if t then a else b)) (by cases t; exact hi.head.2; exact hi.head.1) hk)) (fun cs w => by simp [stepG, stepG.exec, G, hm, ht, hb])
        · refine step_ended (.stuck "cond: bool expected" (fr.pos P)) (fun cs w => ?_)
          simp only [stepG, stepG.exec, G, hm, ht]
          generalize fr.eval c = v at hb
          cases v <;> first | exact absurd ⟨_, rfl⟩ hb | rfl
      | region id ops draw =>
        cases draw with
        | false => exact step_same (hc.to (.cons (it := .inRegion ops (List.range ops.size)) hi.head hk)) (fun cs w => by simp [stepG, stepG.exec, G, hm, ht])
        | true =>
          refine ⟨1, w, #[], .same { fr with todo := .inRegion ops (Region.schedule (P.follows .mixedOrders) ops (τ d (.order fr.fn id))) :: k }, by simp, .inl (hc.to (.cons (it := .inRegion ops _) hi.head hk)), fun cs τ' d' hh => ?_⟩
          have e0 : τ' d' = τ d := by simpa using hh 0 (by omega)
          simp [stepG, stepG.exec, G, hm, ht, choose, Sem.run, Question.forced, Question.cut, Out.to, World.re, e0]
end
end Go.Goes

-- CalmOps
/-
  Which operations, functions and programs are calm, by a Bool.
-/
namespace Go.Goes
section
variable {P : Program}

set_option maxHeartbeats 8000000 in
theorem calm_append (ts : Array TypeId) (t : TypeId) (vs : Array Value) : CalmT P (Builtin.append_ ts t vs) := by
  unfold Builtin.append_
  repeat' (first | with_reducible exact calm_pure _ | with_reducible exact calm_stuck _ | with_reducible exact calm_unsupported _ | with_reducible exact calm_runtimePanic _ | with_reducible exact calm_underlying _ | with_reducible exact calm_sizeOf _ | with_reducible exact calm_typeInfo _ | with_reducible exact calm_zeroValue _ | with_reducible exact calm_asInt _ | with_reducible exact calm_lenOf _ | with_reducible exact calm_firstCells _ _ _ | with_reducible exact calm_storeCells _ _ _ | with_reducible exact calm_mayShare _ _ _ _ _ | with_reducible exact calm_noRoom | with_reducible exact calm_choose _ | with_reducible exact calm_askRoom _ | with_reducible exact calm_newRow _ _ | with_reducible refine Calm.bind ?_ (fun _ => ?_) | with_reducible refine Calm.ite ?_ ?_ | split | (extract_lets; skip) | dsimp only)

theorem calm_value {m : Sem Value} {F : FuncId → Prop} (h : CalmT P m) : Calm P (okNext F) (do Pure.pure (Next.value (← m)) : Sem Next) := h.bindQ (fun _ _ => .pure _ trivial)
theorem calm_unit {m : Sem Unit} {F : FuncId → Prop} (h : CalmT P m) : Calm P (okNext F) (do m; Pure.pure Next.skip : Sem Next) := h.bindQ (fun _ _ => .pure _ trivial)

def calmOpB (P : Program) (fs : List FuncId) (o : Oper) : Bool :=
  match o.op with
  | .move _ | .assign _ | .pick .. | .alloc _ | .box .. | .build .. | .buildSlice .. | .load .. | .store .. | .binOp .. | .unOp .. | .makeSlice .. | .fieldAddr .. | .field .. | .indexAddr .. | .index .. | .extract .. | .nilCheck _ | .makeChan .. | .makeFunc .. => true
  | .convert src dst _ => (P.underlying src matches some (.int _)) && (P.underlying dst matches some (.int _))
  | .call { callee := .value (.func f), .. } => fs.contains f && (P.funcs[f]?).any fun fn => fn.body.isSome && fn.name != "runtime.NumGoroutine"
  | .call { callee := .builtin .len, .. } | .call { callee := .builtin .append, .. } => true
  | _ => false

theorem calm_makeChan {P : Program} (t : TypeId) (size : Value) : CalmT P (Instr.makeChan t size) := by
  unfold Instr.makeChan
  refine Calm.bind (calm_asInt _) (fun n => Calm.bind (calm_underlying _) (fun d => ?_))
  split
  · refine Calm.bind (calm_typeInfo _) (fun i => ?_)
    split
    · exact Calm.bind (calm_runtimePanic _) (fun _ => Calm.bind (calm_newObj _) (fun _ => calm_pure _))
    · exact Calm.bind (calm_newObj _) (fun _ => calm_pure _)
  · exact calm_stuck _
theorem calm_callFunc {F : FuncId → Prop} {f : FuncId} {fn : Func} (h : P.funcs[f]? = some fn) (hb : fn.body.isSome = true) (hn : (fn.name == "runtime.NumGoroutine") = false) (hF : F f) (args : Array Value) : Calm P (okNext F) (callFunc f args) := by
  unfold callFunc
  refine Calm.program _ ?_
  show Calm P (okNext F) (match P.funcs[f]? with | none => stuck "call: no such function" | some fn => _)
  rw [h]
  simp only [hn]
  have hb' : fn.body.isNone = false := by cases e : fn.body <;> simp_all
  simp only [hb']
  exact .pure _ hF

theorem calmOp_of {fs : List FuncId} {o : Oper} (h : calmOpB P fs o = true) : CalmOp P (· ∈ fs) o := by
  intro ρ hρ
  unfold calmOpB at h
  unfold execOp
  obtain ⟨dst, op, type, pos, after, guard⟩ := o
  dsimp only at h ⊢
  cases op <;> dsimp only at h ⊢ <;> try (cases h; done)
  case move x => exact .pure _ trivial
  case assign x => exact .pure _ trivial
  case pick c a b => exact Calm.bind (calm_asBool _) (fun _ => .pure _ trivial)
  case alloc t => exact calm_value (calm_alloc _ _ _)
  case box t x => exact calm_value (calm_box _ _)
  case build t ps => exact calm_value (calm_build _ _)
  case buildSlice t n ps => exact calm_value (calm_buildSlice _ _ _)
  case load t a => exact calm_value (calm_loadAt _ _)
  case store t a x => exact calm_unit (calm_storeAt _ _ _)
  case binOp op t x y t2 => exact calm_value (Calm.bind (calm_eqGuard _ _ _ _ _ _) (fun _ => calm_binOp _ _ _ _))
  case unOp op t x => exact calm_value (calm_unary _ _)
  case makeSlice t l c => exact calm_value (calm_makeSlice _ _ _)
  case makeChan t s => exact calm_value (calm_makeChan _ _)
  case makeFunc fn a b => exact calm_value (calm_pure _)
  case fieldAddr s x f => exact calm_value (calm_fieldAt _ _ _)
  case field t x f => exact calm_value (calm_field _ _ _)
  case indexAddr t x i => exact calm_value (calm_indexAt _ _ _)
  case index t x i => exact calm_value (calm_index _ _ _)
  case extract t i => exact calm_value (calm_extract _ _)
  case nilCheck x =>
    cases ρ x <;> try exact .pure _ trivial
    case pointer p => cases p <;> first | exact calm_runtimePanic _ | exact .pure _ trivial
    case nilIface => exact calm_runtimePanic _
    case nilFunc => exact calm_runtimePanic _
    case func fn first captured =>
      cases fn <;> try exact .pure _ trivial
      case method name =>
        dsimp only
        cases first[0]? with
        | none => exact .pure _ trivial
        | some y =>
          cases y <;> try exact .pure _ trivial
          case nilIface => exact calm_runtimePanic _
          case iface t v =>
            dsimp only
            refine Calm.bind calm_program (fun p => ?_)
            refine Calm.bind (calm_nilAhead _ _ _ _) (fun r => ?_)
            refine Calm.ite ?_ ?_
            · exact Calm.bind (calm_unsupported _) (fun _ => .pure _ trivial)
            · exact .pure _ trivial
  case convert src dst x =>
    rw [Bool.and_eq_true] at h
    refine calm_value ?_
    have hu : ∀ t d, P.underlying t = some d → Calm P (fun x => x = d) (underlying t) := fun t d e => by
      unfold underlying
      refine Calm.program _ ?_
      show Calm P _ (match P.underlying t with | some d => Pure.pure d | none => stuck "no such type")
      rw [e]; exact .pure _ rfl
    cases e1 : P.underlying src with
    | none => rw [e1] at h; simp at h
    | some d1 =>
      cases e2 : P.underlying dst with
      | none => rw [e2] at h; simp at h
      | some d2 =>
        rw [e1, e2] at h
        cases d1 <;> try (simp at h; done)
        cases d2 <;> try (simp at h; done)
        unfold convert
        refine (hu src _ e1).bindQ (fun a ha => ?_)
        subst ha
        refine (hu dst _ e2).bindQ (fun b hb => ?_)
        subst hb
        cases ρ x <;> try exact calm_unsupported _
        case int k n => exact calm_intToInt _ _
        case float k n => exact calm_floatToInt _ _ _
        case pointer p => cases p <;> exact calm_unsupported _
  case call c =>
    obtain ⟨callee, args, argTypes⟩ := c
    cases callee with
    | builtin b =>
      cases b <;> dsimp only at h <;> try (cases h; done)
      case append => exact calm_value (calm_append _ _ _)
      case len => exact calm_value (calm_len _ _ _)
    | invoke r n => cases h
    | value x =>
      cases x <;> dsimp only at h <;> try (cases h; done)
      case func f =>
        rw [Bool.and_eq_true] at h
        obtain ⟨h1, h2⟩ := h
        cases hf : P.funcs[f]? with
        | none => rw [hf] at h2; cases h2
        | some fn =>
          rw [hf] at h2
          simp only [Option.any_some, Bool.and_eq_true, bne, Bool.not_eq_true'] at h2
          have e : resolve ρ { callee := .value (.func f), args := args, argTypes := argTypes } type = Pure.pure { target := .fn (.func f) #[], args := #[] ++ args.map ρ } := by
            unfold resolve; simp only [hρ]; rfl
          rw [e]
          show Calm P _ (callFunc f ((#[] ++ args.map ρ) ++ #[]))
          exact calm_callFunc hf h2.1 h2.2 (by simpa using h1) _

def calmCodeB (P : Program) (fs : List FuncId) : Code → Bool
  | .region _ ops _ => ops.all (calmOpB P fs)
  | .seq a b | .cond _ a b => calmCodeB P fs a && calmCodeB P fs b
  | .block _ c | .loop c | .scope c => calmCodeB P fs c
  | .rangeFunc .. => false
  | _ => true
theorem calmCode_of {fs : List FuncId} : ∀ {c : Code}, calmCodeB P fs c = true → CalmCode P (· ∈ fs) c
  | .region _ ops _, h => fun i o ho => calmOp_of (Array.all_eq_true_iff_forall_mem.1 h o (Array.mem_of_getElem? ho))
  | .seq a b, h | .cond _ a b, h => by
    simp only [calmCodeB, Bool.and_eq_true] at h
    exact ⟨calmCode_of h.1, calmCode_of h.2⟩
  | .block _ c, h | .loop c, h | .scope c, h => calmCode_of (c := c) h
  | .rangeFunc .., h => by cases h
  | .skip, _ | .exit _, _ | .label _, _ | .goto _, _ | .ret, _ | .refuse _, _ => trivial
def calmFnsB (P : Program) (fs : List FuncId) : Bool := fs.all fun f => match P.funcs[f]? with | some fn => (match fn.body with | some c => calmCodeB P fs c | none => false) | none => false
theorem calmFns_of {fs : List FuncId} (h : calmFnsB P fs = true) : ∀ f, f ∈ fs → CalmFn P (· ∈ fs) f := by
  intro f hf
  have h1 := List.all_eq_true.1 h f hf
  cases e : P.funcs[f]? with
  | none => rw [e] at h1; cases h1
  | some fn =>
    rw [e] at h1
    dsimp only at h1
    cases e2 : fn.body with
    | none => rw [e2] at h1; cases h1
    | some c => rw [e2] at h1; exact ⟨fn, c, e, e2, calmCode_of h1⟩
theorem noSteps_of (h : (P.funcs.all fun f => f.body.all fun c => (readies c).isEmpty) = true) : NoSteps P := by
  intro g
  unfold Program.stepOf
  rw [Array.findIdx?_eq_none_iff]
  intro f hf
  have h1 := Array.all_eq_true_iff_forall_mem.1 h f hf
  cases e : f.body with
  | none => rfl
  | some c => rw [e] at h1; simp at h1; simp [h1]
end
end Go.Goes

-- SimOps
/-
  Operations that do the same in both. (Made by mk4.py.)
-/
namespace Go.Goes
set_option linter.unusedVariables false
section
variable {P : Program} {F' : Array Func} {fz : Bool}
theorem tw_eqGuardType : ∀ (d : Nat) (t : TypeId), (tw P F').eqGuardType d t = P.eqGuardType d t
  | 0, _ => rfl
  | d + 1, t => by
    unfold Program.eqGuardType
    rw [tw_underlying]
    cases P.underlying t with
    | none => rfl
    | some x => cases x <;> simp only [tw_eqGuardType d]

theorem sim_eqGuardIn : ∀ (d : Nat) (t : TypeId) (x y : Value), SimU P F' fz (Op.eqGuardIn d t x y)
  | 0, _, _, _ => by unfold Op.eqGuardIn; exact sim_unsupported _
  | d + 1, t, x, y => by
    unfold Op.eqGuardIn
    repeat' (first | with_reducible exact sim_eqGuardIn d _ _ _ | with_reducible exact sim_part _ _ _ | with_reducible exact sim_sizeOf _ | with_reducible exact sim_underlying _ | with_reducible exact sim_unsupported _ | with_reducible exact sim_pure _ | with_reducible refine SimT.bind ?_ (fun _ => ?_) | with_reducible refine SimT.ite ?_ ?_ | with_reducible refine sim_arrayForIn _ (fun _ _ => ?_) _ _ | with_reducible refine sim_rangeForIn _ (fun _ _ => ?_) _ _ | split | (extract_lets; skip) | dsimp only)
theorem sim_eqGuard_eq (t : TypeId) (x y : Operand) (a b : Value) : SimU P F' fz (match a, b with
    | .nilIface, .nilIface => do
      if (x matches .const _) || (y matches .const _) then return
      if ← Op.eqGuardIn Op.maxDepth t a b then unsupported (.noEntry "binop/eql: two nil values of an interface type with methods, neither of them the literal nil")
    | .agg _, .agg _ => do
      if !(← program).eqGuardType (← program).depth t then return
      if ← Op.eqGuardIn Op.maxDepth t a b then unsupported (.noEntry "binop/eql: two nil values of an interface type with methods, in a part of a struct or an array")
    | _, _ => pure () : Sem Unit) := by
  split
  · refine SimT.ite (sim_pure _) (SimT.bind (sim_eqGuardIn _ _ _ _) (fun _ => ?_))
    split
    · exact sim_unsupported _
    · exact sim_pure _
  · refine sim_prog (f := fun p => Go.program >>= fun p2 => _) ?_ ?_
    · have e : ∀ d, (tw P F').eqGuardType d t = P.eqGuardType d t := fun d => tw_eqGuardType d t
      simp only [e]
    · refine sim_prog (f := fun p2 => _) rfl ?_
      split
      · exact sim_pure _
      · exact SimT.bind (sim_eqGuardIn _ _ _ _) (fun _ => by split <;> first | exact sim_unsupported _ | exact sim_pure _)
  · exact sim_pure _
theorem sim_eqGuard (op : BinOp) (t : TypeId) (x y : Operand) (a b : Value) : SimU P F' fz (eqGuard op t x y a b) := by
  unfold eqGuard
  cases op <;> first | exact sim_eqGuard_eq t x y a b | exact sim_pure _
theorem sim_floatArith (op : BinOp) (k : FloatKind) (a b : Nat) : SimU P F' fz (Op.floatArith op k a b) := by
  unfold Op.floatArith
  repeat' (first | with_reducible exact sim_choose _ | with_reducible exact sim_stuck _ | with_reducible exact sim_pure _ | with_reducible refine SimT.bind ?_ (fun _ => ?_) | with_reducible refine SimT.ite ?_ ?_ | split | (extract_lets; skip) | dsimp only)
theorem sim_floatCmp (op : BinOp) (k : FloatKind) (a b : Nat) : SimU P F' fz (Op.floatCmp op k a b) := by
  unfold Op.floatCmp
  repeat' (first | with_reducible exact sim_stuck _ | with_reducible exact sim_pure _ | with_reducible refine SimT.bind ?_ (fun _ => ?_) | with_reducible refine SimT.ite ?_ ?_ | split | (extract_lets; skip) | dsimp only)
theorem sim_twoPlaces (a b : Addr) : SimU P F' fz (Op.twoPlaces a b) := by
  unfold Op.twoPlaces
  repeat' (first | with_reducible exact sim_byteOf _ | with_reducible exact sim_unsupported _ | with_reducible exact sim_pure _ | with_reducible refine sim_prog rfl ?_ | with_reducible refine SimT.bind ?_ (fun _ => ?_) | with_reducible refine SimT.ite ?_ ?_ | split | (extract_lets; skip) | dsimp only)
theorem sim_addrSub (k : IntKind) (a b : Addr) : SimU P F' fz (Op.addrSub k a b) := by
  unfold Op.addrSub
  repeat' (first | with_reducible exact sim_twoPlaces _ _ | with_reducible exact sim_pure _ | with_reducible refine SimT.bind ?_ (fun _ => ?_) | with_reducible refine SimT.ite ?_ ?_ | split | (extract_lets; skip) | dsimp only)
theorem sim_addrCmp (op : BinOp) (a b : Addr) : SimU P F' fz (Op.addrCmp op a b) := by
  unfold Op.addrCmp
  repeat' (first | with_reducible exact sim_twoPlaces _ _ | with_reducible exact sim_unsupported _ | with_reducible exact sim_pure _ | with_reducible refine SimT.bind ?_ (fun _ => ?_) | with_reducible refine SimT.ite ?_ ?_ | split | (extract_lets; skip) | dsimp only)
theorem sim_addrMod (k : IntKind) (a : Addr) (n : Int) : SimU P F' fz (Op.addrMod k a n) := by
  unfold Op.addrMod
  repeat' (first | with_reducible exact sim_byteOf _ | with_reducible exact sim_typeInfo _ | with_reducible exact sim_shape _ | with_reducible exact sim_unsupported _ | with_reducible exact sim_pure _ | with_reducible refine SimT.bind ?_ (fun _ => ?_) | with_reducible refine SimT.ite ?_ ?_ | split | (extract_lets; skip) | dsimp only)
theorem tw_cellOfByte : ∀ (d : Nat) (t : TypeId) (o : Nat), cellOfByte (tw P F') d t o = cellOfByte P d t o
  | 0, _, _ => rfl
  | d + 1, t, o => by
    unfold cellOfByte
    rw [tw_underlying]
    cases P.underlying t with
    | none => rfl
    | some x => cases x <;> simp only [tw_cellOfByte d] <;> rfl
theorem tw_cellAtBytes (d : Nat) (e : TypeId) (n off : Nat) (b : Int) : cellAtBytes (tw P F') d e n off b = cellAtBytes P d e n off b := by
  unfold cellAtBytes
  simp only [tw_cellOfByte, tw_byteOfCell]
  rfl
theorem sim_unsafeAdd (ts : Array TypeId) (t : TypeId) (ptr : Option Addr) (y : Value) : SimU P F' fz (Builtin.unsafeAdd_ ts t #[.pointer ptr, y]) := by
  unfold Builtin.unsafeAdd_
  refine SimT.bind (sim_asInt _) (fun n => ?_)
  dsimp only
  split
  · split
    · refine SimT.bind (sim_viewAt _) (fun _ => ?_)
      split
      · exact SimT.bind (sim_unsupported _) (fun _ => sim_pure _)
      · exact sim_pure _
    · exact sim_unsupported _
  · have tail : SimU P F' fz (match ptr with | some a => (do let __discr ← shape a.block; match __discr with | some (e, cells) => (do let p ← program; match cellAtBytes p p.depth e (cells / p.cellsOf e) a.off n with | some off => pure (.pointer (some { a with off })) | none => unsupported (.unsafePointer "Add")) | x => unsupported (.unsafePointer "Add")) | x => unsupported (.unsafePointer "Add") : Sem Value) := by
      split
      · refine SimT.bind (sim_shape _) (fun _ => ?_)
        split
        · refine sim_prog ?_ ?_
          · simp only [tw_cellAtBytes]; rfl
          · split
            · exact sim_pure _
            · exact sim_unsupported _
        · exact sim_unsupported _
      · exact sim_unsupported _
    split
    · exact SimT.bind (sim_unsupported _) (fun _ => tail)
    · exact tail
theorem sim_unsafeAddV (ts : Array TypeId) (t : TypeId) (x y : Value) : SimU P F' fz (Builtin.unsafeAdd_ ts t #[x, y]) := by
  cases x <;> first | exact sim_unsafeAdd _ _ _ _ | (unfold Builtin.unsafeAdd_; exact sim_stuck _)
theorem sim_movedNumber (t : TypeId) (x y : Value) : SimU P F' fz (movedNumber t x y) := by
  unfold movedNumber
  repeat' (first | with_reducible exact sim_unsafeAddV _ _ _ _ | with_reducible exact sim_behindNumber _ | with_reducible exact sim_asNumber _ _ | with_reducible exact sim_underlying _ | with_reducible exact sim_unsupported _ | with_reducible exact sim_pure _ | with_reducible refine SimT.bind ?_ (fun _ => ?_) | with_reducible refine SimT.ite ?_ ?_ | split | (extract_lets; skip) | dsimp only)
theorem sim_under (t : TypeId) (d : TypeDesc) (e : P.underlying t = some d) : SimT P F' fz (fun x => x = d) (underlying t) := by
  unfold underlying
  refine SimT.program _ rfl ?_
  show SimT P F' fz _ (match P.underlying t with | some d => Pure.pure d | none => stuck "no such type")
  rw [e]; exact .pure _ rfl
theorem sim_equalIn_bool (d0 : Nat) (t : TypeId) (x y : Value) (h : P.underlying t = some .bool) : SimU P F' fz (Op.equalIn (d0 + 1) t x y) := by
  unfold Op.equalIn
  refine (sim_under t _ h).bindQ (fun d hd => ?_)
  subst hd
  dsimp only
  split <;> first | exact sim_pure _ | exact sim_stuck _ | contradiction
theorem sim_equalIn_string (d0 : Nat) (t : TypeId) (x y : Value) (h : P.underlying t = some .string) : SimU P F' fz (Op.equalIn (d0 + 1) t x y) := by
  unfold Op.equalIn
  refine (sim_under t _ h).bindQ (fun d hd => ?_)
  subst hd
  dsimp only
  split <;> first | exact sim_pure _ | exact sim_stuck _ | contradiction
theorem sim_equalIn_int (d0 : Nat) (t : TypeId) (k : IntKind) (x y : Value) (h : P.underlying t = some (.int k)) : SimU P F' fz (Op.equalIn (d0 + 1) t x y) := by
  unfold Op.equalIn
  refine (sim_under t _ h).bindQ (fun d hd => ?_)
  subst hd
  dsimp only
  split <;> first | exact sim_pure _ | exact sim_stuck _ | exact sim_unsupported _ | contradiction | skip
  · split
    · exact sim_pure _
    · exact sim_stuck _
  · repeat' (first | with_reducible exact sim_byteOf _ | with_reducible exact sim_behindNumber _ | with_reducible exact sim_typeInfo _ | with_reducible exact sim_unsupported _ | with_reducible exact sim_stuck _ | with_reducible exact sim_pure _ | with_reducible refine sim_prog rfl ?_ | with_reducible refine SimT.bind ?_ (fun _ => ?_) | with_reducible refine SimT.ite ?_ ?_ | split | (extract_lets; skip) | dsimp only)
theorem sim_floatToFloat (a : FloatKind) (b : Nat) (c : FloatKind) : SimU P F' fz (Conv.floatToFloat a b c) := by
  unfold Conv.floatToFloat
  repeat' (first | with_reducible exact sim_choose _ | with_reducible exact sim_pure _ | with_reducible refine SimT.bind ?_ (fun _ => ?_) | with_reducible refine SimT.ite ?_ ?_ | split | (extract_lets; skip) | dsimp only)
theorem sim_carith (op : BinOp) (k : FloatKind) (a b : Nat) : SimU P F' fz (Op.Complex.arith op k a b) := by
  unfold Op.Complex.arith
  repeat' (first | with_reducible exact sim_floatArith _ _ _ _ | with_reducible exact sim_stuck _ | with_reducible exact sim_pure _ | with_reducible refine SimT.bind ?_ (fun _ => ?_) | with_reducible refine SimT.ite ?_ ?_ | split | (extract_lets; skip) | dsimp only)
theorem sim_ccmp (op : BinOp) (k : FloatKind) (a b : Nat) : SimU P F' fz (Op.Complex.cmp op k a b) := by
  unfold Op.Complex.cmp
  repeat' (first | with_reducible exact sim_floatCmp _ _ _ _ | with_reducible exact sim_asBool _ | with_reducible refine SimT.bind ?_ (fun _ => ?_) | with_reducible refine SimT.ite ?_ ?_ | split | (extract_lets; skip) | dsimp only)
theorem sim_cconv (s : FloatKind) (a : Nat) (d : FloatKind) : SimU P F' fz (Op.Complex.conv s a d) := by
  unfold Op.Complex.conv
  repeat' (first | with_reducible exact sim_floatToFloat _ _ _ | with_reducible exact sim_stuck _ | with_reducible exact sim_pure _ | with_reducible refine SimT.bind ?_ (fun _ => ?_) | with_reducible refine SimT.ite ?_ ?_ | split | (extract_lets; skip) | dsimp only)
theorem sim_cadd (a b : Nat) : SimU P F' fz (Op.Complex.add a b) := by
  unfold Op.Complex.add
  repeat' (first | with_reducible exact sim_carith _ _ _ _ | with_reducible refine SimT.bind ?_ (fun _ => ?_) | with_reducible refine SimT.ite ?_ ?_ | split | (extract_lets; skip) | dsimp only)
theorem sim_csub (a b : Nat) : SimU P F' fz (Op.Complex.sub a b) := by
  unfold Op.Complex.sub
  repeat' (first | with_reducible exact sim_carith _ _ _ _ | with_reducible refine SimT.bind ?_ (fun _ => ?_) | with_reducible refine SimT.ite ?_ ?_ | split | (extract_lets; skip) | dsimp only)
theorem sim_cmul (a b : Nat) : SimU P F' fz (Op.Complex.mul a b) := by
  unfold Op.Complex.mul
  repeat' (first | with_reducible exact sim_carith _ _ _ _ | with_reducible refine SimT.bind ?_ (fun _ => ?_) | with_reducible refine SimT.ite ?_ ?_ | split | (extract_lets; skip) | dsimp only)
theorem sim_cquo (a b : Nat) : SimU P F' fz (Op.Complex.quo a b) := by
  unfold Op.Complex.quo
  repeat' (first | with_reducible exact sim_carith _ _ _ _ | with_reducible refine SimT.bind ?_ (fun _ => ?_) | with_reducible refine SimT.ite ?_ ?_ | split | (extract_lets; skip) | dsimp only)
theorem sim_cproduct (a b c d : Nat) : SimU P F' fz (Op.Complex.product a b c d) := by
  unfold Op.Complex.product
  repeat' (first | with_reducible exact sim_cmul _ _ | with_reducible exact sim_cadd _ _ | with_reducible exact sim_csub _ _ | with_reducible exact sim_pure _ | with_reducible refine SimT.bind ?_ (fun _ => ?_) | with_reducible refine SimT.ite ?_ ?_ | split | dsimp only)
theorem sim_ccorrected (e a b c d : Nat) : SimU P F' fz (Op.Complex.corrected e a b c d) := by
  unfold Op.Complex.corrected
  repeat' (first | with_reducible exact sim_cmul _ _ | with_reducible exact sim_cadd _ _ | with_reducible exact sim_csub _ _ | with_reducible exact sim_pure _ | with_reducible refine SimT.bind ?_ (fun _ => ?_) | with_reducible refine SimT.ite ?_ ?_ | split | dsimp only)
theorem sim_cquotient (a b c d : Nat) : SimU P F' fz (Op.Complex.quotient a b c d) := by
  unfold Op.Complex.quotient
  repeat' (first | with_reducible exact sim_ccorrected _ _ _ _ _ | with_reducible exact sim_cmul _ _ | with_reducible exact sim_cadd _ _ | with_reducible exact sim_csub _ _ | with_reducible exact sim_cquo _ _ | with_reducible exact sim_ccmp _ _ _ _ | with_reducible exact sim_pure _ | with_reducible refine SimT.bind ?_ (fun _ => ?_) | with_reducible refine SimT.ite ?_ ?_ | split | dsimp only)
theorem sim_complexOp (op : BinOp) (k : FloatKind) (a b c d : Nat) : SimU P F' fz (Op.complexOp op k a b c d) := by
  unfold Op.complexOp
  repeat' (first | with_reducible exact sim_cproduct _ _ _ _ | with_reducible exact sim_cquotient _ _ _ _ | with_reducible exact sim_ccmp _ _ _ _ | with_reducible exact sim_carith _ _ _ _ | with_reducible exact sim_cconv _ _ _ | with_reducible exact sim_pure _ | with_reducible exact sim_stuck _ | with_reducible refine SimT.bind ?_ (fun _ => ?_) | with_reducible refine SimT.ite ?_ ?_ | split | dsimp only)
theorem sim_movedPointer (t : TypeId) (x y : Value) : SimU P F' fz (movedPointer t x y) := by
  unfold movedPointer
  repeat' (first | with_reducible exact sim_unsafeAddV _ _ _ _ | with_reducible exact sim_numberAt _ | with_reducible exact sim_unsupported _ | with_reducible refine SimT.bind ?_ (fun _ => ?_) | with_reducible refine SimT.ite ?_ ?_ | split | (extract_lets; skip) | dsimp only)
/-- Types whose values are compared without a look at memory. -/
def plainType (P : Program) (t : TypeId) : Bool := match P.underlying t with | some (.int _) | some .bool | some .string => true | _ => false
theorem sim_equal (t : TypeId) (x y : Value) (h : plainType P t = true) : SimU P F' fz (Op.equal t x y) := by
  unfold Op.equal
  unfold plainType at h
  split at h
  · exact sim_equalIn_int 9999 t _ x y (by assumption)
  · exact sim_equalIn_bool 9999 t x y (by assumption)
  · exact sim_equalIn_string 9999 t x y (by assumption)
  · cases h
end
end Go.Goes

-- SimMore
/-
  More operations that do the same in both: '==' on structs of numbers,
  conversions between whole numbers, nilCheck.
-/
namespace Go.Goes
set_option linter.unusedVariables false
section
variable {P : Program} {F' : Array Func} {fz : Bool}

/-! ## '==' on a struct of plain types -/
theorem tw_alike : ∀ (d : Nat) (t u : TypeId), (tw P F').alikeButTags d t u = P.alikeButTags d t u
  | 0, _, _ => rfl
  | d + 1, t, u => by
    have ih : (tw P F').alikeButTags d = P.alikeButTags d := by funext t u; exact tw_alike d t u
    unfold Program.alikeButTags
    rw [ih]
    try rfl
theorem tw_stoodInAs (t : TypeId) : (tw P F').stoodInAs t = P.stoodInAs t := by
  unfold Program.stoodInAs
  have e : (tw P F').alikeButTags (tw P F').depth = P.alikeButTags P.depth := by funext a b; exact tw_alike P.depth a b
  rw [e]
  rfl
theorem tw_stoodInHeld (t : TypeId) : (tw P F').stoodInHeld t = P.stoodInHeld t := by
  unfold Program.stoodInHeld
  rw [tw_stoodInAs]
  try rfl

/-- Structs of plain types. -/
def plainStruct (P : Program) (t : TypeId) : Bool := match P.underlying t with | some (.struct fs) => fs.all fun f => plainType P f.type | _ => false
def plainEq (P : Program) (t : TypeId) : Bool := plainType P t || plainStruct P t
theorem sim_equalIn_plain (d : Nat) (t : TypeId) (x y : Value) (h : plainType P t = true) : SimU P F' fz (Op.equalIn (d + 1) t x y) := by
  unfold plainType at h
  split at h
  · exact sim_equalIn_int d t _ x y (by assumption)
  · exact sim_equalIn_bool d t x y (by assumption)
  · exact sim_equalIn_string d t x y (by assumption)
  · cases h
theorem sim_listForInMem {α β : Type} (f : α → β → Sem (ForInStep β)) : ∀ (l : List α) (hf : ∀ a ∈ l, ∀ b, SimU P F' fz (f a b)) (b : β), SimU P F' fz (forIn l b f)
  | [], _, b => by rw [List.forIn_nil]; exact sim_pure _
  | a :: l, hf, b => by
    rw [List.forIn_cons]
    refine SimT.bind (hf a (List.mem_cons_self ..) b) (fun s => ?_)
    cases s with
    | done b => exact sim_pure _
    | yield b => exact sim_listForInMem f l (fun a ha => hf a (List.mem_cons_of_mem _ ha)) b
theorem sim_arrayForInMem {α β : Type} (f : α → β → Sem (ForInStep β)) (l : Array α) (hf : ∀ a ∈ l, ∀ b, SimU P F' fz (f a b)) (b : β) : SimU P F' fz (forIn l b f) := by
  rw [← Array.forIn_toList]; exact sim_listForInMem f _ (fun a ha => hf a (Array.mem_toList_iff.1 ha)) _
theorem sim_equalIn_struct (d : Nat) (t : TypeId) (fs : Array Field) (x y : Value) (h : P.underlying t = some (.struct fs)) (hf : ∀ f ∈ fs, plainType P f.type = true) : SimU P F' fz (Op.equalIn (d + 1 + 1) t x y) := by
  rw [Op.equalIn]
  refine (sim_under t _ h).bindQ (fun d' hd => ?_)
  subst hd
  dsimp only
  split <;> first | exact sim_pure _ | exact sim_stuck _ | exact sim_unsupported _ | contradiction | skip
  rename_i e
  cases e
  refine sim_prog ?_ ?_
  · rw [tw_stoodInHeld]
  have tail : ∀ (m : Sem Bool), SimU P F' fz m → SimU P F' fz (if P.stoodInHeld t = true then (unsupported (Unsupported.noEntry "binop/eql.a struct with addresses of a package that the model stands in for") >>= fun (_ : Unit) => m) else m) := fun m hm => by
    split
    · exact SimT.bind (sim_unsupported _) (fun _ => hm)
    · exact hm
  refine tail _ ?_
  refine SimT.bind (sim_arrayForInMem _ _ (fun f hfm b => ?_) _) (fun _ => ?_)
  · refine SimT.ite ?_ (sim_pure _)
    refine SimT.bind (sim_part _ _ _) (fun _ => SimT.bind (sim_part _ _ _) (fun _ => SimT.bind (sim_equalIn_plain d _ _ _ (hf f hfm)) (fun _ => ?_)))
    split <;> exact sim_pure _
  · split <;> exact sim_pure _
theorem sim_equalMore (t : TypeId) (x y : Value) (h : plainEq P t = true) : SimU P F' fz (Op.equal t x y) := by
  unfold plainEq plainStruct at h
  rw [Bool.or_eq_true] at h
  rcases h with h | h
  · exact sim_equal t x y h
  · unfold Op.equal
    split at h
    · rename_i fs hu
      exact sim_equalIn_struct 9998 t fs x y hu (fun f hf => Array.all_eq_true_iff_forall_mem.1 h f hf)
    · cases h
theorem sim_binOpMore (op : BinOp) (t : TypeId) (x y : Value) (h : (op ≠ .eql ∧ op ≠ .neq) ∨ plainEq P t = true) : SimU P F' fz (binOp op t x y) := by
  unfold binOp
  split
  all_goals first
    | exact sim_shift _ _ _ _ _
    | exact sim_stringOp _ _ _
    | exact sim_movedNumber _ _ _
    | exact sim_unsupported _
    | exact sim_stuck _
    | exact SimT.ite (sim_stuck _) (sim_complexOp _ _ _ _ _ _)
    | (refine SimT.ite (sim_stuck _) ?_; split <;> first | exact sim_intArith _ _ _ _ | exact sim_intDiv _ _ _ _ | exact sim_intBits _ _ _ _ | exact sim_intCmp _ _ _ | exact sim_floatArith _ _ _ _ | exact sim_floatCmp _ _ _ _)
    | exact SimT.bind (sim_equalMore t _ _ (h.resolve_left (by simp))) (fun _ => sim_pure _)
    | exact SimT.bind (sim_behindNumber _) (fun _ => SimT.bind (sim_behindNumber _) (fun _ => sim_addrSub _ _ _))
    | exact SimT.bind (sim_behindNumber _) (fun _ => SimT.bind (sim_behindNumber _) (fun _ => sim_addrCmp _ _ _))
    | exact SimT.bind (sim_behindNumber _) (fun _ => sim_addrMod _ _ _)
    | (refine SimT.bind (sim_underlying _) (fun _ => ?_); split <;> (try split) <;> first | exact sim_movedPointer _ _ _ | exact sim_movedNumber _ _ _)

/-! ## Conversions between whole numbers -/
def intType (P : Program) (t : TypeId) : Bool := match P.underlying t with | some (.int _) => true | _ => false
theorem sim_floatToInt (s : FloatKind) (b : Nat) (k : IntKind) : SimU P F' fz (Conv.floatToInt s b k) := by
  unfold Conv.floatToInt
  dsimp only
  split
  · refine SimT.ite (sim_pure _) (SimT.bind (sim_choose _) (fun _ => sim_pure _))
  · exact SimT.bind (sim_choose _) (fun _ => sim_pure _)
theorem sim_convert (s d : TypeId) (x : Value) (hs : intType P s = true) (hd : intType P d = true) : SimU P F' fz (convert s d x) := by
  unfold intType at hs hd
  split at hs <;> try (cases hs; done)
  split at hd <;> try (cases hd; done)
  rename_i k1 h1 _ k2 h2
  unfold convert
  refine (sim_under s _ h1).bindQ (fun a ha => ?_)
  refine (sim_under d _ h2).bindQ (fun b hb => ?_)
  subst ha hb
  split <;> first | exact sim_pure _ | exact sim_stuck _ | exact sim_unsupported _ | contradiction | (unfold Conv.intToInt; exact sim_pure _) | exact sim_floatToInt _ _ _ | skip

/-! ## nilCheck -/
theorem sim_followBlind : ∀ (l : List FieldStep) (t : TypeId) (x : Option Value), SimU P F' fz (followBlind l t x)
  | [], t, x => by unfold followBlind; exact sim_pure _
  | a :: l, t, x => by
    unfold followBlind
    refine SimT.bind (sim_underlying _) (fun u => ?_)
    split
    · split
      · split <;> first | exact sim_pure _ | exact sim_followBlind l _ _ | exact sim_stuck _ | exact SimT.bind (sim_part _ _ _) (fun _ => sim_followBlind l _ _)
      · exact sim_stuck _
    · exact sim_stuck _
theorem sim_nilAhead : ∀ (n : Nat) (t : TypeId) (v : Value) (s : String), SimU P F' fz (nilAhead n t v s)
  | 0, _, _, _ => by unfold nilAhead; exact sim_pure _
  | n + 1, t, v, s => by
    unfold nilAhead
    refine SimT.bind (sim_typeInfo _) (fun i => ?_)
    split
    · refine SimT.bind (sim_followBlind _ _ _) (fun r => ?_)
      split
      · exact sim_pure _
      · split <;> first | exact sim_nilAhead n _ _ _ | exact sim_pure _ | exact sim_stuck _ | (refine SimT.bind (sim_underlying _) (fun _ => ?_); split <;> exact sim_pure _)
    · exact sim_stuck _
end
end Go.Goes

-- SimFn
/-
  Operations, functions and programs that do the same in both.
-/
namespace Go.Goes
set_option linter.unusedVariables false
section
variable {P : Program} {F' : Array Func} {fz : Bool}
theorem sim_share {β : Type} {Q : β → Prop} {a b c : Nat} {d : Option Addr} {v : Value} {f : Bool → Sem β} (hd : ∀ r, Dead (f r)) (hc : ∀ P, ∀ r, Calm P Q (f r)) : SimT P F' fz Q (Builtin.mayShare a b c d v >>= f) :=
  .dead _ (Dead.bind _ hd) (fun P => Calm.bind (calm_mayShare _ _ _ _ _) (hc P))
set_option maxHeartbeats 8000000 in
theorem sim_append (ts : Array TypeId) (t : TypeId) (vs : Array Value) : SimU P F' fz (Builtin.append_ ts t vs) := by
  unfold Builtin.append_
  repeat' (first | exact Dead.halt _ | exact Dead.mark _ _ (Dead.halt _) | exact Calm.halt _ trivial | exact Calm.mark _ _ ⟨by simp, by simp⟩ (Calm.halt _ trivial) | with_reducible exact sim_pure _ | with_reducible exact sim_stuck _ | with_reducible exact sim_unsupported _ | with_reducible exact sim_runtimePanic _ | with_reducible exact sim_underlying _ | with_reducible exact sim_sizeOf _ | with_reducible exact sim_typeInfo _ | with_reducible exact sim_zeroValue _ | with_reducible exact sim_asInt _ | with_reducible exact sim_lenOf _ | with_reducible exact sim_firstCells _ _ _ | with_reducible exact sim_storeCells _ _ _ | with_reducible exact sim_noRoom | with_reducible exact sim_choose _ | with_reducible exact sim_askRoom _ | with_reducible exact sim_newRow _ _ | with_reducible refine sim_share (fun r => ?_) (fun P0 r => ?_) | with_reducible refine SimT.bind ?_ (fun _ => ?_) | with_reducible refine SimT.ite ?_ ?_ | split | (extract_lets; skip) | dsimp only)

theorem sim_value {m : Sem Value} {F : FuncId → Prop} (h : SimU P F' fz m) : SimT P F' fz (okNext F) (do Pure.pure (Next.value (← m)) : Sem Next) := h.bindQ (fun _ _ => .pure _ trivial)
theorem sim_unit {m : Sem Unit} {F : FuncId → Prop} (h : SimU P F' fz m) : SimT P F' fz (okNext F) (do m; Pure.pure Next.skip : Sem Next) := h.bindQ (fun _ _ => .pure _ trivial)

/-- Operations that do the same in both. -/
def simOpB (P : Program) (fs : List FuncId) (o : Oper) : Bool :=
  match o.op with
  | .move _ | .assign _ | .pick .. | .alloc _ | .box .. | .build .. | .buildSlice .. | .load .. | .store .. | .unOp .. | .makeSlice .. | .fieldAddr .. | .field .. | .indexAddr .. | .index .. | .extract .. | .makeChan .. | .makeFunc .. => true
  | .binOp op t _ _ _ => (op != .eql && op != .neq) || plainEq P t
  | .convert s d _ => intType P s && intType P d
  | .nilCheck _ => true
  | .call { callee := .value (.func f), args := as, .. } => fs.contains f && (P.funcs[f]?).any fun fn => fn.body.isSome && fn.name != "runtime.NumGoroutine" && as.size == fn.params.size
  | .call { callee := .builtin .len, .. } | .call { callee := .builtin .append, .. } => true
  | _ => false
/-- The two functions of one number look alike from without. -/
def Alike (P : Program) (F' : Array Func) (fs : List FuncId) : Prop := ∀ f, f ∈ fs → ∀ fn, P.funcs[f]? = some fn → ∃ fn', F'[f]? = some fn' ∧ fn'.body.isSome = fn.body.isSome ∧ (fn'.name == "runtime.NumGoroutine") = (fn.name == "runtime.NumGoroutine")

theorem sim_callFunc {F : FuncId → Prop} {f : FuncId} {fn fn' : Func} (h : P.funcs[f]? = some fn) (hb : fn.body.isSome = true) (hn : (fn.name == "runtime.NumGoroutine") = false) (h' : F'[f]? = some fn') (hb' : fn'.body.isSome = fn.body.isSome) (hn' : (fn'.name == "runtime.NumGoroutine") = (fn.name == "runtime.NumGoroutine")) (hF : F f) (args : Array Value) : SimT P F' fz (okNext F) (callFunc f args) := by
  unfold callFunc
  have e1 : fn.body.isNone = false := by cases e : fn.body <;> simp_all
  have e2 : fn'.body.isNone = false := by rw [hb] at hb'; cases e : fn'.body <;> simp_all
  have e3 : (fn'.name == "runtime.NumGoroutine") = false := hn'.trans hn
  refine SimT.program _ ?_ ?_
  · show (match F'[f]? with | none => stuck "call: no such function" | some fn => _) = (match P.funcs[f]? with | none => stuck "call: no such function" | some fn => _)
    rw [h, h']
    simp only [hn, e1, e2, e3]
    rfl
  · show SimT P F' fz (okNext F) (match P.funcs[f]? with | none => stuck "call: no such function" | some fn => _)
    rw [h]
    simp only [hn, e1]
    exact .pure _ hF

theorem simOp_of {fs : List FuncId} (hA : Alike P F' fs) {o : Oper} (h : simOpB P fs o = true) (ρ : Operand → Value) (hρ : ∀ f, ρ (.func f) = .func (.func f) #[] #[]) : SimT P F' fz (okNext (· ∈ fs)) (execOp ρ o) := by
  unfold simOpB at h
  unfold execOp
  obtain ⟨dst, op, type, pos, after, guard⟩ := o
  dsimp only at h ⊢
  cases op <;> dsimp only at h ⊢ <;> try (cases h; done)
  case move x => exact .pure _ trivial
  case assign x => exact .pure _ trivial
  case pick c a b => exact SimT.bind (sim_asBool _) (fun _ => .pure _ trivial)
  case alloc t => exact sim_value (sim_alloc _ _ _)
  case box t x => exact sim_value (sim_box _ _)
  case build t ps => exact sim_value (sim_build _ _)
  case buildSlice t n ps => exact sim_value (sim_buildSlice _ _ _)
  case load t a => exact sim_value (sim_loadAt _ _)
  case store t a x => exact sim_unit (sim_storeAt _ _ _)
  case binOp op t x y t2 =>
    refine sim_value (SimT.bind (sim_eqGuard _ _ _ _ _ _) (fun _ => sim_binOpMore _ _ _ _ ?_))
    rw [Bool.or_eq_true, Bool.and_eq_true] at h
    rcases h with ⟨h1, h2⟩ | h
    · refine .inl ⟨?_, ?_⟩
      · rintro rfl; exact absurd h1 (by decide)
      · rintro rfl; exact absurd h2 (by decide)
    · exact .inr h
  case convert s d x =>
    rw [Bool.and_eq_true] at h
    exact sim_value (sim_convert _ _ _ h.1 h.2)
  case nilCheck x =>
    split
    all_goals first
      | exact sim_runtimePanic _
      | exact .pure _ trivial
      | skip
    split
    all_goals first
      | exact sim_runtimePanic _
      | exact .pure _ trivial
      | skip
    refine sim_prog rfl (SimT.bind (sim_nilAhead _ _ _ _) (fun b => ?_))
    split
    · exact SimT.bind (sim_unsupported _) (fun _ => .pure _ trivial)
    · exact .pure _ trivial
  case unOp op t x => exact sim_value (sim_unary _ _)
  case makeSlice t l c => exact sim_value (sim_makeSlice _ _ _)
  case makeChan t l => exact sim_value (sim_makeChan _ _)
  case makeFunc fn a b => exact sim_value (sim_makeFunc _ _ _)
  case fieldAddr s x f => exact sim_value (sim_fieldAt _ _ _)
  case field t x f => exact sim_value (sim_field _ _ _)
  case indexAddr t x i => exact sim_value (sim_indexAt _ _ _)
  case index t x i => exact sim_value (sim_index _ _ _)
  case extract t i => exact sim_value (sim_extract _ _)
  case call c =>
    obtain ⟨callee, args, argTypes⟩ := c
    cases callee with
    | builtin b =>
      cases b <;> dsimp only at h <;> try (cases h; done)
      case append => exact sim_value (sim_append _ _ _)
      case len => exact sim_value (sim_len _ _ _)
    | invoke r n => cases h
    | value x =>
      cases x <;> dsimp only at h <;> try (cases h; done)
      case func f =>
        rw [Bool.and_eq_true] at h
        obtain ⟨h1, h2⟩ := h
        cases hf : P.funcs[f]? with
        | none => rw [hf] at h2; cases h2
        | some fn =>
          rw [hf] at h2
          simp only [Option.any_some, Bool.and_eq_true, bne, Bool.not_eq_true'] at h2
          have e : resolve ρ { callee := .value (.func f), args := args, argTypes := argTypes } type = Pure.pure { target := .fn (.func f) #[], args := #[] ++ args.map ρ } := by
            unfold resolve; simp only [hρ]; rfl
          rw [e]
          show SimT P F' fz _ (callFunc f ((#[] ++ args.map ρ) ++ #[]))
          obtain ⟨fn', a1, a2, a3⟩ := hA f (by simpa using h1) fn hf
          exact sim_callFunc hf h2.1.1 h2.1.2 a1 a2 a3 (by simpa using h1) _
end
end Go.Goes

-- SimFar
/-
  Worlds that are alike, and memory seen as another type in them.
-/
namespace Go.Goes
set_option linter.unusedVariables false
section
variable {P : Program} {F' : Array Func} {fz : Bool}
theorem tw_plainCell : ∀ (d : Nat) (t : TypeId) (o : Nat), plainCell (tw P F') d t o = plainCell P d t o
  | 0, _, _ => rfl
  | d + 1, t, o => by
    unfold plainCell
    rw [tw_underlying]
    cases P.underlying t with
    | none => rfl
    | some x => cases x <;> simp only [tw_plainCell d] <;> rfl
theorem tw_cellHolding : ∀ (d : Nat) (t : TypeId) (o : Nat), cellHolding (tw P F') d t o = cellHolding P d t o
  | 0, _, _ => rfl
  | d + 1, t, o => by
    unfold cellHolding
    rw [tw_underlying]
    cases P.underlying t with
    | none => rfl
    | some x => cases x <;> simp only [tw_cellHolding d] <;> rfl
theorem tw_tight : ∀ (d : Nat) (t : TypeId), tight (tw P F') d t = tight P d t
  | 0, _ => rfl
  | d + 1, t => by
    unfold tight
    rw [tw_underlying]
    cases P.underlying t with
    | none => rfl
    | some x => cases x <;> simp only [tw_tight d] <;> rfl
theorem tw_seenCells (c : Array Value) (e : TypeId) : ∀ (f x stop : Nat), seenCells (tw P F') c e f x stop = seenCells P c e f x stop
  | 0, _, _ => rfl
  | f + 1, x, stop => by
    unfold seenCells
    simp only [tw_cellHolding, tw_seenCells c e f]
    rfl

/-- Blocks that are alike: the same; channels without a buffer; or (fz = false) the same cells, less frozen. -/
def ORel (fz : Bool) (o o' : Obj) : Prop :=
  o' = o ∨ (∃ cl s r tm cl' s' r', o = .chan 0 #[] cl s r tm ∧ o' = .chan 0 #[] cl' s' r' tm) ∨ (fz = false ∧ ∃ c e f f', o = .cells c e f ∧ o' = .cells c e f' ∧ ∀ i : Nat, f'.1 ≤ i → i < f'.2 → f.1 ≤ i ∧ i < f.2)
structure Vr (fz : Bool) (x u : World) : Prop where
  os : u.os = x.os
  output : u.output = x.output
  size : u.heap.size = x.heap.size
  block : ∀ (k : Nat) (o : Obj), x.heap[k]? = some o → ∃ o', u.heap[k]? = some o' ∧ ORel fz o o'
theorem Vr.refl (fz : Bool) (x : World) : Vr fz x x := ⟨rfl, rfl, rfl, fun _ o h => ⟨o, h, .inl rfl⟩⟩
theorem Vr.cells {x u : World} (h : Vr fz x u) {k : Nat} {c : Array Value} {e : TypeId} {f : Nat × Nat} (hx : x.heap[k]? = some (.cells c e f)) : ∃ f', u.heap[k]? = some (.cells c e f') ∧ ∀ i : Nat, f'.1 ≤ i → i < f'.2 → f.1 ≤ i ∧ i < f.2 := by
  obtain ⟨o', h1, h2 | ⟨_, _, _, _, _, _, _, h2, _⟩ | ⟨_, c', e', f1, f2, h2, h3, h4⟩⟩ := h.block k _ hx
  · exact ⟨f, by rw [h1, h2], fun i a b => ⟨a, b⟩⟩
  · cases h2
  · cases h2; exact ⟨f2, by rw [h1, h3], h4⟩
theorem Vr.other {x u : World} (h : Vr fz x u) {k : Nat} {o : Obj} (hx : x.heap[k]? = some o) (hc : ∀ c e f, o ≠ .cells c e f) : ∃ o', u.heap[k]? = some o' ∧ (o' = o ∨ ∃ cl s r tm cl' s' r', o = .chan 0 #[] cl s r tm ∧ o' = .chan 0 #[] cl' s' r' tm) := by
  obtain ⟨o', h1, h2 | h2 | ⟨_, c', e', f1, f2, h2, _⟩⟩ := h.block k _ hx
  · exact ⟨o', h1, .inl h2⟩
  · exact ⟨o', h1, .inr h2⟩
  · exact absurd h2 (hc _ _ _)
theorem Vr.none {x u : World} (h : Vr fz x u) {k : Nat} (hx : x.heap[k]? = Option.none) : u.heap[k]? = Option.none := by
  rw [Array.getElem?_eq_none_iff] at hx ⊢; rw [h.size]; exact hx
theorem Vr.cell {x u : World} (h : Vr fz x u) (a : Addr) : u.cell? a = x.cell? a := by
  unfold World.cell?
  cases hx : x.heap[a.block]? with
  | none => rw [h.none hx]
  | some o =>
    by_cases hc : ∃ c e f, o = .cells c e f
    · obtain ⟨c, e, f, rfl⟩ := hc
      obtain ⟨f', h1, _⟩ := h.cells hx
      rw [h1]
    · obtain ⟨o', h1, h2 | ⟨_, _, _, _, _, _, _, h2, h3⟩⟩ := h.other hx (fun c e f h => hc ⟨c, e, f, h⟩)
      · rw [h1, h2]
      · rw [h1, h2, h3]
theorem Vr.shape {x u : World} (h : Vr fz x u) (r : Nat) : u.shape? r = x.shape? r := by
  unfold World.shape?
  cases hx : x.heap[r]? with
  | none => rw [h.none hx]
  | some o =>
    by_cases hc : ∃ c e f, o = .cells c e f
    · obtain ⟨c, e, f, rfl⟩ := hc
      obtain ⟨f', h1, _⟩ := h.cells hx
      rw [h1]
    · obtain ⟨o', h1, h2 | ⟨_, _, _, _, _, _, _, h2, h3⟩⟩ := h.other hx (fun c e f h => hc ⟨c, e, f, h⟩)
      · rw [h1, h2]
      · rw [h1, h2, h3]
theorem Vr.frozen {x u : World} (h : Vr true x u) (a : Addr) : u.frozen? a = x.frozen? a := by
  unfold World.frozen?
  cases hx : x.heap[a.block]? with
  | none => rw [h.none hx]
  | some o =>
    obtain ⟨o', h1, h2 | ⟨_, _, _, _, _, _, _, h2, h3⟩ | ⟨h2, _⟩⟩ := h.block _ _ hx
    · rw [h1, h2]
    · rw [h1, h2, h3]
    · cases h2
theorem Vr.thawed {x u : World} (h : Vr fz x u) {a : Addr} (hf : x.frozen? a = false) : u.frozen? a = false := by
  unfold World.frozen? at hf ⊢
  cases hx : x.heap[a.block]? with
  | none => rw [h.none hx]
  | some o =>
    by_cases hc : ∃ c e f, o = .cells c e f
    · obtain ⟨c, e, f, rfl⟩ := hc
      obtain ⟨f', h1, h2⟩ := h.cells hx
      rw [h1]
      rw [hx] at hf
      simp only [Bool.and_eq_false_iff, decide_eq_false_iff_not] at hf ⊢
      have := h2 a.off
      omega
    · obtain ⟨o', h1, h2 | ⟨_, _, _, _, _, _, _, h2, h3⟩⟩ := h.other hx (fun c e f h => hc ⟨c, e, f, h⟩)
      · rw [h1, h2]; cases o <;> first | rfl | exact absurd ⟨_, _, _, rfl⟩ hc
      · rw [h1, h3]
end
end Go.Goes

-- SimRun
/-
  Where the reference's run is ok, the follower's is the same.
-/
namespace Go.Goes
set_option linter.unusedVariables false
section
variable {P : Program} {F' : Array Func} {fz : Bool}
theorem tw_depth : (tw P F').depth = P.depth := rfl
theorem tw_cellsOf (t : TypeId) : (tw P F').cellsOf t = P.cellsOf t := rfl
theorem tw_bytesOf (t : TypeId) : (tw P F').bytesOf t = P.bytesOf t := rfl
/-- The frozen part put anew. -/
def reFz (f' : Nat × Nat) (y : Array Value × TypeId × (Nat × Nat) × Nat × Value × List (Nat × Nat × List UInt8)) : Array Value × TypeId × (Nat × Nat) × Nat × Value × List (Nat × Nat × List UInt8) := (y.1, y.2.1, f', y.2.2.2)
theorem seen_rel {x u : World} {at_ k : Addr} {t : TypeId} {b : Bool} {c : Array Value} {e : TypeId} {f f' : Nat × Nat} (hx : x.heap[at_.block]? = some (.cells c e f)) (hu : u.heap[at_.block]? = some (.cells c e f')) :
    u.seen P at_ t k b = (x.seen (tw P F') at_ t k b).map (reFz f') := by
  unfold World.seen
  simp only [hx, hu, tw_plainCell, tw_byteOfCell, tw_seenCells, tw_depth, tw_cellsOf, tw_bytesOf]
  by_cases h1 : (k.spot.isSome || at_.spot.isSome) = true
  · simp only [h1, if_true]; rfl
  · simp only [h1, if_false, Bool.false_eq_true]
    cases plainCell P P.depth t k.off with
    | none => rfl
    | some like =>
      cases h2 : Option.map (fun x => List.length x) like.bytes? with
      | none => simp only [h2]; rfl
      | some size =>
        simp only [h2]
        cases byteOfCell P P.depth t k.off with
        | none => rfl
        | some β =>
          dsimp only
          by_cases h3 : P.cellsOf e = 0
          · simp only [h3, if_true]; rfl
          · simp only [h3, if_false]
            cases byteOfCell P P.depth e (at_.off % P.cellsOf e) with
            | none => rfl
            | some b0 =>
              dsimp only [bind, Except.bind, pure, Except.pure]
              cases seenCells P c e (size + 1) (at_.off / P.cellsOf e * P.bytesOf e + b0 + β) (at_.off / P.cellsOf e * P.bytesOf e + b0 + β + size) with
              | error z => rfl
              | ok cells =>
                dsimp only
                cases b with
                | false => rfl
                | true =>
                  simp only [if_true]
                  rcases cells with _ | ⟨⟨i, s, bs⟩, _ | ⟨y, l⟩⟩
                  · rfl
                  · by_cases h5 : (decide (s ≠ at_.off / P.cellsOf e * P.bytesOf e + b0 + β) || decide (bs.length ≠ size)) = true
                    · show (if (decide (s ≠ at_.off / P.cellsOf e * P.bytesOf e + b0 + β) || decide (bs.length ≠ size)) = true then _ else _) = Except.map (reFz f') (if (decide (s ≠ at_.off / P.cellsOf e * P.bytesOf e + b0 + β) || decide (bs.length ≠ size)) = true then _ else _)
                      rw [if_pos h5, if_pos h5]; rfl
                    · show (if (decide (s ≠ at_.off / P.cellsOf e * P.bytesOf e + b0 + β) || decide (bs.length ≠ size)) = true then _ else _) = Except.map (reFz f') (if (decide (s ≠ at_.off / P.cellsOf e * P.bytesOf e + b0 + β) || decide (bs.length ≠ size)) = true then _ else _)
                      rw [if_neg h5, if_neg h5]; rfl
                  · rfl
theorem seen_none {x : World} {at_ k : Addr} {t : TypeId} {b : Bool} {y : Array Value × TypeId × (Nat × Nat) × Nat × Value × List (Nat × Nat × List UInt8)} (hx : ∀ c e f, x.heap[at_.block]? ≠ some (.cells c e f)) (h : x.seen P at_ t k b = .ok y) : False := by
  unfold World.seen at h
  by_cases h1 : (k.spot.isSome || at_.spot.isSome) = true
  · simp only [h1, if_true] at h; cases h
  · simp only [h1, if_false, Bool.false_eq_true] at h
    cases h2 : plainCell P P.depth t k.off with
    | none => rw [h2] at h; cases h
    | some like =>
      rw [h2] at h
      dsimp only [bind, Except.bind, pure, Except.pure] at h
      cases h3 : Option.map (fun x => List.length x) like.bytes? with
      | none => simp only [h3] at h; cases h
      | some size =>
        simp only [h3] at h
        cases h4 : byteOfCell P P.depth t k.off with
        | none => simp only [h4] at h; cases h
        | some β =>
          simp only [h4] at h
          cases h
theorem seen_is {x : World} {at_ k : Addr} {t : TypeId} {b : Bool} {c : Array Value} {e : TypeId} {f : Nat × Nat} {y : Array Value × TypeId × (Nat × Nat) × Nat × Value × List (Nat × Nat × List UInt8)} (hx : x.heap[at_.block]? = some (.cells c e f)) (h : x.seen P at_ t k b = .ok y) : y.1 = c ∧ y.2.1 = e ∧ y.2.2.1 = f := by
  unfold World.seen at h
  by_cases h1 : (k.spot.isSome || at_.spot.isSome) = true
  · simp only [h1, if_true] at h; cases h
  · simp only [h1, if_false, Bool.false_eq_true, hx] at h
    cases h2 : plainCell P P.depth t k.off with
    | none => rw [h2] at h; cases h
    | some like =>
      rw [h2] at h
      dsimp only [bind, Except.bind, pure, Except.pure] at h
      cases h3 : Option.map (fun x => List.length x) like.bytes? with
      | none => simp only [h3] at h; cases h
      | some size =>
        simp only [h3] at h
        cases h4 : byteOfCell P P.depth t k.off with
        | none => simp only [h4] at h; cases h
        | some β =>
          simp only [h4] at h
          by_cases h5 : P.cellsOf e = 0
          · simp only [h5, if_true] at h; cases h
          · simp only [h5, if_false] at h
            cases h6 : byteOfCell P P.depth e (at_.off % P.cellsOf e) with
            | none => simp only [h6] at h; cases h
            | some b0 =>
              simp only [h6] at h
              cases h7 : seenCells P c e (size + 1) (at_.off / P.cellsOf e * P.bytesOf e + b0 + β) (at_.off / P.cellsOf e * P.bytesOf e + b0 + β + size) with
              | error z => simp only [h7] at h; cases h
              | ok cells =>
                simp only [h7] at h
                cases b with
                | false => simp only [Bool.false_eq_true, if_false] at h; cases h; exact ⟨rfl, rfl, rfl⟩
                | true =>
                  simp only [if_true] at h
                  rcases cells with _ | ⟨⟨i, s, bs⟩, _ | ⟨y, l⟩⟩
                  · cases h
                  · dsimp only at h
                    split at h
                    · cases h
                    · cases h; exact ⟨rfl, rfl, rfl⟩
                  · cases h
theorem isCells (o : Option Obj) : (∃ c e f, o = some (.cells c e f)) ∨ ∀ c e f, o ≠ some (.cells c e f) := by
  by_cases h : ∃ c e f, o = some (.cells c e f)
  · exact .inl h
  · exact .inr (fun c e f hh => h ⟨c, e, f, hh⟩)
theorem viewLoad_rel {x u : World} (h : Vr fz x u) {at_ k : Addr} {t : TypeId} {b : Bool} {r : Value × List Addr} (hx : x.viewLoad (tw P F') at_ t k b = .ok r) : u.viewLoad P at_ t k b = .ok r := by
  rcases isCells x.heap[at_.block]? with ⟨c, e, f, hc⟩ | hc
  · obtain ⟨f', h1, _⟩ := h.cells hc
    unfold World.viewLoad at hx ⊢
    rw [seen_rel (F' := F') hc h1]
    cases hs : x.seen (tw P F') at_ t k b with
    | error z => rw [hs] at hx; cases hx
    | ok y =>
      rw [hs] at hx
      obtain ⟨a1, a2, a3, a4, a5, a6⟩ := y
      exact hx
  · exfalso
    unfold World.viewLoad at hx
    cases hs : x.seen (tw P F') at_ t k b with
    | error z => rw [hs] at hx; cases hx
    | ok y => exact seen_none hc hs
theorem farLoad_rel {x u : World} (h : Vr fz x u) {a : Addr} {b : Bool} {r : Value × List Addr} (hx : x.farLoad (tw P F') a b = .ok r) : u.farLoad P a b = .ok r := by
  unfold World.farLoad at hx ⊢
  cases ho : x.heap[a.block]? with
  | none => rw [ho] at hx; cases hx
  | some o =>
    rw [ho] at hx
    cases o <;> try (cases hx; done)
    case view at_ t =>
      obtain ⟨o', h1, h2 | ⟨_, _, _, _, _, _, _, h2, _⟩⟩ := h.other ho (by intro c e f hh; cases hh)
      · rw [h1, h2]
        dsimp only at hx ⊢
        cases hv : x.viewLoad (tw P F') at_ t a b with
        | error z => rw [hv] at hx; cases hx
        | ok y =>
          rw [hv] at hx
          rw [viewLoad_rel h hv]
          exact hx
      · cases h2
/-- What lies low is sealed: rows that are frozen whole. -/
def Sealed (B : Nat) (x : World) : Prop := B ≤ x.heap.size ∧ ∀ k, k < B → ∀ c e f, x.heap[k]? = some (.cells c e f) → ∀ i, i < c.size → f.1 ≤ i ∧ i < f.2
theorem foldl_frozen {f f' : Nat × Nat} (hf : ∀ i : Nat, f'.1 ≤ i → i < f'.2 → f.1 ≤ i ∧ i < f.2) (first : Nat) (bytes : List UInt8) : ∀ (cells : List (Nat × Nat × List UInt8)) (c c1 : Array Value),
    (cells.foldlM (init := c) fun c (i, s, bs) => (do
      if s < first || s + bs.length > first + bytes.length then MonadExcept.throw "memory seen as another type: a part of a cell written"
      if f.1 ≤ i && i < f.2 then MonadExcept.throw "a write to bytes that a string shares"
      let some old := c[i]? | MonadExcept.throw "memory seen as another type: no such cell"
      let some new := old.ofBytes ((bytes.drop (s - first)).take bs.length) | MonadExcept.throw "memory seen as another type: a bool from a byte other than 0 or 1"
      pure (c.setIfInBounds i new) : Except String (Array Value))) = .ok c1 →
    (cells.foldlM (init := c) fun c (i, s, bs) => (do
      if s < first || s + bs.length > first + bytes.length then MonadExcept.throw "memory seen as another type: a part of a cell written"
      if f'.1 ≤ i && i < f'.2 then MonadExcept.throw "a write to bytes that a string shares"
      let some old := c[i]? | MonadExcept.throw "memory seen as another type: no such cell"
      let some new := old.ofBytes ((bytes.drop (s - first)).take bs.length) | MonadExcept.throw "memory seen as another type: a bool from a byte other than 0 or 1"
      pure (c.setIfInBounds i new) : Except String (Array Value))) = .ok c1 ∧ c1.size = c.size ∧ ∀ y ∈ cells, y.1 < c.size ∧ ¬ (f.1 ≤ y.1 ∧ y.1 < f.2)
  | [], c, c1, h => by
    simp only [List.foldlM_nil] at h ⊢
    cases h
    exact ⟨rfl, rfl, by simp⟩
  | (i, s, bs) :: l, c, c1, h => by
    simp only [List.foldlM_cons] at h ⊢
    by_cases h1 : (decide (s < first) || decide (s + bs.length > first + bytes.length)) = true
    · simp only [h1, if_true] at h; cases h
    · simp only [h1, if_false, Bool.false_eq_true] at h ⊢
      by_cases h2 : (decide (f.1 ≤ i) && decide (i < f.2)) = true
      · simp only [h2, if_true] at h; cases h
      · have h3 : ¬ (decide (f'.1 ≤ i) && decide (i < f'.2)) = true := by
          simp only [Bool.and_eq_true, decide_eq_true_eq] at h2 ⊢
          exact fun hh => h2 (hf i hh.1 hh.2)
        simp only [h2, h3, if_false, Bool.false_eq_true] at h ⊢
        cases h4 : c[i]? with
        | none => rw [h4] at h; cases h
        | some old =>
          rw [h4] at h
          dsimp only [bind, Except.bind, pure, Except.pure] at h ⊢
          cases h5 : old.ofBytes ((bytes.drop (s - first)).take bs.length) with
          | none => rw [h5] at h; cases h
          | some new =>
            rw [h5] at h
            obtain ⟨g1, g2, g3⟩ := foldl_frozen hf first bytes l _ _ h
            rw [Array.size_setIfInBounds] at g2 g3
            refine ⟨g1, g2, fun y hy => ?_⟩
            rcases List.mem_cons.1 hy with rfl | hy
            · refine ⟨(Array.getElem?_eq_some_iff.1 h4).1, fun hh => h2 ?_⟩
              simp only [Bool.and_eq_true, decide_eq_true_eq]; exact hh
            · exact g3 y hy
/-- A store where memory is seen as another type. -/
theorem viewStore_rel {B : Nat} {x u : World} (h : Vr fz x u) (hS : Sealed B x) {at_ k : Addr} {t : TypeId} {v : Value} {b : Bool} {x' : World} {l : List Addr} (hx : x.viewStore (tw P F') at_ t k v b = .ok (x', l)) :
    ∃ (c c' : Array Value) (e : TypeId) (f f' : Nat × Nat), x.heap[at_.block]? = some (.cells c e f) ∧ u.heap[at_.block]? = some (.cells c e f') ∧ c'.size = c.size ∧ x' = { x with heap := x.heap.setIfInBounds at_.block (.cells c' e f) } ∧ (∀ i : Nat, f'.1 ≤ i → i < f'.2 → f.1 ≤ i ∧ i < f.2) ∧
      u.viewStore P at_ t k v b = .ok ({ u with heap := u.heap.setIfInBounds at_.block (.cells c' e f') }, l) ∧ (∀ y ∈ l, y.block = at_.block) ∧ (l ≠ [] → B ≤ at_.block) ∧ (at_.block < B → c' = c) := by
  rcases isCells x.heap[at_.block]? with ⟨c, e, f, hc⟩ | hc
  · obtain ⟨f', h1, h2⟩ := h.cells hc
    unfold World.viewStore at hx ⊢
    rw [seen_rel (F' := F') hc h1, ← tw_tight (F' := F'), show P.depth = (tw P F').depth from rfl]
    by_cases ht : (!tight (tw P F') (tw P F').depth t) = true
    · simp only [ht, if_true] at hx; cases hx
    · simp only [ht, if_false, Bool.false_eq_true] at hx ⊢
      cases hs : x.seen (tw P F') at_ t k b with
      | error z => rw [hs] at hx; cases hx
      | ok y =>
        rw [hs] at hx
        obtain ⟨a1, a2, a3, a4, a5, a6⟩ := y
        obtain ⟨e1, e2, e3⟩ := seen_is hc hs
        dsimp only at e1 e2 e3
        subst e1 e2 e3
        dsimp only [bind, Except.bind, pure, Except.pure, Except.map, reFz] at hx ⊢
        cases hb : v.bytes? with
        | none => rw [hb] at hx; cases hx
        | some bytes =>
          rw [hb] at hx
          dsimp only at hx ⊢
          by_cases hl : some bytes.length ≠ a5.bytes?.map (·.length)
          · simp only [hl, if_true, ne_eq, not_true_eq_false, not_false_eq_true] at hx; cases hx
          · simp only [hl, if_false] at hx ⊢
            split at hx
            · cases hx
            · rename_i c1 hfold
              obtain ⟨g1, g2, g3⟩ := foldl_frozen h2 a4 bytes a6 a1 c1 hfold
              have g1' : List.foldlM _ a1 a6 = Except.ok c1 := g1
              cases hx
              refine ⟨a1, c1, a2, a3, f', hc, h1, g2, rfl, h2, ?_, ?_, ?_, ?_⟩
              · split
                · rename_i z hz; exact absurd (hz.symm.trans g1') (by simp)
                · rename_i c2 hz
                  have : c2 = c1 := by have := hz.symm.trans g1'; simpa using this
                  rw [this]
              · intro y hy
                obtain ⟨z, _, rfl⟩ := List.mem_map.1 hy
                rfl
              · intro hne
                rcases a6 with _ | ⟨z, a6⟩
                · exact absurd rfl hne
                · rcases Nat.lt_or_ge at_.block B with hB | hB
                  · obtain ⟨k1, k2⟩ := g3 z (List.mem_cons_self ..)
                    exact absurd (hS.2 _ hB _ _ _ hc _ k1) k2
                  · exact hB
              · intro hB
                rcases a6 with _ | ⟨z, a6⟩
                · simp only [List.foldlM_nil, pure, Except.pure] at hfold
                  cases hfold; rfl
                · obtain ⟨k1, k2⟩ := g3 z (List.mem_cons_self ..)
                  exact absurd (hS.2 _ hB _ _ _ hc _ k1) k2
  · exfalso
    unfold World.viewStore at hx
    by_cases ht : (!tight (tw P F') (tw P F').depth t) = true
    · simp only [ht, if_true] at hx; cases hx
    · simp only [ht, if_false, Bool.false_eq_true] at hx
      cases hs : x.seen (tw P F') at_ t k b with
      | error z => rw [hs] at hx; cases hx
      | ok y => exact seen_none hc hs
end
end Go.Goes

-- SimMain
/-
  Where the reference's run is ok, the follower's is the same: the theorem.
-/
namespace Go.Goes
open Go.Conc
set_option linter.unusedVariables false
section
variable {P : Program} {F' : Array Func} {fz : Bool}
theorem Vr.set {x u : World} (h : Vr fz x u) (k : Nat) {o o' : Obj} (ho : ORel fz o o') : Vr fz { x with heap := x.heap.setIfInBounds k o } { u with heap := u.heap.setIfInBounds k o' } := by
  refine ⟨h.os, h.output, by simp [h.size], fun j p hp => ?_⟩
  by_cases hj : k = j
  · subst hj
    by_cases hlt : k < x.heap.size
    · rw [Array.getElem?_setIfInBounds_self_of_lt hlt] at hp
      cases hp
      exact ⟨o', by rw [Array.getElem?_setIfInBounds_self_of_lt (by rw [h.size]; exact hlt)], ho⟩
    · rw [Array.getElem?_eq_none (by simpa using hlt)] at hp; cases hp
  · rw [Array.getElem?_setIfInBounds_ne hj] at hp
    obtain ⟨p', h1, h2⟩ := h.block j p hp
    exact ⟨p', by rw [Array.getElem?_setIfInBounds_ne hj]; exact h1, h2⟩
theorem Vr.push {x u : World} (h : Vr fz x u) (o : Obj) : Vr fz { x with heap := x.heap.push o } { u with heap := u.heap.push o } := by
  refine ⟨h.os, h.output, by simp [h.size], fun j p hp => ?_⟩
  rw [Array.getElem?_push] at hp ⊢
  rw [h.size]
  split at hp
  · cases hp; rename_i hj; exact ⟨o, by rw [if_pos hj], .inl rfl⟩
  · rename_i hj
    obtain ⟨p', h1, h2⟩ := h.block j p hp
    exact ⟨p', by rw [if_neg hj]; exact h1, h2⟩
theorem setCell_set {w : World} {a : Addr} {c : Array Value} {e : TypeId} {f : Nat × Nat} (h : w.heap[a.block]? = some (.cells c e f)) (v : Value) : w.setCell a v = { w with heap := w.heap.setIfInBounds a.block (.cells (if a.spot.isSome then c else c.setIfInBounds a.off v) e f) } := by
  unfold World.setCell
  rw [modify_eq_set _ _ _ _ h]
theorem cell_some {w : World} {a : Addr} {v : Value} (h : w.cell? a = some v) : ∃ c e f, w.heap[a.block]? = some (.cells c e f) ∧ a.spot = none ∧ a.off < c.size := by
  unfold World.cell? at h
  split at h
  · rename_i c e f hh
    split at h
    · cases h
    · rename_i hs
      exact ⟨c, e, f, hh, by simpa using hs, (Array.getElem?_eq_some_iff.1 h).1⟩
  · cases h
theorem Sealed.set {B : Nat} {x : World} (h : Sealed B x) {k : Nat} {c c' : Array Value} {e : TypeId} {f : Nat × Nat} (hk : x.heap[k]? = some (.cells c e f)) (hs : c'.size = c.size) : Sealed B { x with heap := x.heap.setIfInBounds k (.cells c' e f) } := by
  refine ⟨by simpa using h.1, fun j hj c2 e2 f2 hc i hi => ?_⟩
  by_cases hkj : k = j
  · subst hkj
    rw [Array.getElem?_setIfInBounds_self_of_lt (Array.getElem?_eq_some_iff.1 hk).1] at hc
    cases hc
    exact h.2 k hj _ _ _ hk i (by omega)
  · rw [Array.getElem?_setIfInBounds_ne hkj] at hc
    exact h.2 j hj _ _ _ hc i hi
theorem Sealed.push {B : Nat} {x : World} (h : Sealed B x) (o : Obj) : Sealed B { x with heap := x.heap.push o } := by
  refine ⟨by have := h.1; simp; omega, fun j hj c e f hc i hi => ?_⟩
  rw [Array.getElem?_push, if_neg (by have := h.1; omega)] at hc
  exact h.2 j hj _ _ _ hc i hi

/-- What is listed anew. -/
def EvS (fz : Bool) (B : Nat) (e : Event) : Prop := Tame e ∧ ∀ y, (MemAct.ofEvent e).touch? = some y → y.write = true → ¬ y.loc.low B ∧ (fz = false → ∀ r, y.loc ≠ .obj r)
theorem evS_read {fz : Bool} (B : Nat) (a : Addr) (b : Bool) : EvS fz B ⟨.cell a, false, b⟩ := ⟨⟨by simp, by simp⟩, fun y hy hw => by cases hy; cases hw⟩
theorem evS_write {fz : Bool} {B : Nat} {a : Addr} (h : B ≤ a.block) (b : Bool) : EvS fz B ⟨.cell a, true, b⟩ := ⟨⟨by simp, by simp⟩, fun y hy hw => by cases hy; exact ⟨by show ¬ a.block < B; omega, fun _ r e => by cases e⟩⟩
theorem evS_obj {fz : Bool} (B : Nat) (r : Nat) (b : Bool) : EvS fz B ⟨.obj r, false, b⟩ := ⟨⟨by simp, by simp⟩, fun y hy hw => by cases hy; cases hw⟩

/-- Where the reference's run is ok the follower's is the same. -/
structure RunsTo (P : Program) (F' : Array Func) (fz : Bool) (B : Nat) {α : Type} (Q : α → Prop) (m : Sem α) (τ : Nat → Question → Nat) (x u : World) (d : Nat) (es : Array Event) (a : α) (x1 : World) (fs : Array Event) (n : Nat) (x' u' : World) : Prop where
  q : Q a
  eq : x1 = x'.re τ (d + n)
  vr : Vr fz x' u'
  sealed_ : Sealed B x'
  low : ∀ k, k < B → u'.heap[k]? = u.heap[k]?
  more : x.heap.size ≤ x'.heap.size
  evs : ∀ e ∈ fs, e ∈ es ∨ EvS fz B e
  ref : ∀ τ' d', (∀ i, i < n → τ' (d' + i) = τ (d + i)) → m.runT (tw P F') (x.re τ' d') es = (.ok a (x'.re τ' (d' + n)), fs)
  run : ∀ τ' d', (∀ i, i < n → τ' (d' + i) = τ (d + i)) → m.runT P (u.re τ' d') es = (.ok a (u'.re τ' (d' + n)), fs)
theorem store_eq {α : Type} {md : Mode} {p : Addr} {v : Value} {k : Sem α} (hv : ¬ ∃ xs, v = .agg xs ∨ v = .tuple xs) (P : Program) (u : World) (es : Array Event) : (Sem.store md p v k).runT P u es = (match u.cell? p with
    | some _ => if u.frozen? p then (.halt (.unsupported (.unsafePointer "a write to bytes that a string shares")) u, es) else k.runT P (u.setCell p v) (es.push ⟨.cell p, true, md == .atomic⟩)
    | none => match u.farStore P p v (md == .atomic) with
      | .ok (u', touched) => k.runT P u' (es ++ touched.toArray.map (⟨.cell ·, true, md == .atomic⟩))
      | .error h => (.halt h u, es)) := by
  cases v <;> first | rfl | exact absurd ⟨_, .inl rfl⟩ hv | exact absurd ⟨_, .inr rfl⟩ hv
theorem getObj_eq {α : Type} {r : Nat} {k : Obj → Sem α} {w : World} {o : Obj} (h1 : w.heap[r]? = some o) (h2 : ∀ c e f, o ≠ .cells c e f) (P : Program) (es : Array Event) : (Sem.getObj r k).runT P w es = (k o).runT P w (es.push ⟨.obj r, false, o.isChan⟩) := by
  rw [Sem.runT, h1]
  cases o with
  | cells c e f => exact absurd rfl (h2 c e f)
  | _ => rfl
theorem setObj_eq {α : Type} {r : Nat} {o : Obj} {k : Sem α} {w : World} {q : Obj} (h1 : w.heap[r]? = some q) (h2 : ∀ c e f, q ≠ .cells c e f) (P : Program) (es : Array Event) : (Sem.setObj r o k).runT P w es = k.runT P { w with heap := w.heap.setIfInBounds r o } (es.push ⟨.obj r, true, o.isChan⟩) := by
  have e : (Sem.setObj r o k).runT P w es = (match w.heap[r]? with | some (.cells ..) => (.halt (.stuck "setObj: a row of cells") w, es) | some _ => k.runT P { w with heap := w.heap.setIfInBounds r o } (es.push ⟨.obj r, true, o.isChan⟩) | none => (.halt (.stuck "setObj: no such block") w, es)) := rfl
  rw [e, h1]
  cases q with
  | cells c e f => exact absurd rfl (h2 c e f)
  | _ => rfl
theorem dead_run_ok {α : Type} {m : Sem α} (h : Dead m) (P : Program) : ∀ (w : World) (es : Array Event) (a : α) (w' : World) (fs : Array Event), m.runT P w es ≠ (.ok a w', fs) := by
  induction h with
  | load md p k _ ih =>
    intro w es a w' fs
    unfold Sem.runT
    split
    · exact ih _ _ _ _ _ _
    · split
      · exact ih _ _ _ _ _ _
      · intro h; cases h
  | store md p v k _ ih =>
    intro w es a w' fs hr
    by_cases hv : ∃ xs, v = .agg xs ∨ v = .tuple xs
    · obtain ⟨xs, rfl | rfl⟩ := hv <;> (unfold Sem.runT at hr; cases hr)
    · rw [store_eq hv] at hr
      split at hr
      · split at hr
        · cases hr
        · exact ih _ _ _ _ _ hr
      · split at hr
        · exact ih _ _ _ _ _ hr
        · cases hr
  | new o k _ ih => intro w es a w' fs; exact ih _ _ _ _ _ _
  | shape r k _ ih => intro w es a w' fs; exact ih _ _ _ _ _ _
  | freeze p n k _ ih => intro w es a w' fs; exact ih _ _ _ _ _
  | frozen p k _ ih => intro w es a w' fs; exact ih _ _ _ _ _ _
  | getObj r k _ ih =>
    intro w es a w' fs
    unfold Sem.runT
    split
    · intro h; cases h
    · exact ih _ _ _ _ _ _
    · intro h; cases h
  | setObj r o k _ ih =>
    intro w es a w' fs
    unfold Sem.runT
    split
    · intro h; cases h
    · exact ih _ _ _ _ _
    · intro h; cases h
  | choose q k _ ih =>
    intro w es a w' fs
    unfold Sem.runT
    split
    · exact ih _ _ _ _ _ _
    · exact ih _ _ _ _ _ _
  | sys c k _ ih => intro w es a w' fs; exact ih _ _ _ _ _ _
  | program k _ ih => intro w es a w' fs; exact ih _ _ _ _ _ _
  | mark m k _ ih => intro w es a w' fs; exact ih _ _ _ _ _
  | halt h => intro w es a w' fs h; cases h
theorem SimT.run {B : Nat} (hB : fz = true → B = 0) {α : Type} {Q : α → Prop} {m : Sem α} (hm : SimT P F' fz Q m) (τ : Nat → Question → Nat) : ∀ (x u : World) (d : Nat) (es : Array Event), Vr fz x u → Sealed B x → ∀ (a : α) (x1 : World) (fs : Array Event), m.runT (tw P F') (x.re τ d) es = (.ok a x1, fs) →
    ∃ n x' u', RunsTo P F' fz B Q m τ x u d es a x1 fs n x' u' := by
  induction hm with
  | pure a h =>
    intro x u d es hV hS a x1 fs hr
    cases hr
    exact ⟨0, x, u, h, rfl, hV, hS, fun _ _ => rfl, Nat.le_refl _, fun e he => .inl he, fun _ _ _ => rfl, fun _ _ _ => rfl⟩
  | halt h hh => intro x u d es hV hS a x1 fs hr; cases hr
  | dead s hd hc => intro x u d es hV hS a x1 fs hr; exact absurd hr (dead_run_ok hd _ _ _ _ _ _)
  | load md p k _ ih =>
    intro x u d es hV hS a x1 fs hr
    unfold Sem.runT at hr
    rw [cell_re] at hr
    cases hc : x.cell? p with
    | some v =>
      rw [hc] at hr
      obtain ⟨n, x', u', h⟩ := ih v x u d _ hV hS a x1 fs hr
      refine ⟨n, x', u', h.q, h.eq, h.vr, h.sealed_, h.low, h.more, fun e he => ?_, fun τ' d' hh => ?_, fun τ' d' hh => ?_⟩
      · rcases h.evs e he with h1 | h1
        · rcases Array.mem_push.1 h1 with h1 | rfl
          · exact .inl h1
          · exact .inr (evS_read _ _ _)
        · exact .inr h1
      · unfold Sem.runT; rw [cell_re, hc]; exact h.ref τ' d' hh
      · unfold Sem.runT; rw [cell_re, hV.cell, hc]; exact h.run τ' d' hh
    | none =>
      rw [hc] at hr
      dsimp only at hr
      rw [farLoad_re] at hr
      cases hf : x.farLoad (tw P F') p (md == .atomic) with
      | error h => rw [hf] at hr; cases hr
      | ok y =>
        obtain ⟨v, touched⟩ := y
        rw [hf] at hr
        obtain ⟨n, x', u', h⟩ := ih v x u d _ hV hS a x1 fs hr
        refine ⟨n, x', u', h.q, h.eq, h.vr, h.sealed_, h.low, h.more, fun e he => ?_, fun τ' d' hh => ?_, fun τ' d' hh => ?_⟩
        · rcases h.evs e he with h1 | h1
          · rcases Array.mem_append.1 h1 with h1 | h1
            · exact .inl h1
            · obtain ⟨y, _, rfl⟩ := Array.mem_map.1 h1; exact .inr (evS_read _ _ _)
          · exact .inr h1
        · unfold Sem.runT; rw [cell_re, hc]; dsimp only; rw [farLoad_re, hf]; exact h.ref τ' d' hh
        · unfold Sem.runT; rw [cell_re, hV.cell, hc]; dsimp only; rw [farLoad_re, farLoad_rel hV hf]; exact h.run τ' d' hh
  | store md p v k _ ih =>
    intro x u d es hV hS a x1 fs hr
    by_cases hv : ∃ xs, v = .agg xs ∨ v = .tuple xs
    · obtain ⟨xs, rfl | rfl⟩ := hv <;> (unfold Sem.runT at hr; cases hr)
    · have e1 := fun (P : Program) (u : World) (es : Array Event) => store_eq (md := md) (p := p) (k := k) hv P u es
      rw [e1, cell_re] at hr
      cases hc : x.cell? p with
      | some v0 =>
        rw [hc] at hr
        dsimp only at hr
        rw [frozen_re] at hr
        cases hf : x.frozen? p with
        | true => rw [hf] at hr; simp only [if_true] at hr; cases hr
        | false =>
          rw [hf] at hr
          simp only [Bool.false_eq_true, if_false] at hr
          obtain ⟨c, e, f, hx, hsp, hoff⟩ := cell_some hc
          obtain ⟨f', hu, hff⟩ := hV.cells hx
          have hnl : B ≤ p.block := by
            rcases Nat.lt_or_ge p.block B with h | h
            · exfalso
              have := hS.2 _ h _ _ _ hx _ hoff
              unfold World.frozen? at hf
              rw [hx] at hf
              simp only [Bool.and_eq_false_iff, decide_eq_false_iff_not] at hf
              omega
            · exact h
          have ex : x.setCell p v = { x with heap := x.heap.setIfInBounds p.block (.cells (if p.spot.isSome then c else c.setIfInBounds p.off v) e f) } := setCell_set hx v
          have eu : u.setCell p v = { u with heap := u.heap.setIfInBounds p.block (.cells (if p.spot.isSome then c else c.setIfInBounds p.off v) e f') } := setCell_set hu v
          have hV' : Vr fz (x.setCell p v) (u.setCell p v) := by
            rw [ex, eu]
            refine hV.set p.block ?_
            obtain ⟨o', g1, g2 | ⟨_, _, _, _, _, _, _, g2, _⟩ | ⟨g2, c2, e2, f2, f3, g3, g4, g5⟩⟩ := hV.block _ _ hx
            · rw [hu] at g1; cases g1; cases g2; exact .inl rfl
            · cases g2
            · exact .inr (.inr ⟨g2, _, _, _, _, rfl, rfl, hff⟩)
          have hS' : Sealed B (x.setCell p v) := by rw [ex]; exact hS.set hx (by split <;> simp)
          obtain ⟨n, x', u', h⟩ := ih (x.setCell p v) (u.setCell p v) d _ hV' hS' a x1 fs hr
          refine ⟨n, x', u', h.q, h.eq, h.vr, h.sealed_, fun j hj => ?_, by have := h.more; rw [ex] at this; simpa using this, fun e he => ?_, fun τ' d' hh => ?_, fun τ' d' hh => ?_⟩
          · rw [h.low j hj, eu]
            show (u.heap.setIfInBounds _ _)[j]? = _
            rw [Array.getElem?_setIfInBounds_ne (by omega)]
          · rcases h.evs e he with h1 | h1
            · rcases Array.mem_push.1 h1 with h1 | rfl
              · exact .inl h1
              · exact .inr (evS_write hnl _)
            · exact .inr h1
          · rw [e1, cell_re, hc]; dsimp only; rw [frozen_re, hf]; exact h.ref τ' d' hh
          · rw [e1, cell_re, hV.cell, hc]; dsimp only; rw [frozen_re, hV.thawed hf]; exact h.run τ' d' hh
      | none =>
        rw [hc] at hr
        dsimp only at hr
        rw [farStore_re] at hr
        cases hf : x.farStore (tw P F') p v (md == .atomic) with
        | error h => rw [hf] at hr; cases hr
        | ok y =>
          obtain ⟨x2, touched⟩ := y
          rw [hf] at hr
          have hf' := hf
          unfold World.farStore at hf
          cases ho : x.heap[p.block]? with
          | none => rw [ho] at hf; cases hf
          | some o =>
            rw [ho] at hf
            cases o <;> try (cases hf; done)
            case view at_ t =>
              dsimp only at hf
              cases hvs : x.viewStore (tw P F') at_ t p v (md == .atomic) with
              | error z => rw [hvs] at hf; cases hf
              | ok y =>
                rw [hvs] at hf
                cases hf
                obtain ⟨c, c', e, f, f', hx, hu, hsz, ex, hff, hst, hl1, hl2, hl3⟩ := viewStore_rel (B := B) hV hS hvs
                obtain ⟨o', g1, g2 | ⟨_, _, _, _, _, _, _, g2, _⟩⟩ := hV.other ho (by intro c e f hh; cases hh)
                · have hV' : Vr fz x2 { u with heap := u.heap.setIfInBounds at_.block (.cells c' e f') } := by
                    rw [ex]
                    refine hV.set at_.block ?_
                    obtain ⟨o'', k1, k2 | ⟨_, _, _, _, _, _, _, k2, _⟩ | ⟨k2, c2, e2, f2, f3, k3, k4, k5⟩⟩ := hV.block _ _ hx
                    · rw [hu] at k1; cases k1; cases k2; exact .inl rfl
                    · cases k2
                    · exact .inr (.inr ⟨k2, _, _, _, _, rfl, rfl, hff⟩)
                  have hS' : Sealed B x2 := by rw [ex]; exact hS.set hx hsz
                  obtain ⟨n, x', u', h⟩ := ih x2 _ d _ hV' hS' a x1 fs hr
                  have hfu : u.farStore P p v (md == .atomic) = .ok ({ u with heap := u.heap.setIfInBounds at_.block (.cells c' e f') }, touched) := by
                    unfold World.farStore; rw [g1, g2]; dsimp only; rw [hst]
                  refine ⟨n, x', u', h.q, h.eq, h.vr, h.sealed_, fun j hj => ?_, by have := h.more; rw [ex] at this; simpa using this, fun e he => ?_, fun τ' d' hh => ?_, fun τ' d' hh => ?_⟩
                  · rw [h.low j hj]
                    show (u.heap.setIfInBounds _ _)[j]? = _
                    by_cases hj2 : at_.block = j
                    · subst hj2
                      rw [hl3 hj, Array.getElem?_setIfInBounds_self_of_lt (Array.getElem?_eq_some_iff.1 hu).1, hu]
                    · rw [Array.getElem?_setIfInBounds_ne hj2]
                  · rcases h.evs e he with h1 | h1
                    · rcases Array.mem_append.1 h1 with h1 | h1
                      · exact .inl h1
                      · obtain ⟨y, hy, rfl⟩ := Array.mem_map.1 h1
                        have hy' : y ∈ touched := by simpa using hy
                        exact .inr (evS_write (by rw [hl1 y hy']; exact hl2 (List.ne_nil_of_mem hy')) _)
                    · exact .inr h1
                  · rw [e1, cell_re, hc]; dsimp only; rw [farStore_re, hf']; exact h.ref τ' d' hh
                  · rw [e1, cell_re, hV.cell, hc]; dsimp only; rw [farStore_re, hfu]; exact h.run τ' d' hh
                · cases g2
  | new o k _ ih =>
    intro x u d es hV hS a x1 fs hr
    unfold Sem.runT at hr
    obtain ⟨n, x', u', h⟩ := ih x.heap.size { x with heap := x.heap.push o } { u with heap := u.heap.push o } d es (hV.push o) (hS.push o) a x1 fs hr
    refine ⟨n, x', u', h.q, h.eq, h.vr, h.sealed_, fun j hj => ?_, by have := h.more; simp at this; omega, h.evs, fun τ' d' hh => h.ref τ' d' hh, fun τ' d' hh => ?_⟩
    · rw [h.low j hj]
      show (u.heap.push o)[j]? = _
      rw [Array.getElem?_push, if_neg (by have := hS.1; rw [hV.size]; omega)]
    · have := h.run τ' d' hh
      rw [← hV.size] at this
      exact this
  | shape r k _ ih =>
    intro x u d es hV hS a x1 fs hr
    obtain ⟨n, x', u', h⟩ := ih (x.shape? r) x u d es hV hS a x1 fs hr
    exact ⟨n, x', u', h.q, h.eq, h.vr, h.sealed_, h.low, h.more, h.evs, fun τ' d' hh => h.ref τ' d' hh, fun τ' d' hh => by unfold Sem.runT; rw [shape_re, hV.shape]; exact h.run τ' d' hh⟩
  | freeze p n k hf _ ih =>
    subst hf
    obtain rfl := hB rfl
    intro x u d es hV hS a x1 fs hr
    have hV' : Vr true (x.freeze p n) (u.freeze p n) := by
      unfold World.freeze
      split
      · exact hV
      · cases hx : x.heap[p.block]? with
        | none =>
          have e1 : ∀ (w : World) (g : Obj → Obj), w.heap[p.block]? = none → w.heap.modify p.block g = w.heap := fun w g h => by
            apply Array.ext_getElem?; intro j; rw [Array.getElem?_modify]
            split
            · rename_i hj; subst hj; rw [h]; rfl
            · rfl
          rw [e1 x _ hx, e1 u _ (hV.none hx)]
          exact hV
        | some o =>
          obtain ⟨o', g1, g2⟩ := hV.block _ _ hx
          rw [modify_eq_set _ _ _ _ hx, modify_eq_set _ _ _ _ g1]
          refine hV.set p.block ?_
          rcases g2 with rfl | ⟨_, _, _, _, _, _, _, rfl, rfl⟩ | ⟨h, _⟩
          · exact .inl rfl
          · exact .inr (.inl ⟨_, _, _, _, _, _, _, rfl, rfl⟩)
          · cases h
    have hsz : (x.freeze p n).heap.size = x.heap.size := by unfold World.freeze; split <;> simp
    have hS' : Sealed 0 (x.freeze p n) := ⟨Nat.zero_le _, fun k hk => absurd hk (by omega)⟩
    unfold Sem.runT at hr
    rw [freeze_re] at hr
    obtain ⟨n', x', u', h⟩ := ih (x.freeze p n) (u.freeze p n) d es hV' hS' a x1 fs hr
    exact ⟨n', x', u', h.q, h.eq, h.vr, h.sealed_, fun j hj => absurd hj (by omega), by have := h.more; omega, h.evs, fun τ' d' hh => by unfold Sem.runT; rw [freeze_re]; exact h.ref τ' d' hh, fun τ' d' hh => by unfold Sem.runT; rw [freeze_re]; exact h.run τ' d' hh⟩
  | frozen p k hf _ ih =>
    subst hf
    intro x u d es hV hS a x1 fs hr
    obtain ⟨n, x', u', h⟩ := ih (x.frozen? p) x u d es hV hS a x1 fs hr
    exact ⟨n, x', u', h.q, h.eq, h.vr, h.sealed_, h.low, h.more, h.evs, fun τ' d' hh => h.ref τ' d' hh, fun τ' d' hh => by unfold Sem.runT; rw [frozen_re, hV.frozen]; exact h.run τ' d' hh⟩
  | getObj r k hc _ ih =>
    intro x u d es hV hS a x1 fs hr
    cases ho : x.heap[r]? with
    | none => unfold Sem.runT at hr; rw [show (x.re τ d).heap[r]? = none from ho] at hr; cases hr
    | some o =>
      by_cases hcell : ∃ c e f, o = .cells c e f
      · obtain ⟨c, e, f, rfl⟩ := hcell; unfold Sem.runT at hr; rw [show (x.re τ d).heap[r]? = some _ from ho] at hr; cases hr
      · have er := fun (P : Program) (w : World) (es : Array Event) (o : Obj) (h1 : w.heap[r]? = some o) (h2 : ∀ c e f, o ≠ .cells c e f) => getObj_eq (k := k) h1 h2 P es
        have hne : ∀ c e f, o ≠ .cells c e f := fun c e f h => hcell ⟨c, e, f, h⟩
        have hr' : (k o).runT (tw P F') (x.re τ d) (es.push ⟨.obj r, false, o.isChan⟩) = (.ok a x1, fs) := by rw [← er (tw P F') (x.re τ d) es o ho hne]; exact hr
        obtain ⟨n, x', u', h⟩ := ih o x u d _ hV hS a x1 fs hr'
        obtain ⟨o', g1, g2⟩ := hV.other ho hne
        have hko : k o' = k o ∧ o'.isChan = o.isChan ∧ ∀ c e f, o' ≠ .cells c e f := by
          rcases g2 with rfl | ⟨_, _, _, _, _, _, _, rfl, rfl⟩
          · exact ⟨rfl, rfl, hne⟩
          · exact ⟨hc _ _ _ _ _ _ _, rfl, by intro c e f h; cases h⟩
        refine ⟨n, x', u', h.q, h.eq, h.vr, h.sealed_, h.low, h.more, fun e he => ?_, fun τ' d' hh => ?_, fun τ' d' hh => ?_⟩
        · rcases h.evs e he with h1 | h1
          · rcases Array.mem_push.1 h1 with h1 | rfl
            · exact .inl h1
            · exact .inr (evS_obj _ _ _)
          · exact .inr h1
        · rw [er _ (x.re τ' d') _ o ho hne]; exact h.ref τ' d' hh
        · rw [er _ (u.re τ' d') _ o' g1 hko.2.2, hko.1, hko.2.1]; exact h.run τ' d' hh
  | setObj r o k hf hv _ ih =>
    subst hf
    obtain rfl := hB rfl
    intro x u d es hV hS a x1 fs hr
    cases ho : x.heap[r]? with
    | none => unfold Sem.runT at hr; rw [show (x.re τ d).heap[r]? = none from ho] at hr; cases hr
    | some p =>
      by_cases hcell : ∃ c e f, p = .cells c e f
      · obtain ⟨c, e, f, rfl⟩ := hcell; unfold Sem.runT at hr; rw [show (x.re τ d).heap[r]? = some _ from ho] at hr; cases hr
      · have er := fun (P : Program) (w : World) (es : Array Event) (q : Obj) (h1 : w.heap[r]? = some q) (h2 : ∀ c e f, q ≠ .cells c e f) => setObj_eq (o := o) (k := k) h1 h2 P es
        have hne : ∀ c e f, p ≠ .cells c e f := fun c e f h => hcell ⟨c, e, f, h⟩
        have hr' : k.runT (tw P F') (({ x with heap := x.heap.setIfInBounds r o } : World).re τ d) (es.push ⟨.obj r, true, o.isChan⟩) = (.ok a x1, fs) := by have := er (tw P F') (x.re τ d) es p ho hne; rw [hr] at this; exact this.symm
        obtain ⟨n, x', u', h⟩ := ih { x with heap := x.heap.setIfInBounds r o } { u with heap := u.heap.setIfInBounds r o } d _ (hV.set r (.inl rfl)) ⟨Nat.zero_le _, fun k hk => absurd hk (by omega)⟩ a x1 fs hr'
        obtain ⟨o', g1, g2⟩ := hV.other ho hne
        have hko : ∀ c e f, o' ≠ .cells c e f := by
          rcases g2 with rfl | ⟨_, _, _, _, _, _, _, rfl, rfl⟩
          · exact hne
          · intro c e f h; cases h
        refine ⟨n, x', u', h.q, h.eq, h.vr, h.sealed_, fun j hj => absurd hj (by omega), by have := h.more; simpa using this, fun e he => ?_, fun τ' d' hh => ?_, fun τ' d' hh => ?_⟩
        · rcases h.evs e he with h1 | h1
          · rcases Array.mem_push.1 h1 with h1 | rfl
            · exact .inl h1
            · exact .inr ⟨⟨by simp, by simp⟩, fun y hy hw => by
                cases hch : o.isChan <;> rw [hch] at hy <;> cases hy
                exact ⟨fun hl => absurd hl (Nat.not_lt_zero _), fun h => by cases h⟩⟩
          · exact .inr h1
        · rw [er _ (x.re τ' d') _ p ho hne]; exact h.ref τ' d' hh
        · rw [er _ (u.re τ' d') _ o' g1 hko]; exact h.run τ' d' hh
  | choose q k _ ih =>
    intro x u d es hV hS a x1 fs hr
    unfold Sem.runT at hr
    by_cases hq : q.forced = true
    · rw [if_pos hq] at hr
      obtain ⟨n, x', u', h⟩ := ih 0 x u d es hV hS a x1 fs hr
      exact ⟨n, x', u', h.q, h.eq, h.vr, h.sealed_, h.low, h.more, h.evs, fun τ' d' hh => by unfold Sem.runT; rw [if_pos hq]; exact h.ref τ' d' hh, fun τ' d' hh => by unfold Sem.runT; rw [if_pos hq]; exact h.run τ' d' hh⟩
    · rw [if_neg hq] at hr
      obtain ⟨n, x', u', h⟩ := ih (q.cut (τ d q)) x u (d + 1) es hV hS a x1 fs hr
      refine ⟨n + 1, x', u', h.q, by rw [h.eq, show d + 1 + n = d + (n + 1) by omega], h.vr, h.sealed_, h.low, h.more, h.evs, fun τ' d' hh => ?_, fun τ' d' hh => ?_⟩
      all_goals
        unfold Sem.runT
        rw [if_neg hq]
        have e0 : τ' d' = τ d := by simpa using hh 0 (by omega)
        have hh' : ∀ i, i < n → τ' (d' + 1 + i) = τ (d + 1 + i) := fun i hi => by have := hh (i + 1) (by omega); simpa [Nat.add_assoc, Nat.add_comm 1 i] using this
      · show (k (q.cut (τ' d' q))).runT (tw P F') (x.re τ' (d' + 1)) es = _
        rw [e0, h.ref τ' (d' + 1) hh', show d' + 1 + n = d' + (n + 1) by omega]
      · show (k (q.cut (τ' d' q))).runT P (u.re τ' (d' + 1)) es = _
        rw [e0, h.run τ' (d' + 1) hh', show d' + 1 + n = d' + (n + 1) by omega]
  | program k hk _ ih =>
    intro x u d es hV hS a x1 fs hr
    unfold Sem.runT at hr
    rw [hk] at hr
    obtain ⟨n, x', u', h⟩ := ih x u d es hV hS a x1 fs hr
    exact ⟨n, x', u', h.q, h.eq, h.vr, h.sealed_, h.low, h.more, h.evs, fun τ' d' hh => by unfold Sem.runT; rw [hk]; exact h.ref τ' d' hh, fun τ' d' hh => h.run τ' d' hh⟩
  | mark m k hm _ ih =>
    intro x u d es hV hS a x1 fs hr
    obtain ⟨n, x', u', h⟩ := ih x u d _ hV hS a x1 fs hr
    refine ⟨n, x', u', h.q, h.eq, h.vr, h.sealed_, h.low, h.more, fun e he => ?_, fun τ' d' hh => h.ref τ' d' hh, fun τ' d' hh => h.run τ' d' hh⟩
    rcases h.evs e he with h1 | h1
    · rcases Array.mem_push.1 h1 with h1 | rfl
      · exact .inl h1
      · refine .inr ⟨⟨by simpa using hm.1.1, by simpa using hm.1.2⟩, fun y hy hw => ?_⟩
        cases m <;> first | (cases hy; done) | (cases hy; cases hw; done) | exact absurd rfl (hm.2 _)
    · exact .inr h1
end
end Go.Goes

-- Ro
/-
  Pieces of the machine that only read. (Made by mk5.py.)
-/
namespace Go.Goes
set_option linter.unusedVariables false

inductive RoT (P : Program) (F' : Array Func) {α : Type} (Q : α → Prop) : Sem α → Prop
  | pure (a : α) (h : Q a) : RoT P F' Q (.pure a)
  | load (m : Mode) (a : Addr) (k : Value → Sem α) (h : ∀ v, RoT P F' Q (k v)) : RoT P F' Q (.load m a k)
  | new (o : Obj) (k : Nat → Sem α) (h : ∀ r, RoT P F' Q (k r)) : RoT P F' Q (.new o k)
  | shape (r : Nat) (k : Option (TypeId × Nat) → Sem α) (h0 : Dead (k none) ∨ ∃ g, k none = .getObj r g) (h : ∀ s, RoT P F' Q (k s)) : RoT P F' Q (.shape r k)
  | getObj (r : Nat) (k : Obj → Sem α) (hc : ∀ tm cl s r cl' s' r', k (.chan 0 #[] cl s r tm) = k (.chan 0 #[] cl' s' r' tm)) (h : ∀ o, RoT P F' Q (k o)) : RoT P F' Q (.getObj r k)
  | choose (q : Question) (k : Nat → Sem α) (h : ∀ n, RoT P F' Q (k n)) : RoT P F' Q (.choose q k)
  | program (k : Program → Sem α) (hk : k (tw P F') = k P) (h : RoT P F' Q (k P)) : RoT P F' Q (.program k)
  | halt (h : Halt) (hh : plainHalt h) : RoT P F' Q (.halt h)
  /-- Nothing returns: it is calm, and that is all that is wanted. -/
  | dead (s : Sem α) (hd : Dead s) (hc : ∀ P, Calm P Q s) : RoT P F' Q s

theorem dead_bind {α β : Type} {s : Sem α} {f : α → Sem β} (hd : Dead s) : Dead (s.bind f) := by
  induction hd with
  | load m a k _ ih => exact .load m a _ ih
  | store m a v k _ ih => exact .store m a v _ ih
  | new o k _ ih => exact .new o _ ih
  | shape r k _ ih => exact .shape r _ ih
  | freeze a n k _ ih => exact .freeze a n _ ih
  | frozen a k _ ih => exact .frozen a _ ih
  | getObj r k _ ih => exact .getObj r _ ih
  | setObj r o k _ ih => exact .setObj r o _ ih
  | choose q k _ ih => exact .choose q _ ih
  | sys c k _ ih => exact .sys c _ ih
  | program k _ ih => exact .program _ ih
  | mark m k _ ih => exact .mark m _ ih
  | halt h => exact .halt h
section
variable {P : Program} {F' : Array Func}
theorem RoT.bindQ {α β : Type} {Q : β → Prop} {R : α → Prop} {m : Sem α} {f : α → Sem β} (hm : RoT P F' R m) (hf : ∀ a, R a → RoT P F' Q (f a)) : RoT P F' Q (m.bind f) := by
  induction hm with
  | pure a h => exact hf a h
  | load m a k _ ih => exact .load m a _ ih
  | new o k _ ih => exact .new o _ ih
  | shape r k h0 _ ih => exact .shape r _ (h0.imp dead_bind (fun ⟨g, hg⟩ => ⟨_, by rw [hg]; rfl⟩)) ih
  | getObj r k hc _ ih => exact .getObj r _ (fun tm cl s r cl' s' r' => by rw [hc tm cl s r cl' s' r']) ih
  | choose q k _ ih => exact .choose q _ ih
  | program k hk _ ih => exact .program _ (by rw [hk]) ih
  | halt h hh => exact .halt h hh
  | dead s hd hc =>
    refine .dead _ ?_ ?_
    · exact dead_bind hd
    · intro P'
      exact (calm_dead hd (hc P'))
variable (P F') in
abbrev RoU {α : Type} (m : Sem α) : Prop := RoT P F' (fun _ => True) m
theorem RoT.bind {α β : Type} {Q : β → Prop} {m : Sem α} {f : α → Sem β} (hm : RoU P F' m) (hf : ∀ a, RoT P F' Q (f a)) : RoT P F' Q (m >>= f) := hm.bindQ (fun a _ => hf a)
theorem RoT.ite {α : Type} {Q : α → Prop} {c : Prop} [Decidable c] {a b : Sem α} (ha : RoT P F' Q a) (hb : RoT P F' Q b) : RoT P F' Q (if c then a else b) := by split <;> assumption
/-- The program is asked for. -/
theorem ro_prog {β : Type} {Q : β → Prop} {f : Program → Sem β} (hk : f (tw P F') = f P) (h : RoT P F' Q (f P)) : RoT P F' Q (Go.program >>= f) := .program _ hk h
theorem ro_getO {β : Type} {Q : β → Prop} {r : Nat} {f : Obj → Sem β} (hc : ∀ tm cl s r cl' s' r', f (.chan 0 #[] cl s r tm) = f (.chan 0 #[] cl' s' r' tm)) (h : ∀ o, RoT P F' Q (f o)) : RoT P F' Q (getObj r >>= f) := .getObj _ _ hc h

theorem ro_pure {α : Type} (a : α) : RoU P F' (Pure.pure a : Sem α) := .pure a trivial
theorem ro_stuck {α : Type} {Q : α → Prop} (s : String) : RoT P F' Q (stuck s : Sem α) := .halt _ trivial
theorem ro_unsupported {α : Type} {Q : α → Prop} (s : Unsupported) : RoT P F' Q (unsupported s : Sem α) := .halt _ trivial
theorem ro_goPanic {α : Type} {Q : α → Prop} (v : Value) : RoT P F' Q (goPanic v : Sem α) := .halt _ trivial
theorem ro_load (a : Addr) (m : Mode) : RoU P F' (Go.load a m) := .load _ _ _ (fun _ => .pure _ trivial)
theorem ro_newObj (o : Obj) : RoU P F' (newObj o) := .new _ _ (fun _ => .pure _ trivial)
theorem ro_choose (q : Question) : RoU P F' (choose q) := .choose _ _ (fun _ => .pure _ trivial)
theorem ro_map {α β : Type} (f : α → β) {m : Sem α} (h : RoU P F' m) : RoU P F' (f <$> m) := h.bindQ (fun _ _ => .pure _ trivial)
theorem ro_arrayMapM {α β : Type} (f : α → Sem β) (hf : ∀ a, RoU P F' (f a)) (l : Array α) : RoU P F' (l.mapM f) := by
  haveI := lawfulSem
  rw [Array.mapM_eq_foldlM, ← Array.foldlM_toList]
  generalize (#[] : Array β) = b
  induction l.toList generalizing b with
  | nil => exact ro_pure _
  | cons a l ih => rw [List.foldlM_cons]; exact RoT.bind (RoT.bind (hf a) (fun _ => ro_pure _)) (fun _ => ih _)

theorem ro_shapeO {β : Type} {Q : β → Prop} {r : Nat} {f : Option (TypeId × Nat) → Sem β} (h0 : Dead (f none) ∨ ∃ g, f none = .getObj r g) (h : ∀ s, RoT P F' Q (f s)) : RoT P F' Q (shape r >>= f) := .shape _ _ h0 h

theorem ro_typeInfo (t : TypeId) : RoU P F' (typeInfo t) := by
  unfold typeInfo
  repeat' (first | with_reducible exact ro_stuck _ | with_reducible exact ro_pure _ | with_reducible refine ro_prog rfl ?_ | (with_reducible refine ro_shapeO (.inr ⟨_, rfl⟩) (fun _ => ?_)) | ((with_reducible refine ro_shapeO (.inl ?_) (fun _ => ?_)); (exact Dead.halt _)) | with_reducible refine RoT.bind ?_ (fun _ => ?_) | with_reducible refine RoT.ite ?_ ?_ | split | (extract_lets; skip) | dsimp only)
theorem ro_underlying (t : TypeId) : RoU P F' (underlying t) := by
  unfold underlying
  repeat' (first | with_reducible exact ro_stuck _ | with_reducible exact ro_pure _ | with_reducible refine ro_prog rfl ?_ | (with_reducible refine ro_shapeO (.inr ⟨_, rfl⟩) (fun _ => ?_)) | ((with_reducible refine ro_shapeO (.inl ?_) (fun _ => ?_)); (exact Dead.halt _)) | with_reducible refine RoT.bind ?_ (fun _ => ?_) | with_reducible refine RoT.ite ?_ ?_ | split | (extract_lets; skip) | dsimp only)
theorem ro_zeroValue (t : TypeId) : RoU P F' (zeroValue t) := by
  unfold zeroValue
  repeat' (first | with_reducible exact ro_typeInfo _ | with_reducible exact ro_unsupported _ | with_reducible exact ro_pure _ | (with_reducible refine ro_shapeO (.inr ⟨_, rfl⟩) (fun _ => ?_)) | ((with_reducible refine ro_shapeO (.inl ?_) (fun _ => ?_)); (exact Dead.halt _)) | with_reducible refine RoT.bind ?_ (fun _ => ?_) | with_reducible refine RoT.ite ?_ ?_ | split | (extract_lets; skip) | dsimp only)
theorem ro_sizeOf (t : TypeId) : RoU P F' (sizeOf t) := by
  unfold sizeOf
  repeat' (first | with_reducible exact ro_typeInfo _ | with_reducible exact ro_pure _ | (with_reducible refine ro_shapeO (.inr ⟨_, rfl⟩) (fun _ => ?_)) | ((with_reducible refine ro_shapeO (.inl ?_) (fun _ => ?_)); (exact Dead.halt _)) | with_reducible refine RoT.bind ?_ (fun _ => ?_) | with_reducible refine RoT.ite ?_ ?_ | split | (extract_lets; skip) | dsimp only)
theorem ro_isAgg (t : TypeId) : RoU P F' (isAgg t) := by
  unfold isAgg
  repeat' (first | with_reducible exact ro_underlying _ | with_reducible exact ro_pure _ | (with_reducible refine ro_shapeO (.inr ⟨_, rfl⟩) (fun _ => ?_)) | ((with_reducible refine ro_shapeO (.inl ?_) (fun _ => ?_)); (exact Dead.halt _)) | with_reducible refine RoT.bind ?_ (fun _ => ?_) | with_reducible refine RoT.ite ?_ ?_ | split | (extract_lets; skip) | dsimp only)
theorem ro_loadCellsFrom (a : Addr) : ∀ (n i : Nat) (acc : Array Value), RoU P F' (loadCellsFrom a i n acc)
  | 0, _, _ => ro_pure _
  | n + 1, _, _ => RoT.bind (ro_load _ _) (fun _ => ro_loadCellsFrom a n _ _)
theorem ro_loadCells (a : Addr) (n : Nat) : RoU P F' (loadCells a n) := ro_loadCellsFrom a n 0 _
theorem ro_loadVar (t : TypeId) (a : Addr) : RoU P F' (loadVar t a) := by
  unfold loadVar
  repeat' (first | with_reducible exact ro_loadCells _ _ | with_reducible exact ro_isAgg _ | with_reducible exact ro_sizeOf _ | with_reducible exact ro_load _ _ | with_reducible exact ro_pure _ | (with_reducible refine ro_shapeO (.inr ⟨_, rfl⟩) (fun _ => ?_)) | ((with_reducible refine ro_shapeO (.inl ?_) (fun _ => ?_)); (exact Dead.halt _)) | with_reducible refine RoT.bind ?_ (fun _ => ?_) | with_reducible refine RoT.ite ?_ ?_ | split | (extract_lets; skip) | dsimp only)
theorem ro_newRow (t : TypeId) (c : Array Value) : RoU P F' (newRow t c) := by
  unfold newRow
  repeat' (first | with_reducible exact ro_newObj _ | with_reducible exact ro_pure _ | (with_reducible refine ro_shapeO (.inr ⟨_, rfl⟩) (fun _ => ?_)) | ((with_reducible refine ro_shapeO (.inl ?_) (fun _ => ?_)); (exact Dead.halt _)) | with_reducible refine RoT.bind ?_ (fun _ => ?_) | with_reducible refine RoT.ite ?_ ?_ | split | (extract_lets; skip) | dsimp only)
theorem ro_newVar (t : TypeId) (v : Value) : RoU P F' (newVar t v) := by
  unfold newVar
  repeat' (first | with_reducible exact ro_newRow _ _ | (with_reducible refine ro_shapeO (.inr ⟨_, rfl⟩) (fun _ => ?_)) | ((with_reducible refine ro_shapeO (.inl ?_) (fun _ => ?_)); (exact Dead.halt _)) | with_reducible refine RoT.bind ?_ (fun _ => ?_) | with_reducible refine RoT.ite ?_ ?_ | split | (extract_lets; skip) | dsimp only)
theorem ro_elemOf (t : TypeId) : RoU P F' (elemOf t) := by
  unfold elemOf
  repeat' (first | with_reducible exact ro_underlying _ | with_reducible exact ro_stuck _ | with_reducible exact ro_pure _ | (with_reducible refine ro_shapeO (.inr ⟨_, rfl⟩) (fun _ => ?_)) | ((with_reducible refine ro_shapeO (.inl ?_) (fun _ => ?_)); (exact Dead.halt _)) | with_reducible refine RoT.bind ?_ (fun _ => ?_) | with_reducible refine RoT.ite ?_ ?_ | split | (extract_lets; skip) | dsimp only)
theorem ro_runtimePanic {α : Type} {Q : α → Prop} (e : RuntimeError) : RoT P F' Q (runtimePanic e : Sem α) := by
  unfold runtimePanic
  repeat' (first | with_reducible exact ro_elemOf _ | with_reducible exact ro_newVar _ _ | with_reducible exact ro_goPanic _ | with_reducible refine ro_prog rfl ?_ | (with_reducible refine ro_shapeO (.inr ⟨_, rfl⟩) (fun _ => ?_)) | ((with_reducible refine ro_shapeO (.inl ?_) (fun _ => ?_)); (exact Dead.halt _)) | with_reducible refine RoT.bind ?_ (fun _ => ?_) | with_reducible refine RoT.ite ?_ ?_ | split | (extract_lets; skip) | dsimp only)
theorem ro_boundsPanic {α : Type} {Q : α → Prop} (k : IntKind) (x y : Int) (c : BoundsCode) : RoT P F' Q (boundsPanic k x y c : Sem α) := by
  unfold boundsPanic
  repeat' (first | with_reducible exact ro_runtimePanic _ | with_reducible exact ro_map _ (ro_choose _) | with_reducible exact ro_choose _ | with_reducible exact ro_pure _ | (with_reducible refine ro_shapeO (.inr ⟨_, rfl⟩) (fun _ => ?_)) | ((with_reducible refine ro_shapeO (.inl ?_) (fun _ => ?_)); (exact Dead.halt _)) | with_reducible refine RoT.bind ?_ (fun _ => ?_) | with_reducible refine RoT.ite ?_ ?_ | split | (extract_lets; skip) | dsimp only)
theorem ro_asIntOf (v : Value) : RoU P F' (asIntOf v) := by
  unfold asIntOf
  repeat' (first | with_reducible exact ro_unsupported _ | with_reducible exact ro_stuck _ | with_reducible exact ro_pure _ | (with_reducible refine ro_shapeO (.inr ⟨_, rfl⟩) (fun _ => ?_)) | ((with_reducible refine ro_shapeO (.inl ?_) (fun _ => ?_)); (exact Dead.halt _)) | with_reducible refine RoT.bind ?_ (fun _ => ?_) | with_reducible refine RoT.ite ?_ ?_ | split | (extract_lets; skip) | dsimp only)
theorem ro_asInt (v : Value) : RoU P F' (asInt v) := by
  unfold asInt
  repeat' (first | with_reducible exact ro_asIntOf _ | with_reducible exact ro_pure _ | (with_reducible refine ro_shapeO (.inr ⟨_, rfl⟩) (fun _ => ?_)) | ((with_reducible refine ro_shapeO (.inl ?_) (fun _ => ?_)); (exact Dead.halt _)) | with_reducible refine RoT.bind ?_ (fun _ => ?_) | with_reducible refine RoT.ite ?_ ?_ | split | (extract_lets; skip) | dsimp only)
theorem ro_asBool (v : Value) : RoU P F' (asBool v) := by
  unfold asBool
  repeat' (first | with_reducible exact ro_stuck _ | with_reducible exact ro_pure _ | (with_reducible refine ro_shapeO (.inr ⟨_, rfl⟩) (fun _ => ?_)) | ((with_reducible refine ro_shapeO (.inl ?_) (fun _ => ?_)); (exact Dead.halt _)) | with_reducible refine RoT.bind ?_ (fun _ => ?_) | with_reducible refine RoT.ite ?_ ?_ | split | (extract_lets; skip) | dsimp only)
theorem ro_viewAt (r : Nat) : RoU P F' (viewAt r) := by
  unfold viewAt
  repeat' (first | with_reducible exact ro_pure _ | with_reducible refine ro_getO (fun _ _ _ _ _ _ _ => rfl) (fun _ => ?_) | (with_reducible refine ro_shapeO (.inr ⟨_, rfl⟩) (fun _ => ?_)) | ((with_reducible refine ro_shapeO (.inl ?_) (fun _ => ?_)); (exact Dead.halt _)) | with_reducible refine RoT.bind ?_ (fun _ => ?_) | with_reducible refine RoT.ite ?_ ?_ | split | (extract_lets; skip) | dsimp only)
theorem ro_numberAt (r : Nat) : RoU P F' (numberAt r) := by
  unfold numberAt
  repeat' (first | with_reducible exact ro_pure _ | with_reducible refine ro_getO (fun _ _ _ _ _ _ _ => rfl) (fun _ => ?_) | (with_reducible refine ro_shapeO (.inr ⟨_, rfl⟩) (fun _ => ?_)) | ((with_reducible refine ro_shapeO (.inl ?_) (fun _ => ?_)); (exact Dead.halt _)) | with_reducible refine RoT.bind ?_ (fun _ => ?_) | with_reducible refine RoT.ite ?_ ?_ | split | (extract_lets; skip) | dsimp only)
theorem ro_asNumber (a : Addr) (b : Bool) : RoU P F' (asNumber a b) := by
  unfold asNumber
  repeat' (first | with_reducible exact ro_newObj _ | with_reducible exact ro_pure _ | (with_reducible refine ro_shapeO (.inr ⟨_, rfl⟩) (fun _ => ?_)) | ((with_reducible refine ro_shapeO (.inl ?_) (fun _ => ?_)); (exact Dead.halt _)) | with_reducible refine RoT.bind ?_ (fun _ => ?_) | with_reducible refine RoT.ite ?_ ?_ | split | (extract_lets; skip) | dsimp only)
theorem ro_behindNumber (a : Addr) : RoU P F' (behindNumber a) := by
  unfold behindNumber
  repeat' (first | with_reducible exact ro_numberAt _ | with_reducible exact ro_pure _ | (with_reducible refine ro_shapeO (.inr ⟨_, rfl⟩) (fun _ => ?_)) | ((with_reducible refine ro_shapeO (.inl ?_) (fun _ => ?_)); (exact Dead.halt _)) | with_reducible refine RoT.bind ?_ (fun _ => ?_) | with_reducible refine RoT.ite ?_ ?_ | split | (extract_lets; skip) | dsimp only)
theorem ro_noView (a : Addr) : RoU P F' (noView a) := by
  unfold noView
  repeat' (first | with_reducible exact ro_viewAt _ | with_reducible exact ro_unsupported _ | with_reducible exact ro_pure _ | (with_reducible refine ro_shapeO (.inr ⟨_, rfl⟩) (fun _ => ?_)) | ((with_reducible refine ro_shapeO (.inl ?_) (fun _ => ?_)); (exact Dead.halt _)) | with_reducible refine RoT.bind ?_ (fun _ => ?_) | with_reducible refine RoT.ite ?_ ?_ | split | (extract_lets; skip) | dsimp only)
theorem ro_byteOf (a : Addr) : RoU P F' (byteOf a) := by
  unfold byteOf
  split
  · exact ro_pure _
  · refine ro_prog ?_ ?_
    · simp only [tw_byteOfCell]; rfl
    · repeat' (first | with_reducible exact ro_noView _ | with_reducible exact ro_stuck _ | with_reducible exact ro_pure _ | with_reducible refine ro_prog rfl ?_ | (with_reducible refine ro_shapeO (.inr ⟨_, rfl⟩) (fun _ => ?_)) | ((with_reducible refine ro_shapeO (.inl ?_) (fun _ => ?_)); (exact Dead.halt _)) | with_reducible refine RoT.bind ?_ (fun _ => ?_) | with_reducible refine RoT.ite ?_ ?_ | split | (extract_lets; skip) | dsimp only)
theorem ro_build (t : TypeId) (ps : Array (Nat × Value)) : RoU P F' (Instr.build t ps) := by
  unfold Instr.build
  repeat' (first | with_reducible exact ro_sizeOf _ | with_reducible exact ro_zeroValue _ | with_reducible exact ro_underlying _ | with_reducible exact ro_stuck _ | with_reducible exact ro_pure _ | (with_reducible refine ro_shapeO (.inr ⟨_, rfl⟩) (fun _ => ?_)) | ((with_reducible refine ro_shapeO (.inl ?_) (fun _ => ?_)); (exact Dead.halt _)) | with_reducible refine RoT.bind ?_ (fun _ => ?_) | with_reducible refine RoT.ite ?_ ?_ | with_reducible refine ro_arrayMapM _ (fun _ => ?_) _ | split | (extract_lets; skip) | dsimp only)
theorem ro_sureAddr (v : Value) : RoU P F' (Instr.sureAddr v) := by
  unfold Instr.sureAddr
  repeat' (first | with_reducible exact ro_stuck _ | with_reducible exact ro_pure _ | (with_reducible refine ro_shapeO (.inr ⟨_, rfl⟩) (fun _ => ?_)) | ((with_reducible refine ro_shapeO (.inl ?_) (fun _ => ?_)); (exact Dead.halt _)) | with_reducible refine RoT.bind ?_ (fun _ => ?_) | with_reducible refine RoT.ite ?_ ?_ | split | (extract_lets; skip) | dsimp only)
theorem ro_loadAt (t : TypeId) (v : Value) : RoU P F' (Instr.loadAt t v) := by
  unfold Instr.loadAt
  repeat' (first | with_reducible exact ro_sureAddr _ | with_reducible exact ro_loadVar _ _ | (with_reducible refine ro_shapeO (.inr ⟨_, rfl⟩) (fun _ => ?_)) | ((with_reducible refine ro_shapeO (.inl ?_) (fun _ => ?_)); (exact Dead.halt _)) | with_reducible refine RoT.bind ?_ (fun _ => ?_) | with_reducible refine RoT.ite ?_ ?_ | split | (extract_lets; skip) | dsimp only)
theorem ro_indexAt (t : TypeId) (v x : Value) : RoU P F' (Instr.indexAt t v x) := by
  unfold Instr.indexAt
  repeat' (first | with_reducible exact ro_sureAddr _ | with_reducible exact ro_asIntOf _ | with_reducible exact ro_boundsPanic _ _ _ _ | with_reducible exact ro_sizeOf _ | with_reducible exact ro_underlying _ | with_reducible exact ro_unsupported _ | with_reducible exact ro_stuck _ | with_reducible exact ro_pure _ | (with_reducible refine ro_shapeO (.inr ⟨_, rfl⟩) (fun _ => ?_)) | ((with_reducible refine ro_shapeO (.inl ?_) (fun _ => ?_)); (exact Dead.halt _)) | with_reducible refine RoT.bind ?_ (fun _ => ?_) | with_reducible refine RoT.ite ?_ ?_ | split | (extract_lets; skip) | dsimp only)
theorem ro_len (ts : Array TypeId) (t : TypeId) (vs : Array Value) : RoU P F' (Builtin.len_ ts t vs) := by
  unfold Builtin.len_
  repeat' (first | with_reducible exact ro_underlying _ | with_reducible exact ro_stuck _ | with_reducible exact ro_pure _ | with_reducible refine ro_getO (fun _ _ _ _ _ _ _ => rfl) (fun _ => ?_) | (with_reducible refine ro_shapeO (.inr ⟨_, rfl⟩) (fun _ => ?_)) | ((with_reducible refine ro_shapeO (.inl ?_) (fun _ => ?_)); (exact Dead.halt _)) | with_reducible refine RoT.bind ?_ (fun _ => ?_) | with_reducible refine RoT.ite ?_ ?_ | split | (extract_lets; skip) | dsimp only)
theorem ro_intArith (op : BinOp) (k : IntKind) (a b : Int) : RoU P F' (Op.intArith op k a b) := by
  unfold Op.intArith
  repeat' (first | with_reducible exact ro_stuck _ | with_reducible exact ro_pure _ | (with_reducible refine ro_shapeO (.inr ⟨_, rfl⟩) (fun _ => ?_)) | ((with_reducible refine ro_shapeO (.inl ?_) (fun _ => ?_)); (exact Dead.halt _)) | with_reducible refine RoT.bind ?_ (fun _ => ?_) | with_reducible refine RoT.ite ?_ ?_ | split | (extract_lets; skip) | dsimp only)
theorem ro_intDiv (op : BinOp) (k : IntKind) (a b : Int) : RoU P F' (Op.intDiv op k a b) := by
  unfold Op.intDiv
  repeat' (first | with_reducible exact ro_runtimePanic _ | with_reducible exact ro_stuck _ | with_reducible exact ro_pure _ | (with_reducible refine ro_shapeO (.inr ⟨_, rfl⟩) (fun _ => ?_)) | ((with_reducible refine ro_shapeO (.inl ?_) (fun _ => ?_)); (exact Dead.halt _)) | with_reducible refine RoT.bind ?_ (fun _ => ?_) | with_reducible refine RoT.ite ?_ ?_ | split | (extract_lets; skip) | dsimp only)
theorem ro_intBits (op : BinOp) (k : IntKind) (a b : Int) : RoU P F' (Op.intBits op k a b) := by
  unfold Op.intBits
  repeat' (first | with_reducible exact ro_stuck _ | with_reducible exact ro_pure _ | (with_reducible refine ro_shapeO (.inr ⟨_, rfl⟩) (fun _ => ?_)) | ((with_reducible refine ro_shapeO (.inl ?_) (fun _ => ?_)); (exact Dead.halt _)) | with_reducible refine RoT.bind ?_ (fun _ => ?_) | with_reducible refine RoT.ite ?_ ?_ | split | (extract_lets; skip) | dsimp only)
theorem ro_intCmp (op : BinOp) (a b : Int) : RoU P F' (Op.intCmp op a b) := by
  unfold Op.intCmp
  repeat' (first | with_reducible exact ro_stuck _ | with_reducible exact ro_pure _ | (with_reducible refine ro_shapeO (.inr ⟨_, rfl⟩) (fun _ => ?_)) | ((with_reducible refine ro_shapeO (.inl ?_) (fun _ => ?_)); (exact Dead.halt _)) | with_reducible refine RoT.bind ?_ (fun _ => ?_) | with_reducible refine RoT.ite ?_ ?_ | split | (extract_lets; skip) | dsimp only)
theorem ro_shift (op : BinOp) (k : IntKind) (a : Int) (k2 : IntKind) (b : Int) : RoU P F' (Op.shift op k a k2 b) := by
  unfold Op.shift
  repeat' (first | with_reducible exact ro_runtimePanic _ | with_reducible exact ro_stuck _ | with_reducible exact ro_pure _ | (with_reducible refine ro_shapeO (.inr ⟨_, rfl⟩) (fun _ => ?_)) | ((with_reducible refine ro_shapeO (.inl ?_) (fun _ => ?_)); (exact Dead.halt _)) | with_reducible refine RoT.bind ?_ (fun _ => ?_) | with_reducible refine RoT.ite ?_ ?_ | split | (extract_lets; skip) | dsimp only)
theorem ro_stringOp (op : BinOp) (a b : ByteArray) : RoU P F' (Op.stringOp op a b) := by
  unfold Op.stringOp
  repeat' (first | with_reducible exact ro_unsupported _ | with_reducible exact ro_stuck _ | with_reducible exact ro_pure _ | (with_reducible refine ro_shapeO (.inr ⟨_, rfl⟩) (fun _ => ?_)) | ((with_reducible refine ro_shapeO (.inl ?_) (fun _ => ?_)); (exact Dead.halt _)) | with_reducible refine RoT.bind ?_ (fun _ => ?_) | with_reducible refine RoT.ite ?_ ?_ | split | (extract_lets; skip) | dsimp only)
theorem ro_floatArith (op : BinOp) (k : FloatKind) (a b : Nat) : RoU P F' (Op.floatArith op k a b) := by
  unfold Op.floatArith
  repeat' (first | with_reducible exact ro_choose _ | with_reducible exact ro_stuck _ | with_reducible exact ro_pure _ | (with_reducible refine ro_shapeO (.inr ⟨_, rfl⟩) (fun _ => ?_)) | ((with_reducible refine ro_shapeO (.inl ?_) (fun _ => ?_)); (exact Dead.halt _)) | with_reducible refine RoT.bind ?_ (fun _ => ?_) | with_reducible refine RoT.ite ?_ ?_ | split | (extract_lets; skip) | dsimp only)
theorem ro_floatCmp (op : BinOp) (k : FloatKind) (a b : Nat) : RoU P F' (Op.floatCmp op k a b) := by
  unfold Op.floatCmp
  repeat' (first | with_reducible exact ro_stuck _ | with_reducible exact ro_pure _ | (with_reducible refine ro_shapeO (.inr ⟨_, rfl⟩) (fun _ => ?_)) | ((with_reducible refine ro_shapeO (.inl ?_) (fun _ => ?_)); (exact Dead.halt _)) | with_reducible refine RoT.bind ?_ (fun _ => ?_) | with_reducible refine RoT.ite ?_ ?_ | split | (extract_lets; skip) | dsimp only)
theorem ro_twoPlaces (a b : Addr) : RoU P F' (Op.twoPlaces a b) := by
  unfold Op.twoPlaces
  repeat' (first | with_reducible exact ro_byteOf _ | with_reducible exact ro_unsupported _ | with_reducible exact ro_pure _ | with_reducible refine ro_prog rfl ?_ | (with_reducible refine ro_shapeO (.inr ⟨_, rfl⟩) (fun _ => ?_)) | ((with_reducible refine ro_shapeO (.inl ?_) (fun _ => ?_)); (exact Dead.halt _)) | with_reducible refine RoT.bind ?_ (fun _ => ?_) | with_reducible refine RoT.ite ?_ ?_ | split | (extract_lets; skip) | dsimp only)
theorem ro_addrSub (k : IntKind) (a b : Addr) : RoU P F' (Op.addrSub k a b) := by
  unfold Op.addrSub
  repeat' (first | with_reducible exact ro_twoPlaces _ _ | with_reducible exact ro_pure _ | (with_reducible refine ro_shapeO (.inr ⟨_, rfl⟩) (fun _ => ?_)) | ((with_reducible refine ro_shapeO (.inl ?_) (fun _ => ?_)); (exact Dead.halt _)) | with_reducible refine RoT.bind ?_ (fun _ => ?_) | with_reducible refine RoT.ite ?_ ?_ | split | (extract_lets; skip) | dsimp only)
theorem ro_addrCmp (op : BinOp) (a b : Addr) : RoU P F' (Op.addrCmp op a b) := by
  unfold Op.addrCmp
  repeat' (first | with_reducible exact ro_twoPlaces _ _ | with_reducible exact ro_unsupported _ | with_reducible exact ro_pure _ | (with_reducible refine ro_shapeO (.inr ⟨_, rfl⟩) (fun _ => ?_)) | ((with_reducible refine ro_shapeO (.inl ?_) (fun _ => ?_)); (exact Dead.halt _)) | with_reducible refine RoT.bind ?_ (fun _ => ?_) | with_reducible refine RoT.ite ?_ ?_ | split | (extract_lets; skip) | dsimp only)
theorem ro_addrMod (k : IntKind) (a : Addr) (n : Int) : RoU P F' (Op.addrMod k a n) := by
  unfold Op.addrMod
  repeat' (first | with_reducible exact ro_byteOf _ | with_reducible exact ro_typeInfo _ | with_reducible exact ro_unsupported _ | with_reducible exact ro_pure _ | (with_reducible refine ro_shapeO (.inr ⟨_, rfl⟩) (fun _ => ?_)) | ((with_reducible refine ro_shapeO (.inl ?_) (fun _ => ?_)); (exact Dead.halt _)) | with_reducible refine RoT.bind ?_ (fun _ => ?_) | with_reducible refine RoT.ite ?_ ?_ | split | (extract_lets; skip) | dsimp only)
theorem ro_unsafeAdd (ts : Array TypeId) (t : TypeId) (ptr : Option Addr) (y : Value) : RoU P F' (Builtin.unsafeAdd_ ts t #[.pointer ptr, y]) := by
  unfold Builtin.unsafeAdd_
  refine RoT.bind (ro_asInt _) (fun n => ?_)
  dsimp only
  split
  · split
    · refine RoT.bind (ro_viewAt _) (fun _ => ?_)
      split
      · exact RoT.bind (ro_unsupported _) (fun _ => ro_pure _)
      · exact ro_pure _
    · exact ro_unsupported _
  · have tail : RoU P F' (match ptr with | some a => (do let __discr ← shape a.block; match __discr with | some (e, cells) => (do let p ← program; match cellAtBytes p p.depth e (cells / p.cellsOf e) a.off n with | some off => pure (.pointer (some { a with off })) | none => unsupported (.unsafePointer "Add")) | x => unsupported (.unsafePointer "Add")) | x => unsupported (.unsafePointer "Add") : Sem Value) := by
      split
      · refine ro_shapeO (.inl (Dead.halt _)) (fun _ => ?_)
        split
        · refine ro_prog ?_ ?_
          · simp only [tw_cellAtBytes]; rfl
          · split
            · exact ro_pure _
            · exact ro_unsupported _
        · exact ro_unsupported _
      · exact ro_unsupported _
    split
    · exact RoT.bind (ro_unsupported _) (fun _ => tail)
    · exact tail
theorem ro_unsafeAddV (ts : Array TypeId) (t : TypeId) (x y : Value) : RoU P F' (Builtin.unsafeAdd_ ts t #[x, y]) := by
  cases x <;> first | exact ro_unsafeAdd _ _ _ _ | (unfold Builtin.unsafeAdd_; exact ro_stuck _)
theorem ro_movedNumber (t : TypeId) (x y : Value) : RoU P F' (movedNumber t x y) := by
  unfold movedNumber
  repeat' (first | with_reducible exact ro_unsafeAddV _ _ _ _ | with_reducible exact ro_behindNumber _ | with_reducible exact ro_asNumber _ _ | with_reducible exact ro_underlying _ | with_reducible exact ro_unsupported _ | with_reducible exact ro_pure _ | (with_reducible refine ro_shapeO (.inr ⟨_, rfl⟩) (fun _ => ?_)) | ((with_reducible refine ro_shapeO (.inl ?_) (fun _ => ?_)); (exact Dead.halt _)) | with_reducible refine RoT.bind ?_ (fun _ => ?_) | with_reducible refine RoT.ite ?_ ?_ | split | (extract_lets; skip) | dsimp only)
theorem ro_floatToFloat (a : FloatKind) (b : Nat) (c : FloatKind) : RoU P F' (Conv.floatToFloat a b c) := by
  unfold Conv.floatToFloat
  repeat' (first | with_reducible exact ro_choose _ | with_reducible exact ro_pure _ | (with_reducible refine ro_shapeO (.inr ⟨_, rfl⟩) (fun _ => ?_)) | ((with_reducible refine ro_shapeO (.inl ?_) (fun _ => ?_)); (exact Dead.halt _)) | with_reducible refine RoT.bind ?_ (fun _ => ?_) | with_reducible refine RoT.ite ?_ ?_ | split | (extract_lets; skip) | dsimp only)
theorem ro_carith (op : BinOp) (k : FloatKind) (a b : Nat) : RoU P F' (Op.Complex.arith op k a b) := by
  unfold Op.Complex.arith
  repeat' (first | with_reducible exact ro_floatArith _ _ _ _ | with_reducible exact ro_stuck _ | with_reducible exact ro_pure _ | (with_reducible refine ro_shapeO (.inr ⟨_, rfl⟩) (fun _ => ?_)) | ((with_reducible refine ro_shapeO (.inl ?_) (fun _ => ?_)); (exact Dead.halt _)) | with_reducible refine RoT.bind ?_ (fun _ => ?_) | with_reducible refine RoT.ite ?_ ?_ | split | (extract_lets; skip) | dsimp only)
theorem ro_ccmp (op : BinOp) (k : FloatKind) (a b : Nat) : RoU P F' (Op.Complex.cmp op k a b) := by
  unfold Op.Complex.cmp
  repeat' (first | with_reducible exact ro_floatCmp _ _ _ _ | with_reducible exact ro_asBool _ | (with_reducible refine ro_shapeO (.inr ⟨_, rfl⟩) (fun _ => ?_)) | ((with_reducible refine ro_shapeO (.inl ?_) (fun _ => ?_)); (exact Dead.halt _)) | with_reducible refine RoT.bind ?_ (fun _ => ?_) | with_reducible refine RoT.ite ?_ ?_ | split | (extract_lets; skip) | dsimp only)
theorem ro_cconv (s : FloatKind) (a : Nat) (d : FloatKind) : RoU P F' (Op.Complex.conv s a d) := by
  unfold Op.Complex.conv
  repeat' (first | with_reducible exact ro_floatToFloat _ _ _ | with_reducible exact ro_stuck _ | with_reducible exact ro_pure _ | (with_reducible refine ro_shapeO (.inr ⟨_, rfl⟩) (fun _ => ?_)) | ((with_reducible refine ro_shapeO (.inl ?_) (fun _ => ?_)); (exact Dead.halt _)) | with_reducible refine RoT.bind ?_ (fun _ => ?_) | with_reducible refine RoT.ite ?_ ?_ | split | (extract_lets; skip) | dsimp only)
theorem ro_cadd (a b : Nat) : RoU P F' (Op.Complex.add a b) := by
  unfold Op.Complex.add
  repeat' (first | with_reducible exact ro_carith _ _ _ _ | (with_reducible refine ro_shapeO (.inr ⟨_, rfl⟩) (fun _ => ?_)) | ((with_reducible refine ro_shapeO (.inl ?_) (fun _ => ?_)); (exact Dead.halt _)) | with_reducible refine RoT.bind ?_ (fun _ => ?_) | with_reducible refine RoT.ite ?_ ?_ | split | (extract_lets; skip) | dsimp only)
theorem ro_csub (a b : Nat) : RoU P F' (Op.Complex.sub a b) := by
  unfold Op.Complex.sub
  repeat' (first | with_reducible exact ro_carith _ _ _ _ | (with_reducible refine ro_shapeO (.inr ⟨_, rfl⟩) (fun _ => ?_)) | ((with_reducible refine ro_shapeO (.inl ?_) (fun _ => ?_)); (exact Dead.halt _)) | with_reducible refine RoT.bind ?_ (fun _ => ?_) | with_reducible refine RoT.ite ?_ ?_ | split | (extract_lets; skip) | dsimp only)
theorem ro_cmul (a b : Nat) : RoU P F' (Op.Complex.mul a b) := by
  unfold Op.Complex.mul
  repeat' (first | with_reducible exact ro_carith _ _ _ _ | (with_reducible refine ro_shapeO (.inr ⟨_, rfl⟩) (fun _ => ?_)) | ((with_reducible refine ro_shapeO (.inl ?_) (fun _ => ?_)); (exact Dead.halt _)) | with_reducible refine RoT.bind ?_ (fun _ => ?_) | with_reducible refine RoT.ite ?_ ?_ | split | (extract_lets; skip) | dsimp only)
theorem ro_cquo (a b : Nat) : RoU P F' (Op.Complex.quo a b) := by
  unfold Op.Complex.quo
  repeat' (first | with_reducible exact ro_carith _ _ _ _ | (with_reducible refine ro_shapeO (.inr ⟨_, rfl⟩) (fun _ => ?_)) | ((with_reducible refine ro_shapeO (.inl ?_) (fun _ => ?_)); (exact Dead.halt _)) | with_reducible refine RoT.bind ?_ (fun _ => ?_) | with_reducible refine RoT.ite ?_ ?_ | split | (extract_lets; skip) | dsimp only)
theorem ro_cproduct (a b c d : Nat) : RoU P F' (Op.Complex.product a b c d) := by
  unfold Op.Complex.product
  repeat' (first | with_reducible exact ro_cmul _ _ | with_reducible exact ro_cadd _ _ | with_reducible exact ro_csub _ _ | with_reducible exact ro_pure _ | with_reducible refine RoT.bind ?_ (fun _ => ?_) | with_reducible refine RoT.ite ?_ ?_ | split | dsimp only)
theorem ro_ccorrected (e a b c d : Nat) : RoU P F' (Op.Complex.corrected e a b c d) := by
  unfold Op.Complex.corrected
  repeat' (first | with_reducible exact ro_cmul _ _ | with_reducible exact ro_cadd _ _ | with_reducible exact ro_csub _ _ | with_reducible exact ro_pure _ | with_reducible refine RoT.bind ?_ (fun _ => ?_) | with_reducible refine RoT.ite ?_ ?_ | split | dsimp only)
theorem ro_cquotient (a b c d : Nat) : RoU P F' (Op.Complex.quotient a b c d) := by
  unfold Op.Complex.quotient
  repeat' (first | with_reducible exact ro_ccorrected _ _ _ _ _ | with_reducible exact ro_cmul _ _ | with_reducible exact ro_cadd _ _ | with_reducible exact ro_csub _ _ | with_reducible exact ro_cquo _ _ | with_reducible exact ro_ccmp _ _ _ _ | with_reducible exact ro_pure _ | with_reducible refine RoT.bind ?_ (fun _ => ?_) | with_reducible refine RoT.ite ?_ ?_ | split | dsimp only)
theorem ro_complexOp (op : BinOp) (k : FloatKind) (a b c d : Nat) : RoU P F' (Op.complexOp op k a b c d) := by
  unfold Op.complexOp
  repeat' (first | with_reducible exact ro_cproduct _ _ _ _ | with_reducible exact ro_cquotient _ _ _ _ | with_reducible exact ro_ccmp _ _ _ _ | with_reducible exact ro_carith _ _ _ _ | with_reducible exact ro_cconv _ _ _ | with_reducible exact ro_pure _ | with_reducible exact ro_stuck _ | with_reducible refine RoT.bind ?_ (fun _ => ?_) | with_reducible refine RoT.ite ?_ ?_ | split | dsimp only)
theorem ro_movedPointer (t : TypeId) (x y : Value) : RoU P F' (movedPointer t x y) := by
  unfold movedPointer
  repeat' (first | with_reducible exact ro_unsafeAddV _ _ _ _ | with_reducible exact ro_numberAt _ | with_reducible exact ro_unsupported _ | (with_reducible refine ro_shapeO (.inr ⟨_, rfl⟩) (fun _ => ?_)) | ((with_reducible refine ro_shapeO (.inl ?_) (fun _ => ?_)); (exact Dead.halt _)) | with_reducible refine RoT.bind ?_ (fun _ => ?_) | with_reducible refine RoT.ite ?_ ?_ | split | (extract_lets; skip) | dsimp only)
theorem ro_binOp (op : BinOp) (t : TypeId) (x y : Value) (h : op ≠ .eql ∧ op ≠ .neq) : RoU P F' (binOp op t x y) := by
  unfold binOp
  split
  all_goals first
    | exact ro_shift _ _ _ _ _
    | exact ro_stringOp _ _ _
    | exact ro_movedNumber _ _ _
    | exact ro_unsupported _
    | exact ro_stuck _
    | exact RoT.ite (ro_stuck _) (ro_complexOp _ _ _ _ _ _)
    | (refine RoT.ite (ro_stuck _) ?_; split <;> first | exact ro_intArith _ _ _ _ | exact ro_intDiv _ _ _ _ | exact ro_intBits _ _ _ _ | exact ro_intCmp _ _ _ | exact ro_floatArith _ _ _ _ | exact ro_floatCmp _ _ _ _)
    | exact absurd rfl h.1
    | exact absurd rfl h.2
    | exact RoT.bind (ro_behindNumber _) (fun _ => RoT.bind (ro_behindNumber _) (fun _ => ro_addrSub _ _ _))
    | exact RoT.bind (ro_behindNumber _) (fun _ => RoT.bind (ro_behindNumber _) (fun _ => ro_addrCmp _ _ _))
    | exact RoT.bind (ro_behindNumber _) (fun _ => ro_addrMod _ _ _)
    | (refine RoT.bind (ro_underlying _) (fun _ => ?_); split <;> (try split) <;> first | exact ro_movedPointer _ _ _ | exact ro_movedNumber _ _ _)
theorem ro_value {m : Sem Value} {F : FuncId → Prop} (h : RoU P F' m) : RoT P F' (okNext F) (do Pure.pure (Next.value (← m)) : Sem Next) := h.bindQ (fun _ _ => .pure _ trivial)
/-- Operations that only read. -/
def roOpB (o : Oper) : Bool :=
  match o.op with
  | .move _ | .assign _ | .build .. | .load .. | .indexAddr .. => true
  | .binOp op _ _ _ _ => op != .eql && op != .neq
  | .call { callee := .builtin .len, .. } => true
  | _ => false
theorem roOp_of {F : FuncId → Prop} {o : Oper} (h : roOpB o = true) (ρ : Operand → Value) : RoT P F' (okNext F) (execOp ρ o) := by
  unfold roOpB at h
  unfold execOp
  obtain ⟨dst, op, type, pos, after, guard⟩ := o
  dsimp only at h ⊢
  cases op <;> dsimp only at h ⊢ <;> try (cases h; done)
  case move x => exact .pure _ trivial
  case assign x => exact .pure _ trivial
  case build t ps => exact ro_value (ro_build _ _)
  case load t a => exact ro_value (ro_loadAt _ _)
  case indexAddr t x i => exact ro_value (ro_indexAt _ _ _)
  case binOp op t x y t2 =>
    rw [Bool.and_eq_true] at h
    have h1 : op ≠ .eql := by rintro rfl; exact absurd h.1 (by decide)
    have h2 : op ≠ .neq := by rintro rfl; exact absurd h.2 (by decide)
    have e : eqGuard op t x y (ρ x) (ρ y) = Pure.pure () := by
      unfold eqGuard
      cases op <;> first | rfl | exact absurd rfl h1 | exact absurd rfl h2
    rw [e]
    exact ro_value (RoT.bind (ro_pure _) (fun _ => ro_binOp _ _ _ _ ⟨h1, h2⟩))
  case call c =>
    obtain ⟨callee, args, argTypes⟩ := c
    cases callee with
    | builtin b =>
      cases b <;> dsimp only at h <;> try (cases h; done)
      case len => exact ro_value (ro_len _ _ _)
    | invoke r n => cases h
    | value x => cases h
end
end Go.Goes

-- Term
/-
  From a lone contract at every world: it comes to its return, whatever is drawn between its steps.
-/
namespace Go.Goes
open Go.Conc (G solo)

section
variable {P : Program} {F : FuncId → Prop}

theorem calm_results (fn : Func) (tmps : Array Value) : CalmT P (results fn tmps) := by
  unfold results
  refine Calm.bind (calm_arrayMapM _ (fun x => ?_) _) (fun _ => calm_pure _)
  cases x with
  | tmp t => exact calm_pure _
  | cell a t => exact Calm.bind (calm_asAddr _) (fun _ => calm_loadVar _ _)

/-- A frame that returns to one below. -/
theorem back_on {fr : Frame} (hm : fr.mode = .returning) (hc : CalmF P F fr) (w : World) (τ : Nat → Question → Nat) (d : Nat) :
    ∃ (k : Nat) (u : World) (es : Array Event) (o : Except Outcome Value), (∀ e ∈ es, Tame e) ∧
      ∀ c cs τ' d', (∀ i, i < k → τ' (d' + i) = τ (d + i)) → stepG P true (G fr (c :: cs)) (w.re τ' d') = (match o with | .ok v => .go (G (c.finish v) cs) (u.re τ' (d' + k)) es | .error x => .ended x (u.re τ' (d' + k)) es) := by
  obtain ⟨fn, hfn⟩ := Option.isSome_iff_exists.1 hc.known
  obtain ⟨n, u, r, fs, ⟨h1, h1'⟩, h2, h3⟩ := (calm_results (P := P) fn fr.tmps).retape τ w d #[]
  have hts : ∀ e ∈ seen P fr.fn fs, Tame e := seen_tame _ (fun e he => (h2 e he).resolve_left (by simp))
  have hr : ∀ (τ' : Nat → Question → Nat) (d' : Nat), (∀ j, j < n → τ' (d' + j) = τ (d + j)) → (results fn fr.tmps).run P (w.re τ' d') = Result.of r (u.re τ' (d' + n)) := fun τ' d' hh => by
    have := h3 τ' d' hh; rw [Sem.runT_eq] at this; exact (Prod.mk.inj this).1
  have hv : ∀ (τ' : Nat → Question → Nat) (d' : Nat), (∀ j, j < n → τ' (d' + j) = τ (d + j)) → (results fn fr.tmps).events P (w.re τ' d') #[] = fs := fun τ' d' hh => by
    have := h3 τ' d' hh; rw [Sem.runT_eq] at this; exact (Prod.mk.inj this).2
  have hd := hc.defers
  have hk := hc.kind
  cases r with
  | ok v => exact ⟨n, u, seen P fr.fn fs, .ok v, hts, fun c cs τ' d' hh => by simp [stepG, unwind, doReturn, G, hm, hd, hk, hfn, hr τ' d' hh, hv τ' d' hh, Result.of, GStep.after]⟩
  | error h =>
    have hp := h1' h rfl
    cases h <;> try exact hp.elim
    case stuck s => exact ⟨n, u, seen P fr.fn fs, .error (.stuck s (fr.pos P)), hts, fun c cs τ' d' hh => by simp [stepG, unwind, G, hm, hd, hfn, hr τ' d' hh, hv τ' d' hh, Result.of, GStep.after]⟩
    case panic v => exact ⟨n, u, seen P fr.fn fs, .error (.stuck "return: the result variables cannot be read" (fr.pos P)), hts, fun c cs τ' d' hh => by simp [stepG, unwind, G, hm, hd, hfn, hr τ' d' hh, hv τ' d' hh, Result.of, GStep.after]⟩
    case unsupported s => exact ⟨n, u, seen P fr.fn fs, .error (.stuck "return: the result variables cannot be read" (fr.pos P)), hts, fun c cs τ' d' hh => by simp [stepG, unwind, G, hm, hd, hfn, hr τ' d' hh, hv τ' d' hh, Result.of, GStep.after]⟩

theorem raise_on {fr : Frame} {ch : List PanicEntry} (hm : fr.mode = .panicking ch) (hd : fr.defers = []) (hk : (P.funcs[fr.fn]?).isSome = true) (c : Frame) (cs : List Frame) (w : World) : stepG P true (G fr (c :: cs)) w = .go (G (c.raise ch) cs) w #[] := by
  obtain ⟨fn, hfn⟩ := Option.isSome_iff_exists.1 hk
  simp [stepG, unwind, G, hm, hd, Frame.catches, hfn]

/-- One step, uniform in what lies below and on every tape that agrees on its draws. -/
structure Nx where
  k : Nat
  u : World
  es : Array Event
  fr : Frame
  rest : List Frame
def Nx.of (P : Program) (fr : Frame) (rest : List Frame) (w : World) (τ : Nat → Question → Nat) (d : Nat) (x : Nx) : Prop :=
  (∀ e ∈ x.es, Tame e) ∧ ∀ (cs : List Frame) (τ' : Nat → Question → Nat) (d' : Nat), (∀ i, i < x.k → τ' (d' + i) = τ (d + i)) → stepG P true (G fr (rest ++ cs)) (w.re τ' d') = .go (G x.fr (x.rest ++ cs)) (x.u.re τ' (d' + x.k)) x.es
/-- IT COMES TO ITS STOP, WHATEVER IS DRAWN BETWEEN ITS STEPS: the frames above those that were there. -/
inductive Term (P : Program) (Stop : Frame → World → Prop) : Frame → List Frame → World → Prop
  | stop {fr : Frame} {w : World} (h : Stop fr w) : Term P Stop fr [] w
  | step {fr : Frame} {rest : List Frame} {w : World} (x : (Nat → Question → Nat) → Nat → Nx) (h : ∀ τ d, (x τ d).of P fr rest w τ d) (ht : ∀ τ d, Term P Stop (x τ d).fr (x τ d).rest (x τ d).u) : Term P Stop fr rest w
theorem Term.mk {Stop : Frame → World → Prop} {fr : Frame} {rest : List Frame} {w : World} (h : ∀ (τ : Nat → Question → Nat) (d : Nat), ∃ x : Nx, x.of P fr rest w τ d ∧ Term P Stop x.fr x.rest x.u) : Term P Stop fr rest w :=
  .step (fun τ d => Classical.choose (h τ d)) (fun τ d => (Classical.choose_spec (h τ d)).1) (fun τ d => (Classical.choose_spec (h τ d)).2)

/-- The frames above those that were there, and the world. -/
structure St where
  fr : Frame
  rest : List Frame
  w : World
def Below1 (P : Program) (F : FuncId → Prop) (c : Frame) : Prop := CalmF P F c ∧ Waits c
structure CalmS (P : Program) (F : FuncId → Prop) (s : St) : Prop where
  top : CalmF P F s.fr
  rest : ∀ c ∈ s.rest, Below1 P F c
def Agrees (τ' : Nat → Question → Nat) (d' : Nat) (τ : Nat → Question → Nat) (d k : Nat) : Prop := ∀ i, i < k → τ' (d' + i) = τ (d + i)
def Uni (P : Program) (s : St) (τ : Nat → Question → Nat) (d k : Nat) (s' : St) : Prop :=
  ∃ es, ∀ cs τ' d', Agrees τ' d' τ d k → stepG P true (G s.fr (s.rest ++ cs)) (s.w.re τ' d') = .go (G s'.fr (s'.rest ++ cs)) (s'.w.re τ' (d' + k)) es
def Doom (P : Program) (s : St) (τ : Nat → Question → Nat) (d k : Nat) : Prop :=
  ∀ cs τ' d', Agrees τ' d' τ d k → (∃ o w es, stepG P true (G s.fr (s.rest ++ cs)) (s.w.re τ' d') = .ended o w es) ∨
    ∃ fr' u es ch, stepG P true (G s.fr (s.rest ++ cs)) (s.w.re τ' d') = .go (G fr' (s.rest ++ cs)) u es ∧ fr'.defers = [] ∧ (P.funcs[fr'.fn]?).isSome = true ∧ fr'.mode = .panicking ch
def Bad (P : Program) (F : FuncId → Prop) (Stop : Frame → World → Prop) (s : St) : Prop := CalmS P F s ∧ ¬ Term P Stop s.fr s.rest s.w

theorem bad_next {Stop : Frame → World → Prop} (hP : NoSteps P) (hF : ∀ f, F f → CalmFn P F f) {s : St} (h : Bad P F Stop s) :
    (∃ τ d k s', Uni P s τ d k s' ∧ Bad P F Stop s') ∨ (∃ τ d k, Doom P s τ d k) ∨ (s.rest = [] ∧ s.fr.mode = .returning) := by
  obtain ⟨hc, hn⟩ := h
  obtain ⟨fr, rest, w⟩ := s
  have hfail : ∃ (τ : Nat → Question → Nat) (d : Nat), ∀ x : Nx, x.of P fr rest w τ d → ¬ Term P Stop x.fr x.rest x.u := by
    apply Classical.byContradiction
    intro hcon
    refine hn (.mk fun τ d => ?_)
    apply Classical.byContradiction
    intro h1
    exact hcon ⟨τ, d, fun x h2 h3 => h1 ⟨x, h2, h3⟩⟩
  obtain ⟨τ, d, hfail⟩ := hfail
  rcases hc.top.mode with hm | hm
  · obtain ⟨k, u, es, o, h1, h2, h3⟩ := run_on hP hF hm hc.top w τ d
    cases o with
    | same fr' =>
      rcases h2 with h2 | ⟨h2, h2', ch, h2''⟩
      · exact .inl ⟨τ, d, k, ⟨fr', rest, u⟩, ⟨es, fun cs τ' d' hh => h3 _ τ' d' hh⟩, ⟨h2, hc.rest⟩, hfail ⟨k, u, es, fr', rest⟩ ⟨h1, fun cs τ' d' hh => h3 _ τ' d' hh⟩⟩
      · exact .inr (.inl ⟨τ, d, k, fun cs τ' d' hh => .inr ⟨fr', _, es, ch, h3 _ τ' d' hh, h2, h2', h2''⟩⟩)
    | push top below =>
      refine .inl ⟨τ, d, k, ⟨top, below :: rest, u⟩, ⟨es, fun cs τ' d' hh => h3 _ τ' d' hh⟩, ⟨h2.1, fun c hcm => ?_⟩, hfail ⟨k, u, es, top, below :: rest⟩ ⟨h1, fun cs τ' d' hh => h3 _ τ' d' hh⟩⟩
      rcases List.mem_cons.1 hcm with rfl | hcm
      · exact ⟨h2.2.1, h2.2.2⟩
      · exact hc.rest c hcm
    | ended o => exact .inr (.inl ⟨τ, d, k, fun cs τ' d' hh => .inl ⟨o, _, es, h3 _ τ' d' hh⟩⟩)
  · cases rest with
    | nil => exact .inr (.inr ⟨rfl, hm⟩)
    | cons c rest =>
      obtain ⟨k, u, es, o, h1, h3⟩ := back_on hm hc.top w τ d
      cases o with
      | ok v =>
        obtain ⟨hcc, ops, i, l, kk, hw⟩ := hc.rest c (List.mem_cons_self ..)
        exact .inl ⟨τ, d, k, ⟨c.finish v, rest, u⟩, ⟨es, fun cs τ' d' hh => h3 c _ τ' d' hh⟩, ⟨finish_calm hcc hw v, fun x hx => hc.rest x (List.mem_cons_of_mem _ hx)⟩, hfail ⟨k, u, es, c.finish v, rest⟩ ⟨h1, fun cs τ' d' hh => h3 c _ τ' d' hh⟩⟩
      | error x => exact .inr (.inl ⟨τ, d, k, fun cs τ' d' hh => .inl ⟨x, _, es, h3 c _ τ' d' hh⟩⟩)

/-- A caller below at which every way but the call's own return ends the run. -/
def dead : Frame := { (default : Frame) with fn := 0, tmps := #[], todo := [.code (.refuse "")], defers := [{ target := .nil, args := #[] }], mode := .run, kind := .normal }

theorem lone_solo (fr : Frame) (cs : List Frame) (w : World) : lone fr cs w = solo (G fr cs) w := rfl
theorem step_go {fr fr' : Frame} {cs cs' : List Frame} {w w' : World} {es : Array Event} (h : stepG P true (G fr cs) w = .go (G fr' cs') w' es) : step P (lone fr cs w) = .next (lone fr' cs' w') := by
  have := (Go.Conc.stepT_solo (P := P) (a := G fr cs) (w := w) rfl).trans (Go.Conc.runT_solo_go h)
  unfold step
  rw [lone_solo, this]
  rfl
end
end Go.Goes

-- Lone
/-
  A contract of a machine of one goroutine, at every tape, gives 'Term'.
-/
namespace Go.Goes
open Go.Conc (G solo)

section
variable {P : Program} {F : FuncId → Prop} {Stop : Frame → World → Prop}

theorem step_end {fr : Frame} {cs : List Frame} {w w' : World} {o : Outcome} {es : Array Event} (h : stepG P true (G fr cs) w = .ended o w' es) : step P (lone fr cs w) = .ended o w' := by
  have h1 := Go.Conc.stepT_solo (P := P) (a := G fr cs) (w := w) rfl
  have h2 : Go.runT P (solo (G fr cs) w) 0 = (.ended o w', MemOp.ofEvents 0 fr.fn fr.place es) := by
    simp [Go.runT, solo, Array.swapAt!, Array.swapAt, h, GStep.es]; rfl
  unfold step
  rw [lone_solo, h1, h2]
theorem runN_ended {m : Machine} {o : Outcome} {w : World} (h : step P m = .ended o w) : ∀ n, runN P (n + 1) m = .ended o w := fun n => by simp [runN, h]

/-- What a caller below that is dead does with a return, and with a panic. -/
theorem dead_run (w : World) : ∃ o w', step P (lone dead [] w) = .ended o w' := ⟨_, _, step_end (es := #[]) (by simp [stepG, stepG.exec, G, dead]; exact ⟨rfl, rfl⟩)⟩
theorem dead_raise (ch : List PanicEntry) (w : World) : ∃ o w', step P (lone (dead.raise ch) [] w) = .ended o w' :=
  ⟨_, _, step_end (es := #[]) (by simp [stepG, unwind, callDeferred, G, dead, Frame.raise]; exact ⟨rfl, rfl⟩)⟩
theorem lone_inj {fr fr' : Frame} {cs cs' : List Frame} {w w' : World} (h : lone fr cs w = lone fr' cs' w') : fr = fr' ∧ cs = cs' ∧ w = w' := by
  have h1 : (lone fr cs w).gs[0]? = (lone fr' cs' w').gs[0]? := by rw [h]
  have h2 : (lone fr cs w).world = (lone fr' cs' w').world := by rw [h]
  simp [lone] at h1
  exact ⟨h1.1, h1.2, h2⟩
theorem dead_finish (v : Value) : dead.finish v = dead := rfl

/-- Once it panics no return is seen. -/
theorem panic_run : ∀ (rest : List Frame) (_ : ∀ c ∈ rest, Below1 P F c) (fr : Frame) (ch : List PanicEntry) (_ : fr.mode = .panicking ch) (_ : fr.defers = []) (_ : (P.funcs[fr.fn]?).isSome = true) (w w' : World) (n : Nat) (fr' : Frame),
    runN P n (lone fr (rest ++ [dead]) w) = .next (lone fr' [dead] w') → ∃ ch, fr'.mode = .panicking ch := by
  intro rest
  induction rest with
  | nil =>
    intro _ fr ch hm hd hk w w' n fr' h
    match n with
    | 0 =>
      simp only [runN] at h
      injection h with h
      rw [← (lone_inj h).1]; exact ⟨ch, hm⟩
    | 1 =>
      have hs := step_go (raise_on (P := P) hm hd hk dead [] w)
      simp only [runN, List.nil_append, hs] at h
      injection h with h
      exact absurd (lone_inj h).2.1 (by simp)
    | n + 2 =>
      have hs := step_go (raise_on (P := P) hm hd hk dead [] w)
      obtain ⟨o, w2, he⟩ := dead_raise (P := P) ch w
      simp only [runN, List.nil_append, hs, he] at h
      cases h
  | cons c rest ih =>
    intro hr fr ch hm hd hk w w' n fr' h
    match n with
    | 0 =>
      simp only [runN] at h
      injection h with h
      exact absurd (congrArg List.length (lone_inj h).2.1) (by simp)
    | n + 1 =>
      have hs := step_go (raise_on (P := P) hm hd hk c (rest ++ [dead]) w)
      simp only [runN, List.cons_append, hs] at h
      obtain ⟨hc, _⟩ := hr c (List.mem_cons_self ..)
      have hcm : c.raise ch = { c with mode := .panicking ch } := by
        unfold Frame.raise; rcases hc.mode with h1 | h1 <;> rw [h1]
      rw [hcm] at h
      exact ih (fun x hx => hr x (List.mem_cons_of_mem _ hx)) { c with mode := .panicking ch } ch rfl hc.defers hc.known w w' n fr' h

theorem least {A : Nat → Prop} (h : ∃ n, A n) : ∃ n, A n ∧ ∀ m, m < n → ¬ A m := by
  obtain ⟨n, hn⟩ := h
  induction n using Nat.strongRecOn with
  | _ n ih =>
    by_cases hm : ∃ m, m < n ∧ A m
    · obtain ⟨m, h1, h2⟩ := hm; exact ih m h1 h2
    · exact ⟨n, hn, fun m h1 h2 => hm ⟨m, h1, h2⟩⟩

/-- The tape's answers at one step, and where it leads. -/
structure Pick where
  τ : Nat → Question → Nat
  d : Nat
  k : Nat
  next : Option St
def Pick.fits (P : Program) (F : FuncId → Prop) (Stop : Frame → World → Prop) (s : St) (p : Pick) : Prop :=
  (∃ s', p.next = some s' ∧ Uni P s p.τ p.d p.k s' ∧ Bad P F Stop s') ∨ (p.next = none ∧ (Doom P s p.τ p.d p.k ∨ (s.rest = [] ∧ s.fr.mode = .returning)))
theorem pick_is (hP : NoSteps P) (hF : ∀ f, F f → CalmFn P F f) (s : St) (h : Bad P F Stop s) : ∃ p : Pick, p.fits P F Stop s := by
  rcases bad_next hP hF h with ⟨τ, d, k, s', h1, h2⟩ | ⟨τ, d, k, h1⟩ | h1
  · exact ⟨⟨τ, d, k, some s'⟩, .inl ⟨s', rfl, h1, h2⟩⟩
  · exact ⟨⟨τ, d, k, none⟩, .inr ⟨rfl, .inl h1⟩⟩
  · exact ⟨⟨fun _ _ => 0, 0, 0, none⟩, .inr ⟨rfl, .inr h1⟩⟩

section
variable (pk : St → Pick) (s0 : St)
def path : Nat → Option St
  | 0 => some s0
  | n + 1 => (path n).bind fun s => (pk s).next
def drawsAt (n : Nat) : Nat := match path pk s0 n with | some s => (pk s).k | none => 0
def drawn (n : Nat) : Nat := match n with | 0 => 0 | n + 1 => drawn n + drawsAt pk s0 n
open Classical in
/-- The tape of the whole way: at place p the answers of the step in which p is drawn. -/
noncomputable def whole (p : Nat) : Question → Nat :=
  if h : ∃ n, p < drawn pk s0 (n + 1) then
    (match path pk s0 (Classical.choose (least h)) with | some s => (pk s).τ ((pk s).d + (p - drawn pk s0 (Classical.choose (least h)))) | none => fun _ => 0)
  else fun _ => 0
theorem drawn_mono {m n : Nat} (h : m ≤ n) : drawn pk s0 m ≤ drawn pk s0 n := by
  induction n with
  | zero => cases Nat.le_zero.1 h; exact Nat.le_refl _
  | succ n ih =>
    rcases Nat.lt_or_ge m (n + 1) with h1 | h1
    · exact Nat.le_trans (ih (by omega)) (Nat.le_add_right _ _)
    · have : m = n + 1 := by omega
      subst this; exact Nat.le_refl _
theorem whole_at {n : Nat} {s : St} (hs : path pk s0 n = some s) : Agrees (whole pk s0) (drawn pk s0 n) (pk s).τ (pk s).d (pk s).k := by
  intro i hi
  have hn : drawn pk s0 n + i < drawn pk s0 (n + 1) := by
    show _ < drawn pk s0 n + drawsAt pk s0 n
    unfold drawsAt; rw [hs]; dsimp only; omega
  have hex : ∃ m, drawn pk s0 n + i < drawn pk s0 (m + 1) := ⟨n, hn⟩
  have e : Classical.choose (least hex) = n := by
    obtain ⟨h1, h2⟩ := Classical.choose_spec (least hex)
    generalize Classical.choose (least hex) = m at h1 h2
    rcases Nat.lt_trichotomy m n with h3 | h3 | h3
    · have := drawn_mono pk s0 (m := m + 1) (n := n) (by omega); omega
    · exact h3
    · exact absurd hn (h2 n h3)
  unfold whole
  rw [dif_pos hex, e, hs]
  dsimp only
  rw [show drawn pk s0 n + i - drawn pk s0 n = i by omega]
theorem path_run (hU : ∀ n s s', path pk s0 n = some s → (pk s).next = some s' → Uni P s (pk s).τ (pk s).d (pk s).k s') : ∀ (n : Nat) (s : St), path pk s0 n = some s →
    runN P n (lone s0.fr (s0.rest ++ [dead]) (s0.w.re (whole pk s0) 0)) = .next (lone s.fr (s.rest ++ [dead]) (s.w.re (whole pk s0) (drawn pk s0 n))) := by
  intro n
  induction n with
  | zero => intro s h; cases h; rfl
  | succ n ih =>
    intro s' h
    simp only [path] at h
    cases hs : path pk s0 n with
    | none => rw [hs] at h; cases h
    | some s =>
      rw [hs] at h
      obtain ⟨es, hu⟩ := hU n s s' hs h
      have h1 := step_go (hu [dead] (whole pk s0) (drawn pk s0 n) (whole_at pk s0 hs))
      rw [runN_add, ih s hs]
      have e : drawn pk s0 (n + 1) = drawn pk s0 n + (pk s).k := by
        show drawn pk s0 n + drawsAt pk s0 n = _
        unfold drawsAt; rw [hs]
      rw [e]
      simp only [runN, h1]
end

/-- **FROM A LONE CONTRACT AT EVERY TAPE: IT COMES TO ITS RETURN, WHATEVER IS DRAWN BETWEEN ITS STEPS.** -/
theorem term_of_steps (hP : NoSteps P) (hF : ∀ f, F f → CalmFn P F f) {fr0 : Frame} (hf : CalmF P F fr0) {w : World} {R : (Nat → Question → Nat) → Frame → World → Prop}
    (h : ∀ τ, ∃ fr' w', Steps P (lone fr0 [dead] (w.re τ 0)) (lone fr' [dead] w') ∧ R τ fr' w' ∧ ∀ ch, fr'.mode ≠ .panicking ch) :
    Term P (fun fr u => ∃ τ d', R τ fr (u.re τ d')) fr0 [] w := by
  obtain ⟨Stop, hStop⟩ : ∃ S : Frame → World → Prop, S = fun fr u => ∃ τ d', R τ fr (u.re τ d') := ⟨_, rfl⟩
  rw [← hStop]
  apply Classical.byContradiction
  intro hn
  have hpk0 : ∀ s, ∃ p : Pick, Bad P F Stop s → p.fits P F Stop s := fun s => by
    by_cases hb : Bad P F Stop s
    · obtain ⟨p, hp⟩ := pick_is hP hF s hb; exact ⟨p, fun _ => hp⟩
    · exact ⟨⟨fun _ _ => 0, 0, 0, none⟩, fun h => absurd h hb⟩
  obtain ⟨pk, hpk⟩ : ∃ pk : St → Pick, ∀ s, Bad P F Stop s → (pk s).fits P F Stop s := ⟨fun s => Classical.choose (hpk0 s), fun s => Classical.choose_spec (hpk0 s)⟩
  have hb0 : Bad P F Stop (⟨fr0, [], w⟩ : St) := ⟨⟨hf, by simp⟩, hn⟩
  have hbad : ∀ n s, path pk ⟨fr0, [], w⟩ n = some s → Bad P F Stop s := by
    intro n
    induction n with
    | zero => intro s hs; cases hs; exact hb0
    | succ n ih =>
      intro s' hs
      simp only [path] at hs
      cases h1 : path pk ⟨fr0, [], w⟩ n with
      | none => rw [h1] at hs; cases hs
      | some s =>
        rw [h1] at hs
        rcases hpk s (ih s h1) with ⟨s2, e, _, hb⟩ | ⟨e, _⟩
        · have : (pk s).next = some s' := hs
          rw [e] at this; cases this; exact hb
        · have : (pk s).next = some s' := hs
          rw [e] at this; cases this
  have hU : ∀ n s s', path pk ⟨fr0, [], w⟩ n = some s → (pk s).next = some s' → Uni P s (pk s).τ (pk s).d (pk s).k s' := by
    intro n s s' h1 h2
    rcases hpk s (hbad n s h1) with ⟨s2, e, hu, _⟩ | ⟨e, _⟩
    · rw [e] at h2; cases h2; exact hu
    · rw [e] at h2; cases h2
  have hrun := path_run (P := P) pk ⟨fr0, [], w⟩ hU
  obtain ⟨fr', w', hC, hR, hl⟩ := h (whole pk ⟨fr0, [], w⟩)
  obtain ⟨N, hN⟩ := hC
  have hN' : runN P N (lone (fr0) ([] ++ [dead]) (w.re (whole pk ⟨fr0, [], w⟩) 0)) = .next (lone fr' [dead] w') := hN
  cases hp : path pk ⟨fr0, [], w⟩ N with
  | some s =>
    have h1 := hrun N s hp
    rw [hN'] at h1
    injection h1 with h1
    obtain ⟨e1, e2, e3⟩ := lone_inj h1
    have hr : s.rest = [] := by
      have := congrArg List.length e2
      simp at this
      exact this
    refine (hbad N s hp).2 ?_
    rw [hr]
    refine .stop ?_
    rw [hStop]
    exact ⟨_, _, by rw [← e3, ← e1]; exact hR⟩
  | none =>
    obtain ⟨L, hL1, hL2⟩ := least (A := fun n => path pk ⟨fr0, [], w⟩ n = none) ⟨N, hp⟩
    have hLN : L ≤ N := by
      rcases Nat.lt_or_ge N L with h1 | h1
      · exact absurd hp (hL2 N h1)
      · exact h1
    match L, hL1, hL2, hLN with
    | 0, hL1, _, _ => cases hL1
    | L + 1, hL1, hL2, hLN =>
      cases hs : path pk ⟨fr0, [], w⟩ L with
      | none => exact hL2 L (by omega) hs
      | some s =>
        have h1 := hrun L s hs
        have hnx : (pk s).next = none := by
          have h2 := hL1
          simp only [path] at h2
          rw [hs] at h2; exact h2
        have hbs := hbad L s hs
        obtain ⟨M, rfl⟩ : ∃ M, N = L + (M + 1) := ⟨N - L - 1, by omega⟩
        rw [runN_add, h1] at hN'
        dsimp only at hN'
        rcases hpk s hbs with ⟨s2, e, _⟩ | ⟨_, hd | ⟨hr, hm⟩⟩
        · rw [hnx] at e; cases e
        · rcases hd [dead] _ _ (whole_at pk _ hs) with ⟨o, w2, es, he⟩ | ⟨fr2, u, es, ch, hg, hd2, hk2, hm2⟩
          · rw [runN_ended (step_end he)] at hN'; cases hN'
          · have hs2 := step_go hg
            simp only [runN, hs2] at hN'
            obtain ⟨ch', hm'⟩ := panic_run s.rest hbs.1.rest fr2 ch hm2 hd2 hk2 _ _ M fr' hN'
            exact hl ch' hm'
        · rw [hr] at hN'
          obtain ⟨k, u, es, o, _, hb⟩ := back_on hm hbs.1.top s.w (whole pk ⟨fr0, [], w⟩) (drawn pk ⟨fr0, [], w⟩ L)
          have hb' := hb dead [] (whole pk ⟨fr0, [], w⟩) (drawn pk ⟨fr0, [], w⟩ L) (fun _ _ => rfl)
          cases o with
          | error x => rw [List.nil_append, runN_ended (step_end hb')] at hN'; cases hN'
          | ok v2 =>
            have hs2 := step_go hb'
            simp only [runN, List.nil_append, hs2] at hN'
            match M with
            | 0 => simp only [runN] at hN'; injection hN' with hN'; exact absurd (lone_inj hN').2.1 (by simp)
            | M + 1 =>
              rw [dead_finish] at hN'
              obtain ⟨o, w3, he⟩ := dead_run (P := P) (u.re (whole pk ⟨fr0, [], w⟩) (drawn pk ⟨fr0, [], w⟩ L + k))
              rw [runN_ended he] at hN'; cases hN'

theorem term_of_calls (hP : NoSteps P) (hF : ∀ f, F f → CalmFn P F f) {f : FuncId} (hf : F f) {args : Array Value} {w : World} {R : (Nat → Question → Nat) → Ending → World → Prop}
    (h : ∀ τ, Calls P f args (w.re τ 0) (R τ)) (hret : ∀ τ e w', R τ e w' → ∃ v, e = .returned v) :
    Term P (fun fr u => ∃ τ d', ∃ v, fr.leaving P (u.re τ d') (.returned v) ∧ R τ (.returned v) (u.re τ d')) (Frame.enter P f args .normal) [] w :=
  term_of_steps (R := fun τ fr w' => ∃ v, fr.leaving P w' (.returned v) ∧ R τ (.returned v) w') hP hF (enter_calm (hF f hf) args) fun τ => by
    obtain ⟨e, w', fr', hR, hC, _, hl⟩ := h τ [dead]
    obtain ⟨v, rfl⟩ := hret _ _ _ hR
    exact ⟨fr', w', hC, ⟨v, hl, hR⟩, fun ch hm => by rw [hl.1] at hm; cases hm⟩
end
end Go.Goes

-- Ends
/-
  Beside goroutines that only leave: the run ends well, told from goroutine 0's place.
-/
namespace Go.Goes
open Go.Conc
open Go.ConcN (sumTo upd sumTo_upd upd_ne upd_same)

section
variable {P : Program} {Post : Value → World → Prop}

/-- Every address of these entries lies below some block. -/
theorem low_some (x : MemAct) : ∃ B, x.low B := by
  cases x with
  | access e =>
    obtain ⟨loc, wr, sy⟩ := e
    cases loc with
    | cell a => exact ⟨a.block + 1, Nat.lt_succ_self _⟩
    | obj r => exact ⟨r + 1, Nat.lt_succ_self _⟩
    | output => exact ⟨0, trivial⟩
    | goroutines => exact ⟨0, trivial⟩
    | mark m => exact ⟨0, trivial⟩
  | mark m => cases m <;> first | exact ⟨0, trivial⟩ | exact ⟨_, Nat.lt_succ_self _⟩
  | go _ => exact ⟨0, trivial⟩
  | start => exact ⟨0, trivial⟩
  | send _ _ => exact ⟨_, Nat.lt_succ_self _⟩
  | sendDone _ _ => exact ⟨_, Nat.lt_succ_self _⟩
  | recv _ _ _ => exact ⟨_, Nat.lt_succ_self _⟩
  | recvDone _ _ => exact ⟨_, Nat.lt_succ_self _⟩
  | close _ => exact ⟨_, Nat.lt_succ_self _⟩
  | recvClosed _ => exact ⟨_, Nat.lt_succ_self _⟩
theorem low_all (l : List Event) : ∃ B, ∀ e ∈ l, (MemAct.ofEvent e).low B := by
  induction l with
  | nil => exact ⟨0, by simp⟩
  | cons a l ih =>
    obtain ⟨B, hB⟩ := ih
    obtain ⟨C, hC⟩ := low_some (MemAct.ofEvent a)
    refine ⟨max B C, fun e he => ?_⟩
    rcases List.mem_cons.1 he with rfl | he
    · exact MemAct.low_mono (Nat.le_max_right _ _) hC
    · exact MemAct.low_mono (Nat.le_max_left _ _) (hB e he)

/-- What is held of the trace between two calls that go. -/
def Past0 (t : Trace) : Prop := ∃ B, Past (fun _ => False) B t
theorem Past0.own {t : Trace} (h : Past0 t) {fn : FuncId} {pos : String} {es : Array Event} (hes : ∀ e ∈ es, Tame e) : Past0 (t ++ MemOp.ofEvents 0 fn pos es) := by
  obtain ⟨B, h⟩ := h
  obtain ⟨C, hC⟩ := low_all es.toList
  refine ⟨max B C, (h.mono (Nat.le_max_left _ _)).own fun e he => ⟨fun _ _ hf => hf.elim, (hes e he).1, (hes e he).2, MemAct.low_mono (Nat.le_max_right _ _) (hC e (Array.mem_toList_iff.2 he))⟩⟩
theorem Past0.mute {t : Trace} (h : Past0 t) {g : Nat} (hg : g ≠ 0) {fn : FuncId} {pos : String} {es : Array Event} (hm : ∀ e ∈ es, e.mute = true) : Past0 (t ++ MemOp.ofEvents g fn pos es) :=
  let ⟨B, h⟩ := h; ⟨B, h.mute hg hm⟩

variable (P Post) in
/-- FROM EVERY MACHINE IN WHICH GOROUTINE 0 IS HERE AND ALL OTHERS ONLY LEAVE, ON EVERY TAPE: the run ends, in 'Good'. -/
def Ends (g : Goroutine) (w : World) : Prop :=
  ∀ (gs : Array Goroutine) (sl : Option (Nat × Nat)) (t : Trace) (q : Nat → Nat) (τ : Nat → Question → Nat) (d : Nat), gs[0]? = some g → Leavers P t gs q → Past0 t →
    ∃ N last o w' t', runNT P (N + 1) (crowd gs (w.re τ d) sl) t = (.ended o w', t') ∧ runN P N (crowd gs (w.re τ d) sl) = .next last ∧ step P last = .ended o w' ∧ Good P Post last o w' t'

theorem at_re (w : World) (τ : Nat → Question → Nat) (d d' : Nat) : (w.re τ d).at d' = w.re τ d' := rfl
theorem ends_more {m m' : Machine} {ops : Array MemOp} {t : Trace} (hs : stepT P m = (.next m', ops))
    (h : ∃ N last o w' t', runNT P (N + 1) m' (t ++ ops) = (.ended o w', t') ∧ runN P N m' = .next last ∧ step P last = .ended o w' ∧ Good P Post last o w' t') :
    ∃ N last o w' t', runNT P (N + 1) m t = (.ended o w', t') ∧ runN P N m = .next last ∧ step P last = .ended o w' ∧ Good P Post last o w' t' := by
  obtain ⟨N, last, o, w', t', h1, h2, h3, h4⟩ := h
  exact ⟨N + 1, last, o, w', t', by rw [runNT_succ_next hs]; exact h1, by rw [runN_succ_next hs]; exact h2, h3, h4⟩

/-- What a leaver's step does: the frame stands, and the leavers have one step less. -/
theorem leaver_slips {gs : Array Goroutine} {t : Trace} {q : Nat → Nat} {a g : Goroutine} {i d : Nat} {w : World} {sl' : Option (Nat × Nat)} (h0 : gs[0]? = some a) (hrun : a.status = .running) (hL : Leavers P t gs q) (hP : Past0 t) (hpos : 0 < i) (hi : gs[i]? = some g) (hg : g.status = .running) :
    ∃ gs' q' ops, runT P (crowd gs (w.at d) sl') i = (.next (crowd gs' (w.at d) sl'), ops) ∧ gs'[0]? = some a ∧ gs'.size = gs.size ∧ Leavers P (t ++ ops) gs' q' ∧ Past0 (t ++ ops) ∧ sumTo gs'.size q' < sumTo gs.size q := by
  have hq := hL.old i g hpos hi
  have hi0 : (i == 0) = false := by simp; omega
  have hlt : i < gs.size := (Array.getElem?_eq_some_iff.1 hi).1
  cases hqi : q i with
  | zero => rw [hqi] at hq; rw [hq.1] at hg; cases hg
  | succ k =>
    rw [hqi] at hq
    rcases hq with ⟨hf, _⟩ | ⟨_, g', es, hm, hstp, hq'⟩
    · rw [hf] at hg; cases hg
    have hrunT := runT_crowd_go (P := P) (sl := sl') (i := i) hi (by rw [hi0]; exact hstp (w.at d))
    have hsz : ((gs.map (woken P g g' (w.at d))).setIfInBounds i g').size = gs.size := by simp
    have hsum : sumTo gs.size (upd q i k) + (k + 1) = sumTo gs.size q + k := by
      have := sumTo_upd q k id hlt
      simpa [hqi] using this
    refine ⟨_, upd q i k, _, hrunT, ?_, hsz, ⟨fun j x hj hx => ?_, fun j hj => ?_⟩, hP.mute (by omega) hm, by rw [hsz]; omega⟩
    · have hne : i ≠ 0 := by omega
      rw [Array.getElem?_setIfInBounds_ne hne, Array.getElem?_map, h0]
      simp [woken_run hrun]
    · by_cases hji : i = j
      · subst hji
        rw [Array.getElem?_setIfInBounds_self_of_lt (by simpa using hlt)] at hx
        obtain rfl := Option.some.inj hx
        rw [upd_same, Deaf_own]
        exact hq'
      · rw [Array.getElem?_setIfInBounds_ne hji, Array.getElem?_map] at hx
        obtain ⟨y, hy, rfl⟩ := Option.map_eq_some_iff.1 hx
        have hqj := hL.old j y hj hy
        rw [woken_quitsD hqj, upd_ne q k (Ne.symm hji), Deaf_other t hji _ (fun op hop => by obtain ⟨e, _, rfl⟩ := Go.Conc.mem_ofEvents hop; rfl)]
        exact hqj
    · rw [Deaf_other t (g' := i) (by simp at hj; omega) _ (fun op hop => by obtain ⟨e, _, rfl⟩ := Go.Conc.mem_ofEvents hop; rfl)]
      exact hL.above j (by simpa using hj)
theorem all_awake {gs : Array Goroutine} {t : Trace} {q : Nat → Nat} {a : Goroutine} (h0 : gs[0]? = some a) (hrun : a.status = .running) (hL : Leavers P t gs q) : ∀ g ∈ gs, awake g := by
  intro g hg
  obtain ⟨i, hi, rfl⟩ := Array.mem_iff_getElem.1 hg
  rcases Nat.eq_zero_or_pos i with rfl | hpos
  · have : gs[0] = a := by simpa [Array.getElem?_eq_getElem hi] using h0
    rw [this]; exact awake_of (.inl hrun)
  · exact awake_of ((hL.old i _ hpos (Array.getElem?_eq_getElem hi)).status.elim .inl fun x => .inr (.inr x))

/-- **A step of goroutine 0's.** -/
theorem ends_step {g : Goroutine} {w : World} (hrun : g.status = .running)
    (h : ∀ τ d, ∃ g' u k es, stepG P true g (w.re τ d) = .go g' (u.re τ (d + k)) es ∧ (∀ e ∈ es, Tame e) ∧ Ends P Post g' u) : Ends P Post g w := by
  intro gs sl t q τ d h0 hL hP
  generalize hM : sumTo gs.size q = M
  induction M using Nat.strongRecOn generalizing gs sl t q d with
  | _ M ih =>
    obtain ⟨i, g1, d1, sl', hi, hg, hst⟩ := crowd_pick (P := P) (w := w.re τ d) (sl := sl) (all_awake h0 hrun hL) ⟨0, g, h0, hrun⟩
    rw [at_re] at hst
    rcases Nat.eq_zero_or_pos i with rfl | hpos
    · obtain rfl : g1 = g := by rw [h0] at hi; exact (Option.some.inj hi).symm
      obtain ⟨g', u, k, es, hgo, htame, hE⟩ := h τ d1
      have hrunT := runT_crowd_go (P := P) (sl := sl') (i := 0) hi (show stepG P (0 == 0) g1 (w.re τ d1) = _ from hgo)
      have hlt : 0 < gs.size := (Array.getElem?_eq_some_iff.1 h0).1
      refine ends_more (hst.trans hrunT) (hE _ sl' _ q τ (d1 + k) (by simp [hlt]) ⟨fun j x hj hx => ?_, fun j hj => ?_⟩ (hP.own htame))
      · have hne : 0 ≠ j := by omega
        rw [Array.getElem?_setIfInBounds_ne hne, Array.getElem?_map] at hx
        obtain ⟨y, hy, rfl⟩ := Option.map_eq_some_iff.1 hx
        have hq := hL.old j y hj hy
        rw [woken_quitsD hq, Deaf_other t (by omega) _ (fun op hop => by obtain ⟨e, _, rfl⟩ := Go.Conc.mem_ofEvents hop; rfl)]
        exact hq
      · rw [Deaf_other t (g' := 0) (by simp at hj; omega) _ (fun op hop => by obtain ⟨e, _, rfl⟩ := Go.Conc.mem_ofEvents hop; rfl)]
        exact hL.above j (by simpa using hj)
    · obtain ⟨gs', q', ops, hr, h0', hsz, hL', hP', hlt⟩ := leaver_slips (w := w.re τ d) (d := d1) (sl' := sl') h0 hrun hL hP hpos hi hg
      rw [at_re] at hr
      exact ends_more (hst.trans hr) (ih _ (by omega) gs' sl' _ q' d1 h0' hL' hP' rfl)

theorem re_inj {u u' : World} {τ : Nat → Question → Nat} {d d' : Nat} (h : u.re τ d = u'.re τ d') : d = d' ∧ ∀ τ1 d1, u.re τ1 d1 = u'.re τ1 d1 := by
  have h1 : (u.re τ d).heap = (u'.re τ d').heap := by rw [h]
  have h2 : (u.re τ d).os = (u'.re τ d').os := by rw [h]
  have h3 : (u.re τ d).output = (u'.re τ d').output := by rw [h]
  have h4 : (u.re τ d).drawn = (u'.re τ d').drawn := by rw [h]
  change u.heap = u'.heap at h1
  change u.os = u'.os at h2
  change u.output = u'.output at h3
  refine ⟨h4, fun τ1 d1 => ?_⟩
  unfold World.re
  rw [h1, h2, h3]
/-- What it hands back it hands back on every tape. -/
theorem results_on {fn : Func} {tmps : Array Value} {u : World} {τ : Nat → Question → Nat} {d : Nat} {v : Value} (h : (results fn tmps).run P (u.re τ d) = .ok v (u.re τ d)) :
    ∃ fs, (∀ e ∈ fs, Tame e) ∧ ∀ τ1 d1, (results fn tmps).run P (u.re τ1 d1) = .ok v (u.re τ1 d1) ∧ (results fn tmps).events P (u.re τ1 d1) #[] = fs := by
  obtain ⟨n, u', r, fs, _, h2, h3⟩ := (calm_results (P := P) fn tmps).retape τ u d #[]
  have h4 := h3 τ d (fun _ _ => rfl)
  rw [Sem.runT_eq, h] at h4
  have h5 := (Prod.mk.inj h4).1
  cases r with
  | error x => cases h5
  | ok v' =>
    injection h5 with e1 e2
    subst e1
    obtain ⟨hn, hre⟩ := re_inj e2
    have hn0 : n = 0 := by omega
    subst hn0
    refine ⟨fs, fun e he => (h2 e he).resolve_left (by simp), fun τ1 d1 => ?_⟩
    have h6 := h3 τ1 d1 (fun i hi => absurd hi (by omega))
    rw [Sem.runT_eq] at h6
    obtain ⟨h7, h8⟩ := Prod.mk.inj h6
    exact ⟨by rw [h7, hre τ1 d1]; rfl, h8⟩

/-- **The end.** -/
theorem ends_end {fr : Frame} {u : World} {v : Value} {τ0 : Nat → Question → Nat} {d0 : Nat} (hl : fr.leaving P (u.re τ0 d0) (.returned v)) (hi : P.inits.idxOf? fr.fn = none) (hpost : ∀ τ d, Post v (u.re τ d)) : Ends P Post (G fr []) u := by
  obtain ⟨hm, hd, hk, fn, hfn, hr⟩ := hl
  obtain ⟨fs, hts, hrun⟩ := results_on hr
  have hend : ∀ τ d, stepG P true (G fr []) (u.re τ d) = .ended (.done v) (u.re τ d) (seen P fr.fn fs) := fun τ d => by
    obtain ⟨h1, h2⟩ := hrun τ d
    simp [stepG, unwind, doReturn, G, hm, hd, hk, hfn, h1, h2, GStep.after, hi]
  intro gs sl t q τ d h0 hL hP
  generalize hM : sumTo gs.size q = M
  induction M using Nat.strongRecOn generalizing gs sl t q d with
  | _ M ih =>
    obtain ⟨i, g1, d1, sl', hi1, hg, hst⟩ := crowd_pick (P := P) (w := u.re τ d) (sl := sl) (all_awake h0 rfl hL) ⟨0, _, h0, rfl⟩
    rw [at_re] at hst
    rcases Nat.eq_zero_or_pos i with rfl | hpos
    · obtain rfl : g1 = G fr [] := by rw [h0] at hi1; exact (Option.some.inj hi1).symm
      have hrunT := runT_many_ended (P := P) (sl := sl') (i := 0) hi1 (show stepG P (0 == 0) (G fr []) (u.re τ d1) = _ from hend τ d1)
      obtain ⟨B, hP'⟩ := hP.own (fn := (G fr []).frame.fn) (pos := (G fr []).frame.place) (seen_tame (P := P) fr.fn hts)
      refine ⟨0, crowd gs (u.re τ d) sl, .done v, u.re τ d1, _, by simp only [runNT, hst, hrunT], rfl, by unfold step; rw [hst, hrunT], v, rfl, hpost τ d1, hP'.clean, hP'.over, ⟨fun x hx => ?_, rfl⟩, fun j x hx hj => ?_⟩
      · obtain ⟨j, hj⟩ := List.mem_iff_getElem?.1 hx
        rw [List.getElem?_drop] at hj
        exact ⟨_, (hL.old (1 + j) x (by omega) (by simpa [crowd] using hj)).leaves⟩
      · have hq := hL.old j x (by omega) hx
        refine ⟨q j, ?_⟩
        have e : (t ++ MemOp.ofEvents 0 (G fr []).frame.fn (G fr []).frame.place (seen P fr.fn fs)).deaf j (t ++ MemOp.ofEvents 0 (G fr []).frame.fn (G fr []).frame.place (seen P fr.fn fs)).size = Deaf t j :=
          Deaf_other t (g := j) (g' := 0) (by omega) _ (fun op hop => by obtain ⟨e, _, rfl⟩ := Go.Conc.mem_ofEvents hop; rfl)
        rw [e]
        exact hq.hears _
    · obtain ⟨gs', q', ops, hr', h0', hsz, hL', hP', hlt⟩ := leaver_slips (w := u.re τ d) (d := d1) (sl' := sl') h0 rfl hL hP hpos hi1 hg
      rw [at_re] at hr'
      exact ends_more (hst.trans hr') (ih _ (by omega) gs' sl' _ q' d1 h0' hL' hP' rfl)

end
end Go.Goes

-- Lock
/-
  One step of a frame: what is the same in every program and world, and what an operation does.
-/
namespace Go.Goes
open Go.Conc
set_option linter.unusedVariables false

/-- A step that asks neither the program nor the world. -/
def ctl (fr : Frame) : Option Frame :=
  match fr.todo with
  | [] => some { fr with mode := .returning }
  | .code .ret :: _ => some { fr with mode := .returning }
  | .code .skip :: k | .code (.label _) :: k | .inBlock _ :: k | .inScope _ :: k => some { fr with todo := k }
  | .code (.seq a b) :: k => some { fr with todo := .code a :: .code b :: k }
  | .code (.cond c thn els) :: k => match fr.eval c with | .bool b => some { fr with todo := .code (if b then thn else els) :: k } | _ => none
  | .code (.block id body) :: k => some { fr with todo := .code body :: .inBlock id :: k }
  | .code (.loop body) :: k | .inLoop body :: k => some { fr with todo := .code body :: .inLoop body :: k }
  | .code (.scope body) :: k => some { fr with todo := .code body :: .inScope body :: k }
  | .code (.exit id) :: k => (exitTo id k).map fun k => { fr with todo := k }
  | .code (.goto l) :: k => (gotoIn l k).map fun k => { fr with todo := k }
  | .code (.region _ ops false) :: k => some { fr with todo := .inRegion ops (List.range ops.size) :: k }
  | .inRegion _ [] :: k => some { fr with todo := k }
  | .inRegion ops (i :: _) :: _ => if ((ops[i]?).map (Region.wanted · (yielded ops fr.tmps))).getD false then none else some (fr.finish undef)
  | _ => none
/-- It stands at an operation that is wanted. -/
def AtOp (fr : Frame) (o : Oper) : Prop := ∃ ops i rest k, fr.todo = .inRegion ops (i :: rest) :: k ∧ ops[i]? = some o ∧ Region.wanted o (yielded ops fr.tmps) = true
/-- It draws an order. -/
def AtDraw (fr : Frame) (id : Nat) (ops : Array Oper) (k : List Item) : Prop := fr.todo = .code (.region id ops true) :: k

section
variable {P : Program}
theorem ctl_step {fr fr' : Frame} (hm : fr.mode = .run) (hr : fr.roundOf = none) (h : ctl fr = some fr') (main : Bool) (cs : List Frame) (w : World) : stepG P main (G fr cs) w = .go (G fr' cs) w #[] := by
  unfold ctl at h
  split at h
  case h_1 ht => cases h; simp [stepG, stepG.exec, G, hm, ht, hr]
  case h_2 ht => cases h; simp [stepG, stepG.exec, G, hm, ht, hr]
  case h_3 ht => cases h; simp [stepG, stepG.exec, G, hm, ht]
  case h_4 ht => cases h; simp [stepG, stepG.exec, G, hm, ht]
  case h_5 ht => cases h; simp [stepG, stepG.exec, G, hm, ht]
  case h_6 ht => cases h; simp [stepG, stepG.exec, G, hm, ht]
  case h_7 ht => cases h; simp [stepG, stepG.exec, G, hm, ht]
  case h_8 ht => split at h <;> cases h; rename_i hb; simp [stepG, stepG.exec, G, hm, ht, hb]
  case h_9 ht => cases h; simp [stepG, stepG.exec, G, hm, ht]
  case h_10 ht => cases h; simp [stepG, stepG.exec, G, hm, ht]
  case h_11 ht => cases h; simp [stepG, stepG.exec, G, hm, ht]
  case h_12 ht => cases h; simp [stepG, stepG.exec, G, hm, ht]
  case h_13 ht => obtain ⟨k', h1, rfl⟩ := Option.map_eq_some_iff.1 h; simp [stepG, stepG.exec, G, hm, ht, h1]
  case h_14 ht => obtain ⟨k', h1, rfl⟩ := Option.map_eq_some_iff.1 h; simp [stepG, stepG.exec, G, hm, ht, h1]
  case h_15 ht => cases h; simp [stepG, stepG.exec, G, hm, ht]
  case h_16 ht => cases h; simp [stepG, stepG.exec, G, hm, ht]
  case h_17 ht => split at h <;> cases h; rename_i hb; simp [stepG, stepG.exec, G, hm, ht, hb]
  case h_18 => cases h
theorem op_step {fr : Frame} {o : Oper} (hm : fr.mode = .run) (hr : fr.roundOf = none) (h : AtOp fr o) (main : Bool) (cs : List Frame) (w : World) : stepG P main (G fr cs) w = stepG.apply P true fr cs none (execOp fr.eval o) w := by
  obtain ⟨ops, i, rest, k, ht, ho, hw⟩ := h
  simp [stepG, stepG.exec, stepG.oper, Frame.oper?, G, hm, ht, ho, hw, hr]
theorem draw_step {fr : Frame} {id : Nat} {ops : Array Oper} {k : List Item} (hm : fr.mode = .run) (h : AtDraw fr id ops k) (main : Bool) (cs : List Frame) (w : World) (τ : Nat → Question → Nat) (d : Nat) :
    stepG P main (G fr cs) (w.re τ d) = .go (G { fr with todo := .inRegion ops (Region.schedule (P.follows .mixedOrders) ops (τ d (.order fr.fn id))) :: k } cs) (w.re τ (d + 1)) #[] := by
  unfold AtDraw at h
  simp [stepG, stepG.exec, G, hm, h, choose, Sem.run, Question.forced, Question.cut, World.re]
/-- What an operation that goes well does. -/
theorem apply_ok {fr : Frame} {cs : List Frame} {s : Sem Next} {w w' : World} {nx : Next} {fs : Array Event} (hk : (fr.kind == CallKind.early) = false) (hc : ∀ d b r s l, fr.todo ≠ .call d b r s :: l) (h : s.runT P w #[] = (.ok nx w', fs)) :
    stepG.apply P true fr cs none s w = (match nx with
      | .value v => .go (G (fr.finish v) cs) w' (seen P fr.fn fs)
      | .skip => .go (G (fr.finish undef) cs) w' (seen P fr.fn fs)
      | .enter f args => .go (G (Frame.enter P f args .normal) (fr :: cs)) w' (seen P fr.fn fs)
      | _ => stepG.apply P true fr cs none s w) := by
  cases nx <;> try rfl
  case value v =>
    simp only [stepG.apply, h, hk, GStep.after, G, if_true]
    simp
  case skip =>
    simp only [stepG.apply, h, hk, GStep.after, G, if_true]
    simp
  case enter f args =>
    simp only [stepG.apply, h, hk, GStep.after, G, if_true]
    split
    · rename_i ht; exact absurd ht (hc _ _ _ _ _)
    · simp
end
end Go.Goes
