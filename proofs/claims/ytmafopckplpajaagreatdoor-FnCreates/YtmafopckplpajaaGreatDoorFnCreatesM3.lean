/-
  DashP · DashK · NodeP · NodeS · SceneP · SceneD · NodeC · NodeL · NodeK · NodeT: texts of one claim, in one.
-/
import Derived.Test.YtmafopckplpajaaGreatDoorFnCreatesM2
import Derived.Test.YtmafopckplpajaaGreatDoorFnCreatesM1
import Derived.Deep.MidRow
import Derived.Deep.WholeRow

/-
  Dashes: what both sides reckon.
-/
namespace Go.Proofs.YtmafopckplpajaaGreatDoor
open Go.RowKit
set_option linter.unusedVariables false

noncomputable def lenP (a b : Pt) : Int := Classical.choose (len_is a.1 a.2 b.1 b.2)
theorem lenP_is (a b : Pt) : IsLen a.1 a.2 b.1 b.2 (lenP a b) := Classical.choose_spec (len_is a.1 a.2 b.1 b.2)
theorem len_bd {x0 y0 x1 y1 L : Int} (h : IsLen x0 y0 x1 y1 L) : 0 ≤ L ∧ L ≤ 23726566 := by
  unfold IsLen at h
  split at h
  · rename_i hp
    rw [Bool.and_eq_true] at hp
    obtain ⟨⟨a0, b0⟩, c0, d0⟩ := point_bd hp.1
    obtain ⟨⟨a1, b1⟩, c1, d1⟩ := point_bd hp.2
    have p1 := mul_bd (A := 16777216) (X := 16777216) (a := x1 - x0) (x := x1 - x0) (by omega) (by omega) (by omega) (by omega)
    have p2 := mul_bd (A := 16777216) (X := 16777216) (a := y1 - y0) (x := y1 - y0) (by omega) (by omega) (by omega) (by omega)
    have h0 := h.pos
    have h1 := h.sq
    refine ⟨h0, ?_⟩
    rcases Int.lt_or_le L 23726567 with h2 | h2
    · omega
    · have h3 := Int.mul_le_mul h2 h2 (by decide) h0
      omega
  · omega
theorem lenP_bd (a b : Pt) : 0 ≤ lenP a b ∧ lenP a b ≤ 23726566 := len_bd (lenP_is a b)

def patOk (a b : Pt) (l : Int) : Bool := inB l 1 50000000 && (pointOkB a.1 a.2 && pointOkB b.1 b.2)
def pointAtP (a b : Pt) (t l : Int) : Pt := if patOk a b l = true then (a.1 + rdivI ((b.1 - a.1) * clampI t 0 l) l, a.2 + rdivI ((b.2 - a.2) * clampI t 0 l) l) else a

/-- Where a walk is: its dash, what is left of it, the stretch under way, those that are done. -/
structure St where
  k : Nat
  left : Int
  now : List Pt
  out : List (List Pt)
def turnS (m : Nat) (ds : Nat → Int) (p : Pt) (s : St) : St :=
  ⟨(s.k + 1) % m, ds ((s.k + 1) % m), if s.k % 2 = 0 then [] else s.now ++ [p], if s.k % 2 = 0 then s.out ++ [s.now ++ [p]] else s.out⟩
def stopS (b : Pt) (l t : Int) (s : St) : St := ⟨s.k, s.left - (l - t), if 0 < l ∧ s.k % 2 = 0 then s.now ++ [b] else s.now, s.out⟩
def pieceS (m : Nat) (ds : Nat → Int) (a b : Pt) (l : Int) : Nat → Int → St → St
  | 0, _, s => s
  | f + 1, t, s => if l - t ≤ s.left then stopS b l t s else pieceS m ds a b l f (t + s.left) (turnS m ds (pointAtP a b (t + s.left) l) s)
theorem piece_stop {m : Nat} {ds : Nat → Int} {a b : Pt} {l t : Int} {f : Nat} {s : St} (h : l - t ≤ s.left) : pieceS m ds a b l (f + 1) t s = stopS b l t s := if_pos h
theorem piece_turn {m : Nat} {ds : Nat → Int} {a b : Pt} {l t : Int} {f : Nat} {s : St} (h : ¬ l - t ≤ s.left) : pieceS m ds a b l (f + 1) t s = pieceS m ds a b l f (t + s.left) (turnS m ds (pointAtP a b (t + s.left) l) s) := if_neg h
def begS (m : Nat) (ds : Nat → Int) : Nat → Nat → Int → Nat × Int
  | 0, k, x => (k, x)
  | f + 1, k, x => if 0 < x then (k, x) else begS m ds f ((k + 1) % m) (x + ds ((k + 1) % m))
def begP (m : Nat) (ds : Nat → Int) (ph : Int) : Nat × Int := begS m ds (ph.toNat + 1) 0 (ds 0 - ph)
def startS (m : Nat) (ds : Nat → Int) (ph : Int) (p : Pt) : St := ⟨(begP m ds ph).1, (begP m ds ph).2, if (begP m ds ph).1 % 2 = 0 then [p] else [], []⟩
noncomputable def lineS (m : Nat) (ds : Nat → Int) (pf : Nat → Pt) (s0 : St) : Nat → St
  | 0 => s0
  | j + 1 => pieceS m ds (pf j) (pf (j + 1)) (lenP (pf j) (pf (j + 1))) ((lenP (pf j) (pf (j + 1))).toNat + 2) 0 (lineS m ds pf s0 j)
def bigL (l : List Pt) : Bool := decide (1 < l.length)
def lastS (s : St) : List (List Pt) := if s.k % 2 = 0 then s.out ++ [s.now] else s.out
/-- Dashes that are right: as many as m, each of ds. -/
def dashOkB (m : Nat) (ds : Nat → Int) : Bool := decide (m % 2 = 0 ∧ m ≤ 4 ∧ ∀ i, i < m → 1 ≤ ds i ∧ ds i ≤ 20000)
theorem dashOk_iff {m : Nat} {ds : Nat → Int} : dashOkB m ds = true ↔ m % 2 = 0 ∧ m ≤ 4 ∧ ∀ i, i < m → 1 ≤ ds i ∧ ds i ≤ 20000 := by unfold dashOkB; exact decide_eq_true_iff
def lineOk (n : Nat) (pf : Nat → Pt) : Prop := ∀ i, i < n → pointOkB (pf i).1 (pf i).2 = true
def dashGo (n : Nat) (pf : Nat → Pt) (m : Nat) (ds : Nat → Int) (ph : Int) : Prop := dashOkB m ds = true ∧ inB ph 0 20000 = true ∧ 2 ≤ n ∧ lineOk n pf
noncomputable def dashL (n : Nat) (pf : Nat → Pt) (m : Nat) (ds : Nat → Int) (ph : Int) : List (List Pt) :=
  @ite _ (dashGo n pf m ds ph) (Classical.propDecidable _) (if m = 0 then [(List.range n).map pf] else (lastS (lineS m ds pf (startS m ds ph (pf 0)) (n - 1))).filter bigL) []
theorem dashL_no {n : Nat} {pf : Nat → Pt} {m : Nat} {ds : Nat → Int} {ph : Int} (h : ¬ dashGo n pf m ds ph) : dashL n pf m ds ph = [] := if_neg h
theorem dashL_none {n : Nat} {pf : Nat → Pt} {m : Nat} {ds : Nat → Int} {ph : Int} (h : dashGo n pf m ds ph) (hm : m = 0) : dashL n pf m ds ph = [(List.range n).map pf] := by
  unfold dashL; rw [if_pos h, if_pos hm]
theorem dashL_yes {n : Nat} {pf : Nat → Pt} {m : Nat} {ds : Nat → Int} {ph : Int} (h : dashGo n pf m ds ph) (hm : m ≠ 0) : dashL n pf m ds ph = (lastS (lineS m ds pf (startS m ds ph (pf 0)) (n - 1))).filter bigL := by
  unfold dashL; rw [if_pos h, if_neg hm]

/-- m dashes, an even number of them, each of 1 .. 20000. -/
structure Dsh (m : Nat) (ds : Nat → Int) : Prop where
  pos : 0 < m
  ev : m % 2 = 0
  le : m ≤ 4
  bd : ∀ i, i < m → 1 ≤ ds i ∧ ds i ≤ 20000
theorem Dsh.cases {m : Nat} {ds : Nat → Int} (h : Dsh m ds) : m = 2 ∨ m = 4 := by have := h.pos; have := h.ev; have := h.le; omega
theorem Dsh.nx {m : Nat} {ds : Nat → Int} (h : Dsh m ds) (k : Nat) : (k + 1) % m < m := Nat.mod_lt _ h.pos
theorem Dsh.par {m k : Nat} {ds : Nat → Int} (h : Dsh m ds) : (k + 1) % m % 2 = (k + 1) % 2 := by rcases h.cases with rfl | rfl <;> omega

/-- What holds of a walk behind j pieces and C units. -/
structure Fine (m : Nat) (j : Nat) (C : Int) (s : St) : Prop where
  kl : s.k < m
  l0 : 0 ≤ s.left
  l1 : s.left ≤ 20000
  odd : s.k % 2 ≠ 0 → s.now = []
  nowl : s.now.length ≤ j + 1
  outl : ∀ l ∈ s.out, l.length ≤ j + 2
  cnt : ∃ T : Nat, 2 * s.out.length ≤ T + s.k % 2 ∧ (T : Int) ≤ C ∧ (s.left = 0 → (T : Int) + 1 ≤ C)
theorem Fine.count {m j : Nat} {C : Int} {s : St} (h : Fine m j C s) : 2 * (s.out.length : Int) ≤ C + 1 := by
  obtain ⟨T, h1, h2, _⟩ := h.cnt
  omega
theorem Fine.mono {m j : Nat} {C C' : Int} {s : St} (h : Fine m j C s) (hC : C ≤ C') : Fine m j C' s := by
  obtain ⟨T, h1, h2, h3⟩ := h.cnt
  exact ⟨h.kl, h.l0, h.l1, h.odd, h.nowl, h.outl, T, h1, by omega, fun e => by have := h3 e; omega⟩
theorem Fine.turn {m j : Nat} {ds : Nat → Int} {C : Int} {s : St} {p : Pt} (hd : Dsh m ds) (h : Fine m j C s) : Fine m j (C + s.left) (turnS m ds p s) := by
  have hb := hd.bd _ (hd.nx s.k)
  have hp := hd.par (k := s.k)
  obtain ⟨T, h1, h2, h3⟩ := h.cnt
  have h0 := h.l0
  refine ⟨hd.nx _, by simp only [turnS]; omega, by simp only [turnS]; omega, ?_, ?_, ?_, T + 1, ?_, ?_, ?_⟩
  · intro ho
    simp only [turnS] at ho ⊢
    rw [if_pos (by omega)]
  · simp only [turnS]
    split
    · simp
    · rename_i hk
      rw [h.odd hk]; simp
  · intro l hl
    simp only [turnS] at hl
    split at hl
    · rw [List.mem_append, List.mem_singleton] at hl
      rcases hl with hl | rfl
      · exact h.outl l hl
      · have := h.nowl; simp; omega
    · exact h.outl l hl
  · simp only [turnS]
    split
    · simp only [List.length_append, List.length_singleton]; omega
    · omega
  · by_cases e : s.left = 0
    · have := h3 e; omega
    · omega
  · intro e
    simp only [turnS] at e
    omega
theorem Fine.stop {m j : Nat} {C l t : Int} {s : St} {b : Pt} (h : Fine m j (C + t) s) (ht : t ≤ l) (hl : l - t ≤ s.left) : Fine m (j + 1) (C + l) (stopS b l t s) := by
  obtain ⟨T, h1, h2, h3⟩ := h.cnt
  have h0 := h.l0
  have h9 := h.l1
  refine ⟨h.kl, by simp only [stopS]; omega, by simp only [stopS]; omega, ?_, ?_, ?_, T, h1, by omega, ?_⟩
  · intro ho
    simp only [stopS] at ho ⊢
    rw [if_neg (fun hc => ho hc.2)]
    exact h.odd ho
  · have := h.nowl
    simp only [stopS]
    split
    · simp; omega
    · omega
  · intro x hx
    have := h.outl x hx
    omega
  · intro e
    simp only [stopS] at e
    by_cases e1 : s.left = 0
    · have := h3 e1; omega
    · omega
/-- Enough rounds. -/
def enough (l t : Int) (s : St) (f : Nat) : Prop := (l - t) + (if s.left = 0 then 2 else 1) ≤ (f : Int)
theorem enough_turn {m : Nat} {ds : Nat → Int} {l t : Int} {s : St} {f : Nat} {p : Pt} (hd : Dsh m ds) (h0 : 0 ≤ s.left) (h : enough l t s (f + 1)) : enough l (t + s.left) (turnS m ds p s) f := by
  have hb := hd.bd _ (hd.nx s.k)
  unfold enough at h ⊢
  rw [if_neg (by simp only [turnS]; omega)]
  split at h <;> omega
theorem enough_pos {l t : Int} {s : St} {f : Nat} (h : enough l t s f) (ht : t ≤ l) : ∃ g, f = g + 1 := by
  unfold enough at h
  refine ⟨f - 1, ?_⟩
  split at h <;> omega
theorem enough_start {l : Int} (h : 0 ≤ l) (s : St) : enough l 0 s (l.toNat + 2) := by
  unfold enough
  split <;> omega
theorem piece_fine {m j : Nat} {ds : Nat → Int} {a b : Pt} {C l : Int} (hd : Dsh m ds) : ∀ (f : Nat) (t : Int) (s : St), Fine m j (C + t) s → t ≤ l → enough l t s f → Fine m (j + 1) (C + l) (pieceS m ds a b l f t s)
  | 0, t, s, h, ht, hf => by obtain ⟨g, e⟩ := enough_pos hf ht; omega
  | f + 1, t, s, h, ht, hf => by
    by_cases hc : l - t ≤ s.left
    · rw [piece_stop hc]; exact h.stop ht hc
    · rw [piece_turn hc]
      refine piece_fine hd f _ _ ?_ (by omega) (enough_turn hd h.l0 hf)
      rw [show C + (t + s.left) = C + t + s.left by omega]
      exact h.turn hd
theorem line_fine {m : Nat} {ds : Nat → Int} {pf : Nat → Pt} {s0 : St} (hd : Dsh m ds) (h0 : Fine m 0 0 s0) : ∀ j, Fine m j ((j : Int) * 23726566) (lineS m ds pf s0 j)
  | 0 => by simpa [lineS] using h0
  | j + 1 => by
    have ih := line_fine (pf := pf) hd h0 j
    have hb := lenP_bd (pf j) (pf (j + 1))
    have := piece_fine (a := pf j) (b := pf (j + 1)) (C := (j : Int) * 23726566) (l := lenP (pf j) (pf (j + 1))) hd ((lenP (pf j) (pf (j + 1))).toNat + 2) 0 (lineS m ds pf s0 j) (by simpa using ih) hb.1 (enough_start hb.1 _)
    exact this.mono (by push_cast; omega)

theorem beg_end {m : Nat} {ds : Nat → Int} (hd : Dsh m ds) : ∀ (f k : Nat) (x : Int), k < m → x ≤ 20000 → 1 - x ≤ (f : Int) → (begS m ds f k x).1 < m ∧ 1 ≤ (begS m ds f k x).2 ∧ (begS m ds f k x).2 ≤ 20000
  | 0, k, x, hk, hx, hf => by simp only [begS]; omega
  | f + 1, k, x, hk, hx, hf => by
    have hb := hd.bd _ (hd.nx k)
    simp only [begS]
    split
    · simp only; omega
    · exact beg_end hd f _ _ (hd.nx k) (by omega) (by omega)
theorem beg_fuel {m : Nat} {ds : Nat → Int} (hd : Dsh m ds) : ∀ (f f' k : Nat) (x : Int), 1 - x ≤ (f : Int) → 1 - x ≤ (f' : Int) → begS m ds f k x = begS m ds f' k x
  | 0, 0, k, x, h, h' => rfl
  | 0, f' + 1, k, x, h, h' => by simp only [begS]; rw [if_pos (by omega)]
  | f + 1, 0, k, x, h, h' => by simp only [begS]; rw [if_pos (by omega)]
  | f + 1, f' + 1, k, x, h, h' => by
    have hb := hd.bd _ (hd.nx k)
    simp only [begS]
    split
    · rfl
    · exact beg_fuel hd f f' _ _ (by omega) (by omega)
theorem beg_go {m : Nat} {ds : Nat → Int} (hd : Dsh m ds) {f f' k : Nat} {x : Int} (hx : x ≤ 0) (h : 1 - x ≤ (f : Int)) (h' : 1 - (x + ds ((k + 1) % m)) ≤ (f' : Int)) : begS m ds f k x = begS m ds f' ((k + 1) % m) (x + ds ((k + 1) % m)) := by
  have hb := hd.bd _ (hd.nx k)
  cases f with
  | zero => omega
  | succ f =>
    simp only [begS]
    rw [if_neg (by omega)]
    exact beg_fuel hd f f' _ _ (by omega) h'
theorem beg_here {m : Nat} {ds : Nat → Int} {f k : Nat} {x : Int} (hx : 0 < x) : begS m ds f k x = (k, x) := by
  cases f with
  | zero => rfl
  | succ f => simp only [begS]; rw [if_pos hx]
theorem begP_ok {m : Nat} {ds : Nat → Int} (hd : Dsh m ds) {ph : Int} (h : 0 ≤ ph) : (begP m ds ph).1 < m ∧ 1 ≤ (begP m ds ph).2 ∧ (begP m ds ph).2 ≤ 20000 := by
  have hb := hd.bd 0 hd.pos
  exact beg_end hd _ _ _ hd.pos (by omega) (by omega)
/-- The sum of the first k dashes. -/
def sumN (ds : Nat → Int) : Nat → Int
  | 0 => 0
  | k + 1 => sumN ds k + ds k
theorem sumN_bd {m : Nat} {ds : Nat → Int} (hb : ∀ i, i < m → 1 ≤ ds i ∧ ds i ≤ 20000) : ∀ k, k ≤ m → (k : Int) ≤ sumN ds k ∧ sumN ds k ≤ 20000 * (k : Int)
  | 0, _ => by simp [sumN]
  | k + 1, h => by have := sumN_bd hb k (by omega); have := hb k (by omega); simp only [sumN]; omega
theorem sumN_mono {m : Nat} {ds : Nat → Int} (hb : ∀ i, i < m → 1 ≤ ds i ∧ ds i ≤ 20000) {j : Nat} : ∀ k, k ≤ m → j ≤ k → sumN ds j + ((k : Int) - j) ≤ sumN ds k
  | 0, _, hj => by obtain rfl : j = 0 := by omega
                   simp
  | k + 1, h, hj => by
    by_cases e : j = k + 1
    · subst e; omega
    · have := sumN_mono hb k (by omega) (by omega : j ≤ k); have := hb k (by omega); simp only [sumN]; omega
theorem begP_shift {m : Nat} {ds : Nat → Int} (hd : Dsh m ds) {ph : Int} (h : sumN ds m ≤ ph) : begP m ds ph = begP m ds (ph - sumN ds m) := by
  have hb := hd.bd
  have hs := sumN_bd hb m (Nat.le_refl _)
  have hp := hd.pos
  unfold begP
  rcases hd.cases with rfl | rfl
  · have b0 := hb 0 (by omega)
    have b1 := hb 1 (by omega)
    have e : sumN ds 2 = ds 0 + ds 1 := by simp [sumN]
    rw [e] at h hs ⊢
    rw [beg_go hd (f' := ph.toNat) (k := 0) (by omega) (by omega) (by simp; omega)]
    simp only [show (0 + 1) % 2 = 1 from rfl]
    rw [beg_go hd (f' := ph.toNat) (k := 1) (by omega) (by omega) (by simp; omega)]
    simp only [show (1 + 1) % 2 = 0 from rfl]
    rw [show ds 0 - ph + ds 1 + ds 0 = ds 0 - (ph - (ds 0 + ds 1)) by omega]
    exact beg_fuel hd _ _ _ _ (by omega) (by omega)
  · have b0 := hb 0 (by omega)
    have b1 := hb 1 (by omega)
    have b2 := hb 2 (by omega)
    have b3 := hb 3 (by omega)
    have e : sumN ds 4 = ds 0 + ds 1 + ds 2 + ds 3 := by simp [sumN]
    rw [e] at h hs ⊢
    rw [beg_go hd (f' := ph.toNat) (k := 0) (by omega) (by omega) (by simp; omega)]
    simp only [show (0 + 1) % 4 = 1 from rfl]
    rw [beg_go hd (f' := ph.toNat) (k := 1) (by omega) (by omega) (by simp; omega)]
    simp only [show (1 + 1) % 4 = 2 from rfl]
    rw [beg_go hd (f' := ph.toNat) (k := 2) (by omega) (by omega) (by simp; omega)]
    simp only [show (2 + 1) % 4 = 3 from rfl]
    rw [beg_go hd (f' := ph.toNat) (k := 3) (by omega) (by omega) (by simp; omega)]
    simp only [show (3 + 1) % 4 = 0 from rfl]
    rw [show ds 0 - ph + ds 1 + ds 2 + ds 3 + ds 0 = ds 0 - (ph - (ds 0 + ds 1 + ds 2 + ds 3)) by omega]
    exact beg_fuel hd _ _ _ _ (by omega) (by omega)
theorem begP_many {m : Nat} {ds : Nat → Int} (hd : Dsh m ds) {ph : Int} (h : 0 ≤ ph) : ∀ q : Nat, begP m ds (ph + (q : Int) * sumN ds m) = begP m ds ph
  | 0 => by simp
  | q + 1 => by
    have hs := sumN_bd hd.bd m (Nat.le_refl _)
    have hq : 0 ≤ (q : Int) * sumN ds m := Int.mul_nonneg (by omega) (by omega)
    have e : ((q + 1 : Nat) : Int) * sumN ds m = (q : Int) * sumN ds m + sumN ds m := by push_cast; rw [Int.add_mul, Int.one_mul]
    rw [e, begP_shift hd (by omega), show ph + ((q : Int) * sumN ds m + sumN ds m) - sumN ds m = ph + (q : Int) * sumN ds m by omega]
    exact begP_many hd h q
theorem begP_mod {m : Nat} {ds : Nat → Int} (hd : Dsh m ds) {ph : Int} (h : 0 ≤ ph) : begP m ds ph = begP m ds (ph % sumN ds m) := by
  have hs := sumN_bd hd.bd m (Nat.le_refl _)
  have hp := hd.pos
  have h1 := Int.emod_nonneg ph (show sumN ds m ≠ 0 by omega)
  have h2 := begP_many hd h1 (ph / sumN ds m).toNat
  have h3 : 0 ≤ ph / sumN ds m := Int.ediv_nonneg h (by omega)
  rw [show (((ph / sumN ds m).toNat : Nat) : Int) = ph / sumN ds m by omega] at h2
  have h4 := Int.emod_add_mul_ediv ph (sumN ds m)
  rw [Int.mul_comm] at h4
  rw [h4] at h2
  exact h2
/-- The specification's search for the dash of a phase below their sum. -/
theorem beg_seek {m : Nat} {ds : Nat → Int} (hd : Dsh m ds) {k : Nat} {q : Int} (hk : k < m) (h0 : 0 ≤ q) (h : ds k ≤ q) (hq : q < sumN ds m - sumN ds k) : k + 1 < m ∧ 0 ≤ q - ds k ∧ q - ds k < sumN ds m - sumN ds (k + 1) ∧ begS m ds (q.toNat + 1) k (ds k - q) = begS m ds ((q - ds k).toNat + 1) (k + 1) (ds (k + 1) - (q - ds k)) := by
  have hb := hd.bd k hk
  have h1 : k + 1 < m := by
    rcases Nat.lt_or_ge (k + 1) m with h1 | h1
    · exact h1
    · obtain rfl : m = k + 1 := by omega
      simp only [sumN] at hq
      omega
  have hb1 := hd.bd (k + 1) h1
  refine ⟨h1, by omega, by simp only [sumN]; omega, ?_⟩
  rw [beg_go hd (f' := (q - ds k).toNat + 1) (by omega) (by omega) (by rw [Nat.mod_eq_of_lt h1]; omega), Nat.mod_eq_of_lt h1, show ds k - q + ds (k + 1) = ds (k + 1) - (q - ds k) by omega]
theorem start_fine {m : Nat} {ds : Nat → Int} (hd : Dsh m ds) {ph : Int} (h : 0 ≤ ph) (p : Pt) : Fine m 0 0 (startS m ds ph p) := by
  obtain ⟨h1, h2, h3⟩ := begP_ok hd h
  refine ⟨h1, by simp only [startS]; omega, h3, ?_, ?_, by simp [startS], 0, by simp [startS], by omega, ?_⟩
  · intro ho; simp only [startS] at ho ⊢; rw [if_neg ho]
  · simp only [startS]; split <;> simp
  · intro e; simp only [startS] at e; omega
/-- Behind j pieces of n points. -/
theorem walk_fine {m : Nat} {ds : Nat → Int} (hd : Dsh m ds) {ph : Int} (h : 0 ≤ ph) (pf : Nat → Pt) (j : Nat) : Fine m j ((j : Int) * 23726566) (lineS m ds pf (startS m ds ph (pf 0)) j) := line_fine hd (start_fine hd h _) j
theorem dash_dsh {m : Nat} {ds : Nat → Int} (h : dashOkB m ds = true) (hm : m ≠ 0) : Dsh m ds := by
  obtain ⟨h1, h2, h3⟩ := dashOk_iff.1 h
  exact ⟨by omega, h1, h2, h3⟩
theorem last_len {m j : Nat} {C : Int} {s : St} (h : Fine m j C s) : 2 * ((lastS s).length : Int) ≤ C + 3 ∧ ∀ l ∈ lastS s, l.length ≤ j + 2 := by
  have h1 := h.count
  have h2 := h.nowl
  unfold lastS
  split
  · refine ⟨by simp only [List.length_append, List.length_singleton]; push_cast; omega, ?_⟩
    intro l hl
    rw [List.mem_append, List.mem_singleton] at hl
    rcases hl with hl | rfl
    · exact h.outl l hl
    · omega
  · exact ⟨by omega, h.outl⟩
/-- How many lists there are, and how long they are. -/
theorem dashL_len {n : Nat} {pf : Nat → Pt} {m : Nat} {ds : Nat → Int} {ph : Int} (hn : n ≤ 349525) : (dashL n pf m ds ph).length ≤ 4200000000000 ∧ ∀ l ∈ dashL n pf m ds ph, l.length ≤ 349530 := by
  by_cases hg : dashGo n pf m ds ph
  · by_cases hm : m = 0
    · rw [dashL_none hg hm]
      refine ⟨by simp, ?_⟩
      intro l hl
      simp only [List.mem_singleton] at hl
      rw [hl]; simp; omega
    · rw [dashL_yes hg hm]
      have hf := walk_fine (dash_dsh hg.1 hm) (inB_true.1 hg.2.1).1 pf (n - 1)
      have hl := last_len hf
      have hn2 := hg.2.2.1
      refine ⟨?_, ?_⟩
      · have := List.length_filter_le bigL (lastS (lineS m ds pf (startS m ds ph (pf 0)) (n - 1)))
        have h9 : (((n - 1 : Nat) : Int)) * 23726566 ≤ 349524 * 23726566 := by omega
        omega
      · intro l hm'
        have := hl.2 l (List.mem_filter.1 hm').1
        omega
  · rw [dashL_no hg]; simp
end Go.Proofs.YtmafopckplpajaaGreatDoor

/-
  DashOk of both sides.
-/
namespace Go.Proofs.YtmafopckplpajaaGreatDoor
open Go.RowKit
set_option linter.unusedVariables false

theorem dashOk_not {n : Nat} {f : Nat → Int} (h : ¬ (n % 2 = 0 ∧ n ≤ 4 ∧ ∀ i, i < n → 1 ≤ f i ∧ f i ≤ 20000)) : dashOkB n f = false := by
  cases e : dashOkB n f with
  | false => rfl
  | true => exact absurd (dashOk_iff.1 e) h

set_option maxHeartbeats 4000000 in
set_option maxRecDepth 100000 in
theorem specDashOk_any (f : Nat → Int) (a : Option Addr) (n c : Nat) (hn : n ≤ 1048576) (w : World) (V : ∀ i, i < n → IntAt w a i (f i)) :
    Calls Tryz.prog 105 #[.slice a n c] w fun r w' => r = .returned (.bool (dashOkB n f)) ∧ w' = w := by
  replace V := hide V
  go_enter Tryz.func105, Tryz.ntmps105
  go_wp2_with fail
  go_loopw [3] (fun i u => ∃ q : Nat, q ≤ n ∧ i = .int .i64 q ∧ Hid (∀ j, j < q → 1 ≤ f j ∧ f j ≤ 20000) ∧ u = w) (fun i _ => n - (intOf i).toNat)
  case atStart => exact ⟨0, Nat.zero_le _, rfl, fun j hj => absurd hj (by omega), rfl⟩
  case round =>
    obtain ⟨q, hq, rfl, Hq, rfl⟩ := hrel
    by_cases hlt : q < n
    · obtain ⟨s, o, rfl, g0⟩ := unhide V q hlt
      obtain ⟨z, hz⟩ : ∃ z, Hid (z = f q) := ⟨_, rfl⟩
      rw [← unhide hz] at g0
      have E := hide (l01In_any z 1 20000)
      have HE : Hid (inB z 1 20000 = true ↔ 1 ≤ z ∧ z ≤ 20000) := inB_true
      generalize inB z 1 20000 = b at E HE
      cases b with
      | true =>
        go_wp2_with fail
        go_fit (unhide E _)
        rintro r w1 ⟨rfl, rfl⟩
        go_wp2_with fail
        go_roundw
        case rel => exact ⟨q + 1, by omega, by go_num, fun j hj => by
          by_cases e : j = q
          · subst e; rw [← unhide hz]; exact (unhide HE).1 (by first | rfl | trivial)
          · exact unhide Hq j (by omega), (by first | rfl | trivial)⟩
        case measure => simp [intOf]; omega
      | false =>
        go_wp2_with fail
        go_fit (unhide E _)
        rintro r w1 ⟨rfl, rfl⟩
        go_wp2_with fail
        go_ret
        exact ⟨congrArg (fun b => Ending.returned (.bool b)) (dashOk_not (fun h => by have h9 := h.2.2 q hlt; rw [← unhide hz] at h9; exact absurd ((unhide HE).2 h9) (by decide))).symm, rfl⟩
    · have hqe : q = n := by omega
      subst hqe
      by_cases h2 : q % 2 = 0
      · have e2 : (q : Int) % 2 = 0 := by omega
        by_cases h4 : q ≤ 4
        · have H : Hid (dashOkB q f = true) := dashOk_iff.2 ⟨h2, h4, unhide Hq⟩
          have d1 : decide ((q : Int) ≤ 4) = true := decide_eq_true (by omega)
          go_wp2_with fail
          go_ret
          exact ⟨congrArg (fun b => Ending.returned (.bool b)) (unhide H).symm, rfl⟩
        · have H : Hid (dashOkB q f = false) := dashOk_not (fun h => h4 h.2.1)
          have d1 : decide ((q : Int) ≤ 4) = false := decide_eq_false (by omega)
          go_wp2_with fail
          go_ret
          exact ⟨congrArg (fun b => Ending.returned (.bool b)) (unhide H).symm, rfl⟩
      · have H : Hid (dashOkB q f = false) := dashOk_not (fun h => h2 h.1)
        have e2 : (q : Int) % 2 = 1 := by omega
        go_wp2_with fail
        go_ret
        exact ⟨congrArg (fun b => Ending.returned (.bool b)) (unhide H).symm, rfl⟩

set_option maxHeartbeats 4000000 in
set_option maxRecDepth 100000 in
theorem implDashOk_any (f : Nat → Int) (a : Option Addr) (n c : Nat) (hn : n ≤ 1048576) (w : World) (V : ∀ i, i < n → IntAt w a i (f i)) :
    Calls Tryz.prog 113 #[.slice a n c] w fun r w' => r = .returned (.bool (dashOkB n f)) ∧ w' = w := by
  replace V := hide V
  by_cases h2 : n % 2 = 0
  · have e2 : (n : Int) % 2 = 0 := by omega
    by_cases h4 : n ≤ 4
    · have n4 : ¬ (4 : Int) < (n : Int) := by omega
      have hok : Hid ((∀ i, i < n → 1 ≤ f i ∧ f i ≤ 20000) → dashOkB n f = true) := fun h => dashOk_iff.2 ⟨h2, h4, h⟩
      have hno : Hid (¬ (∀ i, i < n → 1 ≤ f i ∧ f i ≤ 20000) → dashOkB n f = false) := fun h => dashOk_not (fun h' => h h'.2.2)
      generalize dashOkB n f = ok at hok hno ⊢
      go_enter Tryz.func113, Tryz.ntmps113
      go_wp2_with fail
      go_loopw [16] (fun i u => ∃ q : Nat, q ≤ n ∧ i = .int .i64 q ∧ Hid (∀ j, j < q → 1 ≤ f j ∧ f j ≤ 20000) ∧ u = w) (fun i _ => n - (intOf i).toNat)
      case atStart => exact ⟨0, Nat.zero_le _, rfl, fun j hj => absurd hj (by omega), rfl⟩
      case round =>
        obtain ⟨q, hq, rfl, Hq, rfl⟩ := hrel
        by_cases hlt : q < n
        · obtain ⟨s, o, rfl, g0⟩ := unhide V q hlt
          obtain ⟨z, hz⟩ : ∃ z, Hid (z = f q) := ⟨_, rfl⟩
          rw [← unhide hz] at g0
          by_cases z1 : z < 1
          · go_wp2_with fail
            go_ret
            exact ⟨congrArg (fun b => Ending.returned (.bool b)) (unhide hno (fun h => by have h9 := h q hlt; rw [← unhide hz] at h9; omega)).symm, rfl⟩
          by_cases z2 : 20000 < z
          · go_wp2_with fail
            go_ret
            exact ⟨congrArg (fun b => Ending.returned (.bool b)) (unhide hno (fun h => by have h9 := h q hlt; rw [← unhide hz] at h9; omega)).symm, rfl⟩
          go_wp2_with fail
          go_roundw
          case rel => exact ⟨q + 1, by omega, by go_num, fun j hj => by
            by_cases e : j = q
            · subst e; rw [← unhide hz]; omega
            · exact unhide Hq j (by omega), (by first | rfl | trivial)⟩
          case measure => simp [intOf]; omega
        · have hqe : q = n := by omega
          subst hqe
          go_wp2_with fail
          go_ret
          exact ⟨congrArg (fun b => Ending.returned (.bool b)) (unhide hok (unhide Hq)).symm, rfl⟩
    · have n4 : (4 : Int) < (n : Int) := by omega
      rw [dashOk_not (fun h => h4 h.2.1)]
      go_enter Tryz.func113, Tryz.ntmps113
      go_wp2_with fail
      go_ret
      exact ⟨rfl, rfl⟩
  · have e2 : (n : Int) % 2 = 1 := by omega
    rw [dashOk_not (fun h => h2 h.1)]
    go_enter Tryz.func113, Tryz.ntmps113
    go_wp2_with fail
    go_ret
    exact ⟨rfl, rfl⟩
end Go.Proofs.YtmafopckplpajaaGreatDoor

/-
  Nodes: what both sides reckon.
-/
namespace Go.Proofs.YtmafopckplpajaaGreatDoor
open Go.RowKit
set_option linter.unusedVariables false

/-- What a node says. -/
structure Nd where
  id : Int
  par : Int
  gr : Bool
  m0 : Int
  m1 : Int
  m2 : Int
  m3 : Int
  m4 : Int
  m5 : Int
  nv : Nat
  vf : Nat → Int
  np : Nat
  pf : Nat → Int × Int
  ev : Bool
  wd : Int
  nd : Nat
  df : Nat → Int
  pt : P13
  md : Int
  fd : Int
  mv : Nat
  wf : Nat → Int
  mp : Nat
  qf : Nat → Int × Int
/-- Where its lists lie, and their capacities. -/
structure Na where
  av : Option Addr
  cv : Nat
  ap : Option Addr
  cp : Nat
  ad : Option Addr
  cd : Nat
  bv : Option Addr
  dv : Nat
  bp : Option Addr
  dp : Nat
structure Nd.Small (x : Nd) : Prop where
  nv : x.nv ≤ 1048576
  np : x.np ≤ 1048576
  nd : x.nd ≤ 1048576
  mv : x.mv ≤ 1048576
  mp : x.mp ≤ 1048576
/-- Its lists lie there. -/
structure NdIn (w : World) (x : Nd) (s : Na) : Prop where
  v : ∀ i, i < x.nv → IntAt w s.av i (x.vf i)
  p : ∀ i, i < x.np → PtArg w s.ap i (x.pf i)
  d : ∀ i, i < x.nd → IntAt w s.ad i (x.df i)
  cv : ∀ i, i < x.mv → IntAt w s.bv i (x.wf i)
  cp : ∀ i, i < x.mp → PtArg w s.bp i (x.qf i)
theorem NdIn.next {w u : World} {x : Nd} {s : Na} (h : NdIn w x s) (hb : Below w.heap.size w u) : NdIn u x s :=
  ⟨fun i hi => (h.v i hi).next hb, fun i hi => (h.p i hi).next hb, fun i hi => (h.d i hi).next hb, fun i hi => (h.cv i hi).next hb, fun i hi => (h.cp i hi).next hb⟩
open Classical in
noncomputable def rightB (vf : Nat → Int) (n : Nat) (pf : Nat → Int × Int) (m : Nat) : Bool := decide (Right vf n pf m)
theorem rightB_iff {vf : Nat → Int} {n : Nat} {pf : Nat → Int × Int} {m : Nat} : rightB vf n pf m = true ↔ Right vf n pf m := by unfold rightB; simp
def noPaintB (p : P13) : Bool := decide (p.k = 0) && (zeroB p.f && (zeroB p.l && (decide (p.fx = 0 ∧ p.fy = 0) && decide (p.tx = 0 ∧ p.ty = 0))))
def noPathB (n m : Nat) : Bool := decide (n = 0) && decide (m = 0)
noncomputable def nodeOkB (x : Nd) : Bool := inB x.id 1 99 && (inB x.par 0 99 && (!decide (x.id = x.par) && (matOkB x.m0 x.m1 x.m2 x.m3 x.m4 x.m5 && (rightB x.vf x.nv x.pf x.np && (rightB x.wf x.mv x.qf x.mp && (inB x.wd 0 2048 && (dashOkB x.nd x.df && (inB x.md 1 5 && (inB x.fd 0 255 && (if x.gr = true then noPathB x.nv x.np && (noPaintB x.pt && (decide (x.wd = 0) && (decide (x.nd = 0) && !x.ev))) else paintOkB x.pt))))))))))
theorem row31 {w1 : World} {b : Nat} {x0 x1 x2 x3 x4 x5 x6 x7 x8 x9 x10 x11 x12 x13 x14 x15 x16 x17 x18 x19 x20 x21 x22 x23 x24 x25 x26 x27 x28 x29 x30 : Value} {t : TypeId} (h : w1.heap[b]? = some (.cells #[x0, x1, x2, x3, x4, x5, x6, x7, x8, x9, x10, x11, x12, x13, x14, x15, x16, x17, x18, x19, x20, x21, x22, x23, x24, x25, x26, x27, x28, x29, x30] t (0, 0))) :
    w1.cell? ⟨b, 0, none⟩ = some x0 ∧ w1.cell? ⟨b, 1, none⟩ = some x1 ∧ w1.cell? ⟨b, 2, none⟩ = some x2 ∧ w1.cell? ⟨b, 3, none⟩ = some x3 ∧ w1.cell? ⟨b, 4, none⟩ = some x4 ∧ w1.cell? ⟨b, 5, none⟩ = some x5 ∧ w1.cell? ⟨b, 6, none⟩ = some x6 ∧ w1.cell? ⟨b, 7, none⟩ = some x7 ∧ w1.cell? ⟨b, 8, none⟩ = some x8 ∧ w1.cell? ⟨b, 9, none⟩ = some x9 ∧ w1.cell? ⟨b, 10, none⟩ = some x10 ∧ w1.cell? ⟨b, 11, none⟩ = some x11 ∧ w1.cell? ⟨b, 12, none⟩ = some x12 ∧ w1.cell? ⟨b, 13, none⟩ = some x13 ∧ w1.cell? ⟨b, 14, none⟩ = some x14 ∧ w1.cell? ⟨b, 15, none⟩ = some x15 ∧ w1.cell? ⟨b, 16, none⟩ = some x16 ∧ w1.cell? ⟨b, 17, none⟩ = some x17 ∧ w1.cell? ⟨b, 18, none⟩ = some x18 ∧ w1.cell? ⟨b, 19, none⟩ = some x19 ∧ w1.cell? ⟨b, 20, none⟩ = some x20 ∧ w1.cell? ⟨b, 21, none⟩ = some x21 ∧ w1.cell? ⟨b, 22, none⟩ = some x22 ∧ w1.cell? ⟨b, 23, none⟩ = some x23 ∧ w1.cell? ⟨b, 24, none⟩ = some x24 ∧ w1.cell? ⟨b, 25, none⟩ = some x25 ∧ w1.cell? ⟨b, 26, none⟩ = some x26 ∧ w1.cell? ⟨b, 27, none⟩ = some x27 ∧ w1.cell? ⟨b, 28, none⟩ = some x28 ∧ w1.cell? ⟨b, 29, none⟩ = some x29 ∧ w1.cell? ⟨b, 30, none⟩ = some x30 := by
  refine ⟨?_, ?_, ?_, ?_, ?_, ?_, ?_, ?_, ?_, ?_, ?_, ?_, ?_, ?_, ?_, ?_, ?_, ?_, ?_, ?_, ?_, ?_, ?_, ?_, ?_, ?_, ?_, ?_, ?_, ?_, ?_⟩ <;> simp [World.cell?, h]
end Go.Proofs.YtmafopckplpajaaGreatDoor

/-
  The specification's nodes: l15NoPath, l15NoPaint, NodeOk. (By nodes.py.)
-/
namespace Go.Proofs.YtmafopckplpajaaGreatDoor
open Go.RowKit
set_option linter.unusedVariables false

theorem noPath_any (av ap : Option Addr) (nv cv np cp : Nat) (w : World) : Calls Tryz.prog 106 #[.agg #[.slice av nv cv, .slice ap np cp]] w fun r w' => r = .returned (.bool (noPathB nv np)) ∧ Below w.heap.size w w' := by
  unfold noPathB
  by_cases h1 : nv = 0
  · by_cases h2 : np = 0
    · subst h1
      subst h2
      go_enter Tryz.func106, Tryz.ntmps106
      go_wp2_with fail
      go_ret
      exact ⟨rfl, al1_below _ _⟩
    · subst h1
      rw [decide_eq_false h2]
      have h3 : ((np : Int) == 0) = false := beq_eq_false_iff_ne.2 (by omega)
      go_enter Tryz.func106, Tryz.ntmps106
      go_wp2_with fail
      go_ret
      exact ⟨rfl, al1_below _ _⟩
  · rw [decide_eq_false h1]
    have h3 : ((nv : Int) == 0) = false := beq_eq_false_iff_ne.2 (by omega)
    go_enter Tryz.func106, Tryz.ntmps106
    go_wp2_with fail
    go_ret
    exact ⟨rfl, al1_below _ _⟩

theorem eqlColor_on (n : Nat) (a b c d e f g h : Int) (w : World) : (Op.equalIn (n + 2) 35 (.agg #[.int .i64 a, .int .i64 b, .int .i64 c, .int .i64 d]) (.agg #[.int .i64 e, .int .i64 f, .int .i64 g, .int .i64 h])).run Tryz.prog w = .ok (decide (a = e) && (decide (b = f) && (decide (c = g) && decide (d = h)))) w := by
  have u3 := Tryz.underlying3
  have a3 := Tryz.isAgg3
  have z3 := Tryz.sizeOf3
  have hS : Tryz.prog.underlying 35 = some (.struct (Tryz.prog.fieldsOf 35)) := by kernel_rfl
  rw [show n + 2 = (n + 1) + 1 from rfl, run_equalIn_agg w (n + 1) 35 _ _ hS (by kernel_rfl)]
  simp only [Program.fieldsOf, Tryz.underlying35]
  go_simp
  by_cases h1 : a = e
  · by_cases h2 : b = f
    · by_cases h3 : c = g
      · by_cases h4 : d = h <;> simp [h1, h2, h3, h4]
      · simp [h1, h2, h3]
    · simp [h1, h2]
  · simp [h1]

theorem eqlPt_on (n : Nat) (x y a b : Int) (w : World) : (Op.equalIn (n + 2) 37 (.agg #[.int .i64 x, .int .i64 y]) (.agg #[.int .i64 a, .int .i64 b])).run Tryz.prog w = .ok (decide (x = a) && decide (y = b)) w := by
  have u3 := Tryz.underlying3
  have a3 := Tryz.isAgg3
  have z3 := Tryz.sizeOf3
  have hS : Tryz.prog.underlying 37 = some (.struct (Tryz.prog.fieldsOf 37)) := by kernel_rfl
  rw [show n + 2 = (n + 1) + 1 from rfl, run_equalIn_agg w (n + 1) 37 _ _ hS (by kernel_rfl)]
  simp only [Program.fieldsOf, Tryz.underlying37]
  go_simp
  by_cases h1 : x = a <;> by_cases h2 : y = b <;> simp [h1, h2]

theorem eqlNone (k r g b a r2 g2 b2 a2 fx fy tx ty : Int) (w : World) : (Op.equalIn 10000 39 (.agg #[.int .i64 k, .int .i64 r, .int .i64 g, .int .i64 b, .int .i64 a, .int .i64 r2, .int .i64 g2, .int .i64 b2, .int .i64 a2, .int .i64 fx, .int .i64 fy, .int .i64 tx, .int .i64 ty]) (.agg #[.int .i64 0, .int .i64 0, .int .i64 0, .int .i64 0, .int .i64 0, .int .i64 0, .int .i64 0, .int .i64 0, .int .i64 0, .int .i64 0, .int .i64 0, .int .i64 0, .int .i64 0])).run Tryz.prog w = .ok (noPaintB ⟨k, ⟨r, g, b, a⟩, ⟨r2, g2, b2, a2⟩, fx, fy, tx, ty⟩) w := by
  have u3 := Tryz.underlying3
  have a3 := Tryz.isAgg3
  have z3 := Tryz.sizeOf3
  have a4 := Tryz.isAgg35
  have z4 := Tryz.sizeOf35
  have a5 := Tryz.isAgg37
  have z5 := Tryz.sizeOf37
  have hS : Tryz.prog.underlying 39 = some (.struct (Tryz.prog.fieldsOf 39)) := by kernel_rfl
  have e1 := eqlColor_on 9997
  have e2 := eqlPt_on 9997
  rw [show (10000 : Nat) = 9999 + 1 from rfl, run_equalIn_agg w 9999 39 _ _ hS (by kernel_rfl)]
  simp only [Program.fieldsOf, Tryz.underlying39]
  unfold noPaintB zeroB
  dsimp only
  by_cases h0 : k = 0
  · by_cases h1 : r = 0 ∧ g = 0 ∧ b = 0 ∧ a = 0
    · obtain ⟨rfl, rfl, rfl, rfl⟩ := h1
      by_cases h2 : r2 = 0 ∧ g2 = 0 ∧ b2 = 0 ∧ a2 = 0
      · obtain ⟨rfl, rfl, rfl, rfl⟩ := h2
        by_cases h3 : fx = 0 ∧ fy = 0
        · obtain ⟨rfl, rfl⟩ := h3
          go_simp
          all_goals (by_cases h4 : tx = 0 <;> by_cases h5 : ty = 0 <;> simp_all)
        · go_simp
          all_goals (by_cases h4 : fx = 0 <;> by_cases h5 : fy = 0 <;> simp_all)
      · go_simp
        all_goals (by_cases h3 : r2 = 0 <;> by_cases h4 : g2 = 0 <;> by_cases h5 : b2 = 0 <;> by_cases h6 : a2 = 0 <;> simp_all)
    · go_simp
      all_goals (by_cases h3 : r = 0 <;> by_cases h4 : g = 0 <;> by_cases h5 : b = 0 <;> by_cases h6 : a = 0 <;> simp_all)
  · go_simp
    all_goals simp_all

theorem noPaint_any (p : P13) (w : World) : Calls Tryz.prog 107 #[.agg #[.int .i64 p.k, .int .i64 p.f.x0, .int .i64 p.f.y0, .int .i64 p.f.x1, .int .i64 p.f.y1, .int .i64 p.l.x0, .int .i64 p.l.y0, .int .i64 p.l.x1, .int .i64 p.l.y1, .int .i64 p.fx, .int .i64 p.fy, .int .i64 p.tx, .int .i64 p.ty]] w fun r w' => r = .returned (.bool (noPaintB p)) ∧ Below w.heap.size w w' := by
  obtain ⟨k, ⟨r, g, b, a⟩, ⟨r2, g2, b2, a2⟩, fx, fy, tx, ty⟩ := p
  dsimp only
  have q := eqlNone k r g b a r2 g2 b2 a2 fx fy tx ty
  generalize noPaintB ⟨k, ⟨r, g, b, a⟩, ⟨r2, g2, b2, a2⟩, fx, fy, tx, ty⟩ = X at q ⊢
  go_enter Tryz.func107, Tryz.ntmps107
  go_upto_region 1 with fail
  have R := hide (new_row w (.cells #[.int .i64 k, .int .i64 r, .int .i64 g, .int .i64 b, .int .i64 a, .int .i64 r2, .int .i64 g2, .int .i64 b2, .int .i64 a2, .int .i64 fx, .int .i64 fy, .int .i64 tx, .int .i64 ty] 39))
  have HB := hide (al1_below w (.cells #[.int .i64 k, .int .i64 r, .int .i64 g, .int .i64 b, .int .i64 a, .int .i64 r2, .int .i64 g2, .int .i64 b2, .int .i64 a2, .int .i64 fx, .int .i64 fy, .int .i64 tx, .int .i64 ty] 39))
  generalize w.alloc (.cells #[.int .i64 k, .int .i64 r, .int .i64 g, .int .i64 b, .int .i64 a, .int .i64 r2, .int .i64 g2, .int .i64 b2, .int .i64 a2, .int .i64 fx, .int .i64 fy, .int .i64 tx, .int .i64 ty] 39) = W at R HB ⊢
  obtain ⟨b1, hb1⟩ : ∃ z, Hid (z = w.heap.size) := ⟨_, rfl⟩
  rw [← unhide hb1] at R ⊢
  clear hb1
  obtain ⟨c0, c1, c2, c3, c4, c5, c6, c7, c8, c9, c10, c11, c12⟩ := row13 (unhide R)
  go_wp2_with fail
  go_ret
  exact ⟨rfl, unhide HB⟩

set_option maxHeartbeats 8000000 in
set_option maxRecDepth 100000 in
theorem specNodeOk_any (x : Nd) (s : Na) (hs : x.Small) (w : World) (h : NdIn w x s) :
    Calls Tryz.prog 47 #[.agg #[.int .i64 x.id, .int .i64 x.par, .bool x.gr, .int .i64 x.m0, .int .i64 x.m1, .int .i64 x.m2, .int .i64 x.m3, .int .i64 x.m4, .int .i64 x.m5, .slice s.av x.nv s.cv, .slice s.ap x.np s.cp, .bool x.ev, .int .i64 x.wd, .slice s.ad x.nd s.cd, .int .i64 x.pt.k, .int .i64 x.pt.f.x0, .int .i64 x.pt.f.y0, .int .i64 x.pt.f.x1, .int .i64 x.pt.f.y1, .int .i64 x.pt.l.x0, .int .i64 x.pt.l.y0, .int .i64 x.pt.l.x1, .int .i64 x.pt.l.y1, .int .i64 x.pt.fx, .int .i64 x.pt.fy, .int .i64 x.pt.tx, .int .i64 x.pt.ty, .int .i64 x.md, .int .i64 x.fd, .slice s.bv x.mv s.dv, .slice s.bp x.mp s.dp]] w fun r w' => r = .returned (.bool (nodeOkB x)) ∧ Below w.heap.size w w' := by
  have E1 := hide (l01In_any x.id 1 99)
  have E2 := hide (l01In_any x.par 0 99)
  have E4 := hide (specMatOk_any x.m0 x.m1 x.m2 x.m3 x.m4 x.m5)
  have E5 := hide (fun u => specPathOk_any x.vf x.pf s.av s.ap x.nv s.cv x.np s.cp hs.nv hs.np u _ rightB_iff)
  have E6 := hide (fun u => specPathOk_any x.wf x.qf s.bv s.bp x.mv s.dv x.mp s.dp hs.mv hs.mp u _ rightB_iff)
  have E7 := hide (l01In_any x.wd 0 2048)
  have E8 := hide (fun u => specDashOk_any x.df s.ad x.nd s.cd hs.nd u)
  have E9 := hide (l01In_any x.md 1 5)
  have E10 := hide (l01In_any x.fd 0 255)
  have E11 := hide (specPaintOk_any x.pt.k x.pt.f.x0 x.pt.f.y0 x.pt.f.x1 x.pt.f.y1 x.pt.l.x0 x.pt.l.y0 x.pt.l.x1 x.pt.l.y1 x.pt.fx x.pt.fy x.pt.tx x.pt.ty)
  have E12 := hide (noPath_any s.av s.ap x.nv s.cv x.np s.cp)
  have E13 := hide (noPaint_any x.pt)
  replace h := hide h
  unfold nodeOkB
  generalize inB x.id 1 99 = i1 at E1 ⊢
  generalize inB x.par 0 99 = i2 at E2 ⊢
  generalize matOkB x.m0 x.m1 x.m2 x.m3 x.m4 x.m5 = i4 at E4 ⊢
  generalize rightB x.vf x.nv x.pf x.np = i5 at E5 ⊢
  generalize rightB x.wf x.mv x.qf x.mp = i6 at E6 ⊢
  generalize inB x.wd 0 2048 = i7 at E7 ⊢
  generalize dashOkB x.nd x.df = i8 at E8 ⊢
  generalize inB x.md 1 5 = i9 at E9 ⊢
  generalize inB x.fd 0 255 = i10 at E10 ⊢
  obtain ⟨i3, hi3⟩ : ∃ z, Hid (decide (x.id = x.par) = z) := ⟨_, rfl⟩
  rw [unhide hi3]
  obtain ⟨T, hT⟩ : ∃ z, Hid ((if x.gr = true then noPathB x.nv x.np && (noPaintB x.pt && (decide (x.wd = 0) && (decide (x.nd = 0) && !x.ev))) else paintOkB x.pt) = z) := ⟨_, rfl⟩
  rw [unhide hT]
  generalize hp : paintOkB x.pt = i11 at hT
  replace E11 := hide (show ∀ u, Calls Tryz.prog 108 #[.agg #[.int .i64 x.pt.k, .int .i64 x.pt.f.x0, .int .i64 x.pt.f.y0, .int .i64 x.pt.f.x1, .int .i64 x.pt.f.y1, .int .i64 x.pt.l.x0, .int .i64 x.pt.l.y0, .int .i64 x.pt.l.x1, .int .i64 x.pt.l.y1, .int .i64 x.pt.fx, .int .i64 x.pt.fy, .int .i64 x.pt.tx, .int .i64 x.pt.ty]] u fun e w' => e = .returned (.bool i11) ∧ Below u.heap.size u w' by rw [← hp]; exact unhide E11)
  clear hp
  generalize noPathB x.nv x.np = i12 at E12 hT
  generalize noPaintB x.pt = i13 at E13 hT
  go_enter Tryz.func47, Tryz.ntmps47
  go_upto_region 1 with fail
  have R := hide (new_row w (.cells #[.int .i64 x.id, .int .i64 x.par, .bool x.gr, .int .i64 x.m0, .int .i64 x.m1, .int .i64 x.m2, .int .i64 x.m3, .int .i64 x.m4, .int .i64 x.m5, .slice s.av x.nv s.cv, .slice s.ap x.np s.cp, .bool x.ev, .int .i64 x.wd, .slice s.ad x.nd s.cd, .int .i64 x.pt.k, .int .i64 x.pt.f.x0, .int .i64 x.pt.f.y0, .int .i64 x.pt.f.x1, .int .i64 x.pt.f.y1, .int .i64 x.pt.l.x0, .int .i64 x.pt.l.y0, .int .i64 x.pt.l.x1, .int .i64 x.pt.l.y1, .int .i64 x.pt.fx, .int .i64 x.pt.fy, .int .i64 x.pt.tx, .int .i64 x.pt.ty, .int .i64 x.md, .int .i64 x.fd, .slice s.bv x.mv s.dv, .slice s.bp x.mp s.dp] 41))
  have HB := hide (al1_below w (.cells #[.int .i64 x.id, .int .i64 x.par, .bool x.gr, .int .i64 x.m0, .int .i64 x.m1, .int .i64 x.m2, .int .i64 x.m3, .int .i64 x.m4, .int .i64 x.m5, .slice s.av x.nv s.cv, .slice s.ap x.np s.cp, .bool x.ev, .int .i64 x.wd, .slice s.ad x.nd s.cd, .int .i64 x.pt.k, .int .i64 x.pt.f.x0, .int .i64 x.pt.f.y0, .int .i64 x.pt.f.x1, .int .i64 x.pt.f.y1, .int .i64 x.pt.l.x0, .int .i64 x.pt.l.y0, .int .i64 x.pt.l.x1, .int .i64 x.pt.l.y1, .int .i64 x.pt.fx, .int .i64 x.pt.fy, .int .i64 x.pt.tx, .int .i64 x.pt.ty, .int .i64 x.md, .int .i64 x.fd, .slice s.bv x.mv s.dv, .slice s.bp x.mp s.dp] 41))
  have HN := hide ((unhide h).next (al1_below w (.cells #[.int .i64 x.id, .int .i64 x.par, .bool x.gr, .int .i64 x.m0, .int .i64 x.m1, .int .i64 x.m2, .int .i64 x.m3, .int .i64 x.m4, .int .i64 x.m5, .slice s.av x.nv s.cv, .slice s.ap x.np s.cp, .bool x.ev, .int .i64 x.wd, .slice s.ad x.nd s.cd, .int .i64 x.pt.k, .int .i64 x.pt.f.x0, .int .i64 x.pt.f.y0, .int .i64 x.pt.f.x1, .int .i64 x.pt.f.y1, .int .i64 x.pt.l.x0, .int .i64 x.pt.l.y0, .int .i64 x.pt.l.x1, .int .i64 x.pt.l.y1, .int .i64 x.pt.fx, .int .i64 x.pt.fy, .int .i64 x.pt.tx, .int .i64 x.pt.ty, .int .i64 x.md, .int .i64 x.fd, .slice s.bv x.mv s.dv, .slice s.bp x.mp s.dp] 41)))
  clear h
  generalize w.alloc (.cells #[.int .i64 x.id, .int .i64 x.par, .bool x.gr, .int .i64 x.m0, .int .i64 x.m1, .int .i64 x.m2, .int .i64 x.m3, .int .i64 x.m4, .int .i64 x.m5, .slice s.av x.nv s.cv, .slice s.ap x.np s.cp, .bool x.ev, .int .i64 x.wd, .slice s.ad x.nd s.cd, .int .i64 x.pt.k, .int .i64 x.pt.f.x0, .int .i64 x.pt.f.y0, .int .i64 x.pt.f.x1, .int .i64 x.pt.f.y1, .int .i64 x.pt.l.x0, .int .i64 x.pt.l.y0, .int .i64 x.pt.l.x1, .int .i64 x.pt.l.y1, .int .i64 x.pt.fx, .int .i64 x.pt.fy, .int .i64 x.pt.tx, .int .i64 x.pt.ty, .int .i64 x.md, .int .i64 x.fd, .slice s.bv x.mv s.dv, .slice s.bp x.mp s.dp] 41) = W at R HB HN ⊢
  obtain ⟨b1, hb1⟩ : ∃ z, Hid (z = w.heap.size) := ⟨_, rfl⟩
  rw [← unhide hb1] at R ⊢
  clear hb1
  obtain ⟨c0, c1, c2, c3, c4, c5, c6, c7, c8, c9, c10, c11, c12, c13, c14, c15, c16, c17, c18, c19, c20, c21, c22, c23, c24, c25, c26, c27, c28, c29, c30⟩ := row31 (unhide R)
  go_wp2_with fail
  go_fit (unhide E1 _)
  rintro r u1 ⟨rfl, hu⟩
  rw [hu]
  clear hu u1 c0 c1 c2 c3 c4 c5 c6 c7 c8 c9 c10 c11 c12 c13 c14 c15 c16 c17 c18 c19 c20 c21 c22 c23 c24 c25 c26 c27 c28 c29 c30
  cases i1 with
  | false =>
    go_wp2_with fail
    go_ret
    exact ⟨rfl, unhide HB⟩
  | true =>
  obtain ⟨c0, c1, c2, c3, c4, c5, c6, c7, c8, c9, c10, c11, c12, c13, c14, c15, c16, c17, c18, c19, c20, c21, c22, c23, c24, c25, c26, c27, c28, c29, c30⟩ := row31 (unhide R)
  go_wp2_with fail
  go_fit (unhide E2 _)
  rintro r u1 ⟨rfl, hu⟩
  rw [hu]
  clear hu u1 c0 c1 c2 c3 c4 c5 c6 c7 c8 c9 c10 c11 c12 c13 c14 c15 c16 c17 c18 c19 c20 c21 c22 c23 c24 c25 c26 c27 c28 c29 c30
  cases i2 with
  | false =>
    go_wp2_with fail
    go_ret
    exact ⟨rfl, unhide HB⟩
  | true =>
  by_cases heq : x.id = x.par
  · have hq : (x.id == x.par) = true := beq_iff_eq.2 heq
    have h3 : i3 = true := by rw [← unhide hi3]; exact decide_eq_true heq
    subst h3
    obtain ⟨c0, c1, c2, c3, c4, c5, c6, c7, c8, c9, c10, c11, c12, c13, c14, c15, c16, c17, c18, c19, c20, c21, c22, c23, c24, c25, c26, c27, c28, c29, c30⟩ := row31 (unhide R)
    go_wp2_with fail
    go_ret
    exact ⟨rfl, unhide HB⟩
  have hq : (x.id == x.par) = false := beq_eq_false_iff_ne.2 heq
  have h3 : i3 = false := by rw [← unhide hi3]; exact decide_eq_false heq
  subst h3
  obtain ⟨c0, c1, c2, c3, c4, c5, c6, c7, c8, c9, c10, c11, c12, c13, c14, c15, c16, c17, c18, c19, c20, c21, c22, c23, c24, c25, c26, c27, c28, c29, c30⟩ := row31 (unhide R)
  skip
  go_wp2_with fail
  go_fit (unhide E4 _)
  rintro r u1 ⟨rfl, hb⟩
  replace R := hide (row_next hb (unhide R))
  replace HN := hide ((unhide HN).next hb)
  replace HB := hide (below_two (unhide HB) hb)
  clear hb c0 c1 c2 c3 c4 c5 c6 c7 c8 c9 c10 c11 c12 c13 c14 c15 c16 c17 c18 c19 c20 c21 c22 c23 c24 c25 c26 c27 c28 c29 c30
  cases i4 with
  | false =>
    go_wp2_with fail
    go_ret
    exact ⟨rfl, unhide HB⟩
  | true =>
  obtain ⟨c0, c1, c2, c3, c4, c5, c6, c7, c8, c9, c10, c11, c12, c13, c14, c15, c16, c17, c18, c19, c20, c21, c22, c23, c24, c25, c26, c27, c28, c29, c30⟩ := row31 (unhide R)
  have F := hide (unhide E5 _ (unhide HN).v (unhide HN).p)
  skip
  go_wp2_with fail
  go_fit (unhide F)
  rintro r u1 ⟨rfl, hb⟩
  replace R := hide (row_next hb (unhide R))
  replace HN := hide ((unhide HN).next hb)
  replace HB := hide (below_two (unhide HB) hb)
  clear hb F c0 c1 c2 c3 c4 c5 c6 c7 c8 c9 c10 c11 c12 c13 c14 c15 c16 c17 c18 c19 c20 c21 c22 c23 c24 c25 c26 c27 c28 c29 c30
  cases i5 with
  | false =>
    go_wp2_with fail
    go_ret
    exact ⟨rfl, unhide HB⟩
  | true =>
  obtain ⟨c0, c1, c2, c3, c4, c5, c6, c7, c8, c9, c10, c11, c12, c13, c14, c15, c16, c17, c18, c19, c20, c21, c22, c23, c24, c25, c26, c27, c28, c29, c30⟩ := row31 (unhide R)
  have F := hide (unhide E6 _ (unhide HN).cv (unhide HN).cp)
  skip
  go_wp2_with fail
  go_fit (unhide F)
  rintro r u1 ⟨rfl, hb⟩
  replace R := hide (row_next hb (unhide R))
  replace HN := hide ((unhide HN).next hb)
  replace HB := hide (below_two (unhide HB) hb)
  clear hb F c0 c1 c2 c3 c4 c5 c6 c7 c8 c9 c10 c11 c12 c13 c14 c15 c16 c17 c18 c19 c20 c21 c22 c23 c24 c25 c26 c27 c28 c29 c30
  cases i6 with
  | false =>
    go_wp2_with fail
    go_ret
    exact ⟨rfl, unhide HB⟩
  | true =>
  obtain ⟨c0, c1, c2, c3, c4, c5, c6, c7, c8, c9, c10, c11, c12, c13, c14, c15, c16, c17, c18, c19, c20, c21, c22, c23, c24, c25, c26, c27, c28, c29, c30⟩ := row31 (unhide R)
  go_wp2_with fail
  go_fit (unhide E7 _)
  rintro r u1 ⟨rfl, hu⟩
  rw [hu]
  clear hu u1 c0 c1 c2 c3 c4 c5 c6 c7 c8 c9 c10 c11 c12 c13 c14 c15 c16 c17 c18 c19 c20 c21 c22 c23 c24 c25 c26 c27 c28 c29 c30
  cases i7 with
  | false =>
    go_wp2_with fail
    go_ret
    exact ⟨rfl, unhide HB⟩
  | true =>
  obtain ⟨c0, c1, c2, c3, c4, c5, c6, c7, c8, c9, c10, c11, c12, c13, c14, c15, c16, c17, c18, c19, c20, c21, c22, c23, c24, c25, c26, c27, c28, c29, c30⟩ := row31 (unhide R)
  have F := hide (unhide E8 _ (unhide HN).d)
  go_wp2_with fail
  go_fit (unhide F)
  rintro r u1 ⟨rfl, hu⟩
  rw [hu]
  clear hu u1 F c0 c1 c2 c3 c4 c5 c6 c7 c8 c9 c10 c11 c12 c13 c14 c15 c16 c17 c18 c19 c20 c21 c22 c23 c24 c25 c26 c27 c28 c29 c30
  cases i8 with
  | false =>
    go_wp2_with fail
    go_ret
    exact ⟨rfl, unhide HB⟩
  | true =>
  obtain ⟨c0, c1, c2, c3, c4, c5, c6, c7, c8, c9, c10, c11, c12, c13, c14, c15, c16, c17, c18, c19, c20, c21, c22, c23, c24, c25, c26, c27, c28, c29, c30⟩ := row31 (unhide R)
  go_wp2_with fail
  go_fit (unhide E9 _)
  rintro r u1 ⟨rfl, hu⟩
  rw [hu]
  clear hu u1 c0 c1 c2 c3 c4 c5 c6 c7 c8 c9 c10 c11 c12 c13 c14 c15 c16 c17 c18 c19 c20 c21 c22 c23 c24 c25 c26 c27 c28 c29 c30
  cases i9 with
  | false =>
    go_wp2_with fail
    go_ret
    exact ⟨rfl, unhide HB⟩
  | true =>
  obtain ⟨c0, c1, c2, c3, c4, c5, c6, c7, c8, c9, c10, c11, c12, c13, c14, c15, c16, c17, c18, c19, c20, c21, c22, c23, c24, c25, c26, c27, c28, c29, c30⟩ := row31 (unhide R)
  go_wp2_with fail
  go_fit (unhide E10 _)
  rintro r u1 ⟨rfl, hu⟩
  rw [hu]
  clear hu u1 c0 c1 c2 c3 c4 c5 c6 c7 c8 c9 c10 c11 c12 c13 c14 c15 c16 c17 c18 c19 c20 c21 c22 c23 c24 c25 c26 c27 c28 c29 c30
  cases i10 with
  | false =>
    go_wp2_with fail
    go_ret
    exact ⟨rfl, unhide HB⟩
  | true =>
  by_cases hg : x.gr = true
  · clear E11
    obtain ⟨c0, c1, c2, c3, c4, c5, c6, c7, c8, c9, c10, c11, c12, c13, c14, c15, c16, c17, c18, c19, c20, c21, c22, c23, c24, c25, c26, c27, c28, c29, c30⟩ := row31 (unhide R)
    skip
    go_wp2_with fail
    go_fit (unhide E12 _)
    rintro r u1 ⟨rfl, hb⟩
    replace R := hide (row_next hb (unhide R))
    replace HN := hide ((unhide HN).next hb)
    replace HB := hide (below_two (unhide HB) hb)
    clear hb c0 c1 c2 c3 c4 c5 c6 c7 c8 c9 c10 c11 c12 c13 c14 c15 c16 c17 c18 c19 c20 c21 c22 c23 c24 c25 c26 c27 c28 c29 c30
    cases i12 with
    | false =>
      go_wp2_with fail
      go_ret
      exact ⟨ret_bool (by rw [← unhide hT, if_pos hg]; rfl), unhide HB⟩
    | true =>
    obtain ⟨c0, c1, c2, c3, c4, c5, c6, c7, c8, c9, c10, c11, c12, c13, c14, c15, c16, c17, c18, c19, c20, c21, c22, c23, c24, c25, c26, c27, c28, c29, c30⟩ := row31 (unhide R)
    skip
    go_wp2_with fail
    go_fit (unhide E13 _)
    rintro r u1 ⟨rfl, hb⟩
    replace R := hide (row_next hb (unhide R))
    replace HN := hide ((unhide HN).next hb)
    replace HB := hide (below_two (unhide HB) hb)
    clear hb c0 c1 c2 c3 c4 c5 c6 c7 c8 c9 c10 c11 c12 c13 c14 c15 c16 c17 c18 c19 c20 c21 c22 c23 c24 c25 c26 c27 c28 c29 c30
    cases i13 with
    | false =>
      go_wp2_with fail
      go_ret
      exact ⟨ret_bool (by rw [← unhide hT, if_pos hg]; rfl), unhide HB⟩
    | true =>
    by_cases h1 : x.wd = 0
    · have q1 : (x.wd == 0) = true := beq_iff_eq.2 h1
      by_cases h2 : x.nd = 0
      · have q2 : ((x.nd : Int) == 0) = true := beq_iff_eq.2 (by omega)
        obtain ⟨c0, c1, c2, c3, c4, c5, c6, c7, c8, c9, c10, c11, c12, c13, c14, c15, c16, c17, c18, c19, c20, c21, c22, c23, c24, c25, c26, c27, c28, c29, c30⟩ := row31 (unhide R)
        go_wp2_with fail
        go_ret
        exact ⟨ret_bool (by rw [← unhide hT, if_pos hg, decide_eq_true h1, decide_eq_true h2]; rfl), unhide HB⟩
      · have q2 : ((x.nd : Int) == 0) = false := beq_eq_false_iff_ne.2 (by omega)
        obtain ⟨c0, c1, c2, c3, c4, c5, c6, c7, c8, c9, c10, c11, c12, c13, c14, c15, c16, c17, c18, c19, c20, c21, c22, c23, c24, c25, c26, c27, c28, c29, c30⟩ := row31 (unhide R)
        go_wp2_with fail
        go_ret
        exact ⟨ret_bool (by rw [← unhide hT, if_pos hg, decide_eq_true h1, decide_eq_false h2]; rfl), unhide HB⟩
    · have q1 : (x.wd == 0) = false := beq_eq_false_iff_ne.2 h1
      obtain ⟨c0, c1, c2, c3, c4, c5, c6, c7, c8, c9, c10, c11, c12, c13, c14, c15, c16, c17, c18, c19, c20, c21, c22, c23, c24, c25, c26, c27, c28, c29, c30⟩ := row31 (unhide R)
      go_wp2_with fail
      go_ret
      exact ⟨ret_bool (by rw [← unhide hT, if_pos hg, decide_eq_false h1]; rfl), unhide HB⟩
  · have hgf : x.gr = false := by cases e : x.gr with | true => exact absurd e hg | false => rfl
    obtain ⟨c0, c1, c2, c3, c4, c5, c6, c7, c8, c9, c10, c11, c12, c13, c14, c15, c16, c17, c18, c19, c20, c21, c22, c23, c24, c25, c26, c27, c28, c29, c30⟩ := row31 (unhide R)
    skip
    go_wp2_with fail
    go_fit (unhide E11 _)
    rintro r u1 ⟨rfl, hb⟩
    replace R := hide (row_next hb (unhide R))
    replace HN := hide ((unhide HN).next hb)
    replace HB := hide (below_two (unhide HB) hb)
    clear hb c0 c1 c2 c3 c4 c5 c6 c7 c8 c9 c10 c11 c12 c13 c14 c15 c16 c17 c18 c19 c20 c21 c22 c23 c24 c25 c26 c27 c28 c29 c30
    go_wp2_with fail
    go_ret
    exact ⟨ret_bool (by rw [← unhide hT, if_neg hg]; rfl), unhide HB⟩
end Go.Proofs.YtmafopckplpajaaGreatDoor

/-
  Scenes: what both sides reckon; where a node stands, how deep it is, what is under it.
-/
namespace Go.Proofs.YtmafopckplpajaaGreatDoor
open Go.RowKit
set_option linter.unusedVariables false

/-- Node i of a list that lies there. -/
def NrAt (w : World) (ao : Option Addr) (i : Nat) (x : Nd) (s : Na) : Prop :=
  ∃ b o, ao = some ⟨b, o, none⟩ ∧ (∀ (j : Nat) (v : Value), (#[.int .i64 x.id, .int .i64 x.par, .bool x.gr, .int .i64 x.m0, .int .i64 x.m1, .int .i64 x.m2, .int .i64 x.m3, .int .i64 x.m4, .int .i64 x.m5, .slice s.av x.nv s.cv, .slice s.ap x.np s.cp, .bool x.ev, .int .i64 x.wd, .slice s.ad x.nd s.cd, .int .i64 x.pt.k, .int .i64 x.pt.f.x0, .int .i64 x.pt.f.y0, .int .i64 x.pt.f.x1, .int .i64 x.pt.f.y1, .int .i64 x.pt.l.x0, .int .i64 x.pt.l.y0, .int .i64 x.pt.l.x1, .int .i64 x.pt.l.y1, .int .i64 x.pt.fx, .int .i64 x.pt.fy, .int .i64 x.pt.tx, .int .i64 x.pt.ty, .int .i64 x.md, .int .i64 x.fd, .slice s.bv x.mv s.dv, .slice s.bp x.mp s.dp])[j]? = some v → w.cell? ⟨b, o + i * 31 + j, none⟩ = some v) ∧ NdIn w x s
theorem NrAt.next {w u : World} {ao : Option Addr} {i : Nat} {x : Nd} {s : Na} (h : NrAt w ao i x s) (hb : Below w.heap.size w u) : NrAt u ao i x s :=
  let ⟨b, o, h1, h2, h3⟩ := h; ⟨b, o, h1, fun j v hv => kc hb (h2 j v hv), h3.next hb⟩
theorem NrAt.heads {w : World} {ao : Option Addr} {i : Nat} {x : Nd} {s : Na} (h : NrAt w ao i x s) : ∃ b o, ao = some ⟨b, o, none⟩ ∧ w.cell? ⟨b, o + i * 31, none⟩ = some (.int .i64 x.id) ∧ w.cell? ⟨b, o + i * 31 + 1, none⟩ = some (.int .i64 x.par) ∧ w.cell? ⟨b, o + i * 31 + 2, none⟩ = some (.bool x.gr) :=
  let ⟨b, o, h1, h2, _⟩ := h; ⟨b, o, h1, h2 0 _ rfl, h2 1 _ rfl, h2 2 _ rfl⟩
/-- The first of n nodes with this Id. -/
def firstN (X : Nat → Nd) (id : Int) : Nat → Int
  | 0 => -1
  | n + 1 => if 0 ≤ firstN X id n then firstN X id n else if (X n).id = id then (n : Int) else -1
theorem first_none {X : Nat → Nd} {id : Int} : ∀ {n : Nat}, (∀ j, j < n → (X j).id ≠ id) → firstN X id n = -1
  | 0, _ => rfl
  | n + 1, h => by
    have e := first_none (n := n) (fun j hj => h j (by omega))
    unfold firstN
    rw [e, if_neg (by omega), if_neg (h n (by omega))]
theorem first_at {X : Nat → Nd} {id : Int} {k : Nat} (h : ∀ j, j < k → (X j).id ≠ id) (hk : (X k).id = id) : ∀ {n : Nat}, k < n → firstN X id n = k
  | 0, hn => absurd hn (by omega)
  | n + 1, hn => by
    unfold firstN
    by_cases e : k = n
    · subst e
      rw [first_none h, if_neg (by omega), if_pos hk]
    · rw [first_at h hk (n := n) (by omega), if_pos (by omega)]
theorem first_is {X : Nat → Nd} {id : Int} : ∀ n : Nat, (firstN X id n = -1 ∧ ∀ j, j < n → (X j).id ≠ id) ∨ ∃ k : Nat, k < n ∧ firstN X id n = k ∧ (X k).id = id ∧ ∀ j, j < k → (X j).id ≠ id
  | 0 => .inl ⟨rfl, fun j hj => absurd hj (by omega)⟩
  | n + 1 => by
    rcases first_is (X := X) (id := id) n with ⟨e, h⟩ | ⟨k, hk, e, h1, h2⟩
    · by_cases hx : (X n).id = id
      · exact .inr ⟨n, by omega, first_at h hx (by omega), hx, h⟩
      · refine .inl ⟨first_none (n := n + 1) ?_, ?_⟩
        all_goals
          intro j hj
          by_cases hj2 : j = n
          · subst hj2; exact hx
          · exact h j (by omega)
    · exact .inr ⟨k, by omega, first_at h2 h1 (by omega), h1, h2⟩
/-- How deep a node is, found within fuel steps, n above it counted already. -/
def depthN (X : Nat → Nd) (n : Nat) : Nat → Int → Int → Int
  | 0, _, _ => 0
  | fuel + 1, c, id => if id = 0 then c else if firstN X id n < 0 then 0 else depthN X n fuel (c + 1) (X (firstN X id n).toNat).par
def depthI (X : Nat → Nd) (n : Nat) (id : Int) : Int := depthN X n 9 0 id
/-- Is a node another one, or below it? -/
def underN (X : Nat → Nd) (n : Nat) (top : Int) : Nat → Int → Bool
  | 0, _ => false
  | fuel + 1, id => if id = top then true else if firstN X id n < 0 then false else underN X n top fuel (X (firstN X id n).toNat).par
def underB (X : Nat → Nd) (n : Nat) (id top : Int) : Bool := underN X n top 9 id
theorem row1 {w1 : World} {b : Nat} {x0 : Value} {t : TypeId} (h : w1.heap[b]? = some (.cells #[x0] t (0, 0))) : w1.cell? ⟨b, 0, none⟩ = some x0 := by simp [World.cell?, h]

set_option maxHeartbeats 4000000 in
set_option maxRecDepth 100000 in
theorem specNodeAt_any (X : Nat → Nd) (A : Nat → Na) (ao : Option Addr) (n cp : Nat) (hn : n ≤ 1048576) (id : Int) (w : World) (P : ∀ i, i < n → NrAt w ao i (X i) (A i)) :
    Calls Tryz.prog 26 #[.agg #[.slice ao n cp], .int .i64 id] w fun r w' => r = .returned (.int .i64 (firstN X id n)) ∧ Below w.heap.size w w' := by
  have hno : Hid ((∀ j, j < n → (X j).id ≠ id) → firstN X id n = -1) := first_none
  have hyes : Hid (∀ k, (∀ j, j < k → (X j).id ≠ id) → (X k).id = id → k < n → firstN X id n = (k : Int)) := fun k h1 h2 h3 => first_at h1 h2 h3
  generalize firstN X id n = Z at hno hyes ⊢
  replace P := hide P
  go_enter Tryz.func26, Tryz.ntmps26
  go_upto_region 1 with fail
  have R := hide (new_row w (.cells #[.slice ao n cp] 26))
  have HB := hide (al1_below w (.cells #[.slice ao n cp] 26))
  obtain ⟨b1, hb1⟩ : ∃ z, Hid (z = w.heap.size) := ⟨_, rfl⟩
  rw [← unhide hb1] at R ⊢
  clear hb1
  generalize w.alloc (.cells #[.slice ao n cp] 26) = W at R HB ⊢
  replace P := hide (fun i hi => (unhide P i hi).next (unhide HB))
  go_upto_region 2 with fail
  go_loopw [5] (fun i u => ∃ k : Nat, k ≤ n ∧ i = .int .i64 (k : Int) ∧ u = W ∧ Hid (∀ j, j < k → (X j).id ≠ id)) (fun i _ => n - (intOf i).toNat)
  case atStart => exact ⟨0, Nat.zero_le _, rfl, rfl, fun j hj => absurd hj (by omega)⟩
  case round =>
    obtain ⟨k, hk, rfl, rfl, HK⟩ := hrel
    have c0 := row1 (unhide R)
    by_cases hkn : k < n
    · have hki : (k : Int) < (n : Int) := by omega
      obtain ⟨b, o, hao, g0, g1, g2⟩ := (unhide P k hkn).heads
      subst hao
      by_cases hx : (X k).id = id
      · have hq : ((X k).id == id) = true := beq_iff_eq.2 hx
        have hX := hide (unhide hyes k (unhide HK) hx hkn)
        go_wp2_with fail
        go_ret
        exact ⟨by rw [unhide hX]; rfl, unhide HB⟩
      · have hq : ((X k).id == id) = false := beq_eq_false_iff_ne.2 hx
        have HK2 : Hid (∀ j, j < k + 1 → (X j).id ≠ id) := fun j hj => by
          by_cases e : j = k
          · subst e; exact hx
          · exact unhide HK j (by omega)
        go_wp2_with fail
        go_roundw
        case rel => exact ⟨k + 1, by omega, by go_num, by trivial, HK2⟩
        case measure => simp [intOf]; omega
    · have hke : k = n := by omega
      subst hke
      have hki : ¬ (k : Int) < (k : Int) := by omega
      have hX := hide (unhide hno (unhide HK))
      go_wp2_with fail
      go_ret
      exact ⟨by rw [unhide hX]; rfl, unhide HB⟩
end Go.Proofs.YtmafopckplpajaaGreatDoor

/-
  The specification's DepthOf and l15Under.
-/
namespace Go.Proofs.YtmafopckplpajaaGreatDoor
open Go.RowKit
set_option linter.unusedVariables false

theorem depth_end {X : Nat → Nd} {n : Nat} {fuel : Nat} {c id : Int} (h : id = 0) : depthN X n (fuel + 1) c id = c := by unfold depthN; rw [if_pos h]
theorem depth_lost {X : Nat → Nd} {n : Nat} {fuel : Nat} {c id : Int} (h : id ≠ 0) (h2 : firstN X id n < 0) : depthN X n (fuel + 1) c id = 0 := by unfold depthN; rw [if_neg h, if_pos h2]
theorem depth_up {X : Nat → Nd} {n : Nat} {fuel : Nat} {c id : Int} (h : id ≠ 0) {k : Nat} (h2 : firstN X id n = (k : Int)) : depthN X n (fuel + 1) c id = depthN X n fuel (c + 1) (X k).par := by
  rw [depthN, if_neg h, if_neg (by omega), h2]; rfl
theorem under_end {X : Nat → Nd} {n : Nat} {fuel : Nat} {top id : Int} (h : id = top) : underN X n top (fuel + 1) id = true := by unfold underN; rw [if_pos h]
theorem under_lost {X : Nat → Nd} {n : Nat} {fuel : Nat} {top id : Int} (h : id ≠ top) (h2 : firstN X id n < 0) : underN X n top (fuel + 1) id = false := by unfold underN; rw [if_neg h, if_pos h2]
theorem under_up {X : Nat → Nd} {n : Nat} {fuel : Nat} {top id : Int} (h : id ≠ top) {k : Nat} (h2 : firstN X id n = (k : Int)) : underN X n top (fuel + 1) id = underN X n top fuel (X k).par := by
  rw [underN, if_neg h, if_neg (by omega), h2]; rfl

set_option maxHeartbeats 4000000 in
set_option maxRecDepth 100000 in
theorem specDepthOf_any (X : Nat → Nd) (A : Nat → Na) (ao : Option Addr) (n cp : Nat) (hn : n ≤ 1048576) (id : Int) (w : World) (P : ∀ i, i < n → NrAt w ao i (X i) (A i)) :
    Calls Tryz.prog 48 #[.agg #[.slice ao n cp], .int .i64 id] w fun r w' => r = .returned (.int .i64 (depthI X n id)) ∧ Below w.heap.size w w' := by
  have hZ : Hid (depthN X n (8 + 1) 0 id = depthI X n id) := rfl
  generalize depthI X n id = Z at hZ ⊢
  have EA := hide (fun u z => specNodeAt_any X A ao n cp hn z u)
  replace P := hide P
  go_enter Tryz.func48, Tryz.ntmps48
  go_upto_region 1 with fail
  have R := hide (new_row w (.cells #[.slice ao n cp] 26))
  have HB := hide (al1_below w (.cells #[.slice ao n cp] 26))
  obtain ⟨b1, hb1⟩ : ∃ z, Hid (z = w.heap.size) := ⟨_, rfl⟩
  rw [← unhide hb1] at R ⊢
  clear hb1
  generalize w.alloc (.cells #[.slice ao n cp] 26) = W at R HB ⊢
  go_upto_region 3 with fail
  go_loopw [6, 5, 1] (fun i c d u => ∃ (k fuel : Nat) (z : Int), k + fuel = 9 ∧ i = .int .i64 (k : Int) ∧ c = .int .i64 (k : Int) ∧ d = .int .i64 z ∧ Hid (depthN X n fuel (k : Int) z = Z) ∧ Hid (u.heap[b1]? = some (.cells #[.slice ao n cp] 26 (0, 0))) ∧ Hid (Below w.heap.size w u)) (fun i _ _ _ => 9 - (intOf i).toNat)
  case atStart => exact ⟨0, 9, id, rfl, rfl, rfl, rfl, hZ, R, HB⟩
  case round =>
    clear R HB hZ
    obtain ⟨k, fuel, z, hf, rfl, rfl, rfl, hZ, R, HB⟩ := hrel
    have c0 := row1 (unhide R)
    cases fuel with
    | zero =>
      have hki : ¬ (k : Int) ≤ 8 := by omega
      go_wp2_with fail
      go_ret
      exact ⟨by rw [← unhide hZ]; rfl, unhide HB⟩
    | succ fuel =>
      have hki : (k : Int) ≤ 8 := by omega
      have hk8 : k ≤ 8 := by omega
      by_cases hz : z = 0
      · have hq : (z == 0) = true := beq_iff_eq.2 hz
        go_wp2_with fail
        go_ret
        exact ⟨by rw [← unhide hZ, depth_end hz]; rfl, unhide HB⟩
      · have hq : (z == 0) = false := beq_eq_false_iff_ne.2 hz
        have E2 := hide (unhide EA wr z (fun i hi => (unhide P i hi).next (unhide HB)))
        rcases first_is (X := X) (id := z) n with ⟨e, _⟩ | ⟨m, hm, e, _, _⟩
        · have hX := hide (show Z = 0 by rw [← unhide hZ, depth_lost hz (by omega)])
          rw [e] at E2
          clear e
          go_wp2_with fail
          go_fit (unhide E2)
          rintro r u1 ⟨rfl, hb⟩
          replace HB := hide (below_two (unhide HB) hb)
          clear hb
          go_wp2_with fail
          go_ret
          exact ⟨by rw [unhide hX]; rfl, unhide HB⟩
        · have hX := hide (show depthN X n fuel ((k + 1 : Nat) : Int) (X m).par = Z by rw [← unhide hZ, depth_up hz e]; rfl)
          rw [e] at E2
          clear e
          have hmn : (m : Int) < (n : Int) := by omega
          have hm0 : ¬ (m : Int) < 0 := by omega
          go_wp2_with fail
          go_fit (unhide E2)
          rintro r u1 ⟨rfl, hb⟩
          replace HB := hide (below_two (unhide HB) hb)
          replace R := hide (row_next hb (unhide R))
          clear hb c0
          have c0 := row1 (unhide R)
          obtain ⟨b, o, hao, g0, g1, g2⟩ := ((unhide P m hm).next (unhide HB)).heads
          subst hao
          go_wp2_with fail
          go_roundw
          case rel => exact ⟨k + 1, fuel, _, by omega, by go_num, by go_num, rfl, hX, R, HB⟩
          case measure => simp [intOf]; omega

set_option maxHeartbeats 4000000 in
set_option maxRecDepth 100000 in
theorem under_any (X : Nat → Nd) (A : Nat → Na) (ao : Option Addr) (n cp : Nat) (hn : n ≤ 1048576) (id top : Int) (w : World) (P : ∀ i, i < n → NrAt w ao i (X i) (A i)) :
    Calls Tryz.prog 62 #[.agg #[.slice ao n cp], .int .i64 id, .int .i64 top] w fun r w' => r = .returned (.bool (underB X n id top)) ∧ Below w.heap.size w w' := by
  have hZ : Hid (underN X n top (8 + 1) id = underB X n id top) := rfl
  generalize underB X n id top = Z at hZ ⊢
  have EA := hide (fun u z => specNodeAt_any X A ao n cp hn z u)
  replace P := hide P
  go_enter Tryz.func62, Tryz.ntmps62
  go_upto_region 1 with fail
  have R := hide (new_row w (.cells #[.slice ao n cp] 26))
  have HB := hide (al1_below w (.cells #[.slice ao n cp] 26))
  obtain ⟨b1, hb1⟩ : ∃ z, Hid (z = w.heap.size) := ⟨_, rfl⟩
  rw [← unhide hb1] at R ⊢
  clear hb1
  generalize w.alloc (.cells #[.slice ao n cp] 26) = W at R HB ⊢
  go_upto_region 2 with fail
  go_loopw [7, 1] (fun i d u => ∃ (k fuel : Nat) (z : Int), k + fuel = 9 ∧ i = .int .i64 (k : Int) ∧ d = .int .i64 z ∧ Hid (underN X n top fuel z = Z) ∧ Hid (u.heap[b1]? = some (.cells #[.slice ao n cp] 26 (0, 0))) ∧ Hid (Below w.heap.size w u)) (fun i _ _ => 9 - (intOf i).toNat)
  case atStart => exact ⟨0, 9, id, rfl, rfl, rfl, hZ, R, HB⟩
  case round =>
    clear R HB hZ
    obtain ⟨k, fuel, z, hf, rfl, rfl, hZ, R, HB⟩ := hrel
    have c0 := row1 (unhide R)
    cases fuel with
    | zero =>
      have hki : ¬ (k : Int) ≤ 8 := by omega
      go_wp2_with fail
      go_ret
      exact ⟨by rw [← unhide hZ]; rfl, unhide HB⟩
    | succ fuel =>
      have hki : (k : Int) ≤ 8 := by omega
      have hk8 : k ≤ 8 := by omega
      by_cases hz : z = top
      · have hq : (z == top) = true := beq_iff_eq.2 hz
        go_wp2_with fail
        go_ret
        exact ⟨by rw [← unhide hZ, under_end hz]; rfl, unhide HB⟩
      · have hq : (z == top) = false := beq_eq_false_iff_ne.2 hz
        have E2 := hide (unhide EA wr z (fun i hi => (unhide P i hi).next (unhide HB)))
        rcases first_is (X := X) (id := z) n with ⟨e, _⟩ | ⟨m, hm, e, _, _⟩
        · have hX := hide (show Z = false by rw [← unhide hZ, under_lost hz (by omega)])
          rw [e] at E2
          clear e
          go_wp2_with fail
          go_fit (unhide E2)
          rintro r u1 ⟨rfl, hb⟩
          replace HB := hide (below_two (unhide HB) hb)
          clear hb
          go_wp2_with fail
          go_ret
          exact ⟨by rw [unhide hX]; rfl, unhide HB⟩
        · have hX := hide (show underN X n top fuel (X m).par = Z by rw [← unhide hZ, under_up hz e])
          rw [e] at E2
          clear e
          have hmn : (m : Int) < (n : Int) := by omega
          have hm0 : ¬ (m : Int) < 0 := by omega
          go_wp2_with fail
          go_fit (unhide E2)
          rintro r u1 ⟨rfl, hb⟩
          replace HB := hide (below_two (unhide HB) hb)
          replace R := hide (row_next hb (unhide R))
          clear hb c0
          have c0 := row1 (unhide R)
          obtain ⟨b, o, hao, g0, g1, g2⟩ := ((unhide P m hm).next (unhide HB)).heads
          subst hao
          go_wp2_with fail
          go_roundw
          case rel => exact ⟨k + 1, fuel, _, by omega, by go_num, rfl, hX, R, HB⟩
          case measure => simp [intOf]; omega
end Go.Proofs.YtmafopckplpajaaGreatDoor

/-
  A node's cells as one thing: loads and stores of a whole node in one step.
-/
namespace Go.Proofs.YtmafopckplpajaaGreatDoor
open Go.RowKit
set_option linter.unusedVariables false

/-- The cells of a node. -/
def ndC (x : Nd) (s : Na) : Array Value := #[.int .i64 x.id, .int .i64 x.par, .bool x.gr, .int .i64 x.m0, .int .i64 x.m1, .int .i64 x.m2, .int .i64 x.m3, .int .i64 x.m4, .int .i64 x.m5, .slice s.av x.nv s.cv, .slice s.ap x.np s.cp, .bool x.ev, .int .i64 x.wd, .slice s.ad x.nd s.cd, .int .i64 x.pt.k, .int .i64 x.pt.f.x0, .int .i64 x.pt.f.y0, .int .i64 x.pt.f.x1, .int .i64 x.pt.f.y1, .int .i64 x.pt.l.x0, .int .i64 x.pt.l.y0, .int .i64 x.pt.l.x1, .int .i64 x.pt.l.y1, .int .i64 x.pt.fx, .int .i64 x.pt.fy, .int .i64 x.pt.tx, .int .i64 x.pt.ty, .int .i64 x.md, .int .i64 x.fd, .slice s.bv x.mv s.dv, .slice s.bp x.mp s.dp]
theorem ndC_size (x : Nd) (s : Na) : (ndC x s).size = 31 := rfl
theorem ndC_one (x : Nd) (s : Na) : (ndC x s).all (·.oneCell') = true := by unfold ndC; simp [Value.oneCell']
theorem node_size : (Tryz.prog.info? 41).map (·.size) = some 31 := by kernel_rfl
theorem ndC_info (x : Nd) (s : Na) : (Tryz.prog.info? 41).map (·.size) = some (ndC x s).size := by rw [ndC_size]; exact node_size
theorem ndC_infoL (x : Nd) (s : Na) : (Tryz.prog.info? 41).map (·.size) = some (ndC x s).toList.length := by rw [Array.length_toList]; exact ndC_info x s
theorem NrAt.range {w : World} {ao : Option Addr} {i : Nat} {x : Nd} {s : Na} (h : NrAt w ao i x s) : ∃ b o, ao = some ⟨b, o, none⟩ ∧ w.rangeAt b (o + i * 31) (ndC x s).toList :=
  let ⟨b, o, h1, h2, _⟩ := h; ⟨b, o, h1, fun j v hv => h2 j v (by rw [← Array.getElem?_toList]; exact hv)⟩
theorem NrAt.inn {w : World} {ao : Option Addr} {i : Nat} {x : Nd} {s : Na} (h : NrAt w ao i x s) : NdIn w x s := let ⟨_, _, _, _, h3⟩ := h; h3

theorem specNodeOk_c (x : Nd) (s : Na) (hs : x.Small) (w : World) (h : NdIn w x s) :
    Calls Tryz.prog 47 #[.agg (ndC x s)] w fun r w' => r = .returned (.bool (nodeOkB x)) ∧ Below w.heap.size w w' := specNodeOk_any x s hs w h

theorem headsC {w1 : World} {b : Nat} {x : Nd} {s : Na} {t : TypeId} (h : w1.heap[b]? = some (.cells (ndC x s) t (0, 0))) :
    w1.cell? ⟨b, 0, none⟩ = some (.int .i64 x.id) ∧ w1.cell? ⟨b, 1, none⟩ = some (.int .i64 x.par) ∧ w1.cell? ⟨b, 2, none⟩ = some (.bool x.gr) :=
  let h' := row31 h; ⟨h'.1, h'.2.1, h'.2.2.1⟩
/-- A whole node out of the middle of a list. -/
theorem load_node {ops : Array Oper} {rest : List Oper} {op : Oper} {a : Act} {w : World} {Q : Exit → Act → World → Prop} (hgd : op.guard = none) (y : Operand) (ho : op.op = .load 41 y)
    (b o : Nat) (hx : a.eval y = .pointer (some ⟨b, o, none⟩)) (x : Nd) (s : Na) (hc : w.rangeAt b o (ndC x s).toList)
    (h : wpList Tryz.prog ops Q rest (a.put op.dst (.agg (ndC x s))) w) : wpList Tryz.prog ops Q (op :: rest) a w :=
  wpList_load_mid hgd 41 y ho b o hx (ndC x s).toList _ hc Tryz.underlying41 rfl (ndC_infoL x s) (by rw [Array.toArray_toList]; exact h)
/-- A whole node out of its own variable. -/
theorem load_own {ops : Array Oper} {rest : List Oper} {op : Oper} {a : Act} {w : World} {Q : Exit → Act → World → Prop} (hgd : op.guard = none) (y : Operand) (ho : op.op = .load 41 y)
    (b : Nat) (hx : a.eval y = .pointer (some ⟨b, 0, none⟩)) (x : Nd) (s : Na) (t : TypeId) (hc : w.heap[b]? = some (.cells (ndC x s) t (0, 0)))
    (h : wpList Tryz.prog ops Q rest (a.put op.dst (.agg (ndC x s))) w) : wpList Tryz.prog ops Q (op :: rest) a w :=
  wpList_load_row hgd 41 y ho b hx t (ndC x s) (0, 0) _ hc Tryz.underlying41 rfl (ndC_info x s) h
/-- A whole node into the variable that was made last. -/
theorem store_new {ops : Array Oper} {rest : List Oper} {op : Oper} {a : Act} {w : World} {Q : Exit → Act → World → Prop} (hgd : op.guard = none) (y z : Operand) (ho : op.op = .store 41 y z)
    (old : Array Value) (x : Nd) (s : Na) (hx : a.eval y = .pointer (some ⟨w.heap.size, 0, none⟩)) (hy : a.eval z = .agg (ndC x s)) (hold : old.size = 31)
    (h : wpList Tryz.prog ops Q rest (a.put op.dst undef) (w.alloc (.cells (ndC x s) 41))) : wpList Tryz.prog ops Q (op :: rest) a (w.alloc (.cells old 41)) :=
  wpList_store_row hgd 41 y z ho w.heap.size (ndC x s) hx hy 41 old (heap_alloc_last w _) (ndC_info x s) hold (ndC_one x s) (by rw [World.setRow_alloc_new]; exact h)
end Go.Proofs.YtmafopckplpajaaGreatDoor

/-
  The laws' own words on nodes: measured, held against each other. (By nodel.py.)
-/
namespace Go.Proofs.YtmafopckplpajaaGreatDoor
open Go.RowKit
set_option linter.unusedVariables false

/-- How much a node's lists take. -/
def Nd.tot (x : Nd) : Nat := x.nv + x.np + x.nd + (x.mv + x.mp)
structure Nd.Fit (x : Nd) : Prop where
  nv : x.nv ≤ maxLen
  np : x.np ≤ maxLen
  nd : x.nd ≤ maxLen
  mv : x.mv ≤ maxLen
  mp : x.mp ≤ maxLen
  idw : (Lit.int .i64 x.id).wf = true
  parw : (Lit.int .i64 x.par).wf = true
theorem Nd.small {x : Nd} (h : x.tot ≤ 1048576) : x.Small := by unfold Nd.tot at h; exact ⟨by omega, by omega, by omega, by omega, by omega⟩

set_option maxHeartbeats 2000000 in
theorem szPath_z (ao bo : Option Addr) (n c m d : Nat) (z : Int) (hz : 0 ≤ z ∧ z ≤ 1048576) (hn : n ≤ maxLen) (hm : m ≤ maxLen) (w : World) :
    Calls Tryz.prog 75 #[.agg #[.slice ao n c, .slice bo m d], .int .i64 z] w fun r w' => r = .returned (.int .i64 (if z < ((n + m : Nat) : Int) then -1 else z - ((n + m : Nat) : Int))) ∧ Below w.heap.size w w' := by
  have E0 := hide (szIntS_any ao n c z hz hn)
  by_cases h1 : z < (n : Int)
  · rw [if_pos h1] at E0
    rw [if_pos (show z < ((n + m : Nat) : Int) by omega)]
    go_enter Tryz.func75, Tryz.ntmps75
    go_wp2_with fail
    go_fit (unhide E0 _)
    rintro r w1 ⟨rfl, rfl⟩
    go_wp2_with fail
    go_ret
    exact ⟨rfl, al1_below _ _⟩
  · rw [if_neg h1] at E0
    have E1 := hide (szPointS_any bo m d (z - n) (by omega) hm)
    have h0 : ¬ z - (n : Int) < 0 := by omega
    by_cases h2 : z - (n : Int) < (m : Int)
    · rw [if_pos h2] at E1
      rw [if_pos (show z < ((n + m : Nat) : Int) by omega)]
      go_enter Tryz.func75, Tryz.ntmps75
      go_wp2_with fail
      go_fit (unhide E0 _)
      rintro r w1 ⟨rfl, rfl⟩
      go_wp2_with fail
      go_fit (unhide E1 _)
      rintro r w1 ⟨rfl, rfl⟩
      go_wp2_with fail
      go_ret
      exact ⟨rfl, al1_below _ _⟩
    · rw [if_neg h2] at E1
      rw [if_neg (show ¬ z < ((n + m : Nat) : Int) by omega), show z - ((n + m : Nat) : Int) = z - (n : Int) - (m : Int) by omega]
      have h3 : ¬ z - (n : Int) - (m : Int) < 0 := by omega
      go_enter Tryz.func75, Tryz.ntmps75
      go_wp2_with fail
      go_fit (unhide E0 _)
      rintro r w1 ⟨rfl, rfl⟩
      go_wp2_with fail
      go_fit (unhide E1 _)
      rintro r w1 ⟨rfl, rfl⟩
      go_wp2_with fail
      go_ret
      exact ⟨rfl, al1_below _ _⟩


set_option maxHeartbeats 4000000 in
set_option maxRecDepth 100000 in
theorem szNode_any (x : Nd) (s : Na) (hx : x.Fit) (z : Int) (hz : 0 ≤ z ∧ z ≤ 1048576) (w : World) :
    Calls Tryz.prog 28 #[.agg (ndC x s), .int .i64 z] w fun r w' => r = .returned (.int .i64 (if z < (x.tot : Int) then -1 else z - (x.tot : Int))) ∧ Below w.heap.size w w' := by
  have E0 := hide (szPath_z s.av s.ap x.nv s.cv x.np s.cp z hz hx.nv hx.np)
  have ht : Hid (((x.tot : Nat) : Int) = ((x.nv + x.np : Nat) : Int) + (x.nd : Int) + ((x.mv + x.mp : Nat) : Int)) := by unfold Hid Nd.tot; omega
  obtain ⟨V, hV⟩ : ∃ V, Hid ((if z < (x.tot : Int) then -1 else z - (x.tot : Int)) = V) := ⟨_, rfl⟩
  rw [unhide hV]
  go_enter Tryz.func28, Tryz.ntmps28
  go_upto_region 1 with fail
  have R := hide (new_row w (.cells (ndC x s) 68))
  have HB := hide (al1_below w (.cells (ndC x s) 68))
  generalize w.alloc (.cells (ndC x s) 68) = W at R HB ⊢
  obtain ⟨b1, hb1⟩ : ∃ b, Hid (b = w.heap.size) := ⟨_, rfl⟩
  rw [← unhide hb1] at R ⊢
  obtain ⟨c0, c1, c2, c3, c4, c5, c6, c7, c8, c9, c10, c11, c12, c13, c14, c15, c16, c17, c18, c19, c20, c21, c22, c23, c24, c25, c26, c27, c28, c29, c30⟩ := row31 (unhide R)
  go_wp2_with fail
  go_fit (unhide E0 _)
  rintro r w1 ⟨rfl, hb⟩
  replace R := hide (row_next hb (unhide R))
  replace HB := hide (below_two (unhide HB) hb)
  clear hb c0 c1 c2 c3 c4 c5 c6 c7 c8 c9 c10 c11 c12 c13 c14 c15 c16 c17 c18 c19 c20 c21 c22 c23 c24 c25 c26 c27 c28 c29 c30
  by_cases h1 : z < ((x.nv + x.np : Nat) : Int)
  · rw [if_pos h1]
    rw [if_pos (show z < (x.tot : Int) by rw [unhide ht]; omega)] at hV
    go_wp2_with fail
    go_ret
    exact ⟨by rw [← unhide hV]; rfl, unhide HB⟩
  rw [if_neg h1]
  obtain ⟨z1, hz1⟩ : ∃ z1, Hid (z - ((x.nv + x.np : Nat) : Int) = z1) := ⟨_, rfl⟩
  rw [unhide hz1]
  have b1' : 0 ≤ z1 ∧ z1 ≤ 1048576 := by have := unhide hz1; omega
  have n1 : ¬ z1 < 0 := by omega
  have E1 := hide (szIntS_any s.ad x.nd s.cd z1 b1' hx.nd)
  obtain ⟨c0, c1, c2, c3, c4, c5, c6, c7, c8, c9, c10, c11, c12, c13, c14, c15, c16, c17, c18, c19, c20, c21, c22, c23, c24, c25, c26, c27, c28, c29, c30⟩ := row31 (unhide R)
  go_wp2_with fail
  go_fit (unhide E1 _)
  rintro r w2 ⟨rfl, hu⟩
  rw [hu]
  clear hu c0 c1 c2 c3 c4 c5 c6 c7 c8 c9 c10 c11 c12 c13 c14 c15 c16 c17 c18 c19 c20 c21 c22 c23 c24 c25 c26 c27 c28 c29 c30
  by_cases h2 : z1 < (x.nd : Int)
  · rw [if_pos h2]
    rw [if_pos (show z < (x.tot : Int) by rw [unhide ht]; have := unhide hz1; omega)] at hV
    go_wp2_with fail
    go_ret
    exact ⟨by rw [← unhide hV]; rfl, unhide HB⟩
  rw [if_neg h2]
  obtain ⟨z2, hz2⟩ : ∃ z2, Hid (z1 - (x.nd : Int) = z2) := ⟨_, rfl⟩
  rw [unhide hz2]
  have b2' : 0 ≤ z2 ∧ z2 ≤ 1048576 := by have := unhide hz2; omega
  have n2 : ¬ z2 < 0 := by omega
  have E2 := hide (szPath_z s.bv s.bp x.mv s.dv x.mp s.dp z2 b2' hx.mv hx.mp)
  obtain ⟨c0, c1, c2, c3, c4, c5, c6, c7, c8, c9, c10, c11, c12, c13, c14, c15, c16, c17, c18, c19, c20, c21, c22, c23, c24, c25, c26, c27, c28, c29, c30⟩ := row31 (unhide R)
  go_wp2_with fail
  go_fit (unhide E2 _)
  rintro r w3 ⟨rfl, hb⟩
  replace HB := hide (below_two (unhide HB) hb)
  clear hb R c0 c1 c2 c3 c4 c5 c6 c7 c8 c9 c10 c11 c12 c13 c14 c15 c16 c17 c18 c19 c20 c21 c22 c23 c24 c25 c26 c27 c28 c29 c30
  by_cases h3 : z2 < ((x.mv + x.mp : Nat) : Int)
  · rw [if_pos h3]
    rw [if_pos (show z < (x.tot : Int) by rw [unhide ht]; have := unhide hz1; have := unhide hz2; omega)] at hV
    go_wp2_with fail
    go_ret
    exact ⟨by rw [← unhide hV]; rfl, unhide HB⟩
  rw [if_neg h3]
  have n3 : ¬ z2 - ((x.mv + x.mp : Nat) : Int) < 0 := by omega
  rw [if_neg (show ¬ z < (x.tot : Int) by rw [unhide ht]; have := unhide hz1; have := unhide hz2; omega)] at hV
  have hq : z2 - ((x.mv + x.mp : Nat) : Int) = V := by rw [← unhide hV, unhide ht]; have := unhide hz1; have := unhide hz2; omega
  rw [hq] at n3 ⊢
  go_wp2_with fail
  go_ret
  exact ⟨rfl, unhide HB⟩

set_option maxHeartbeats 4000000 in
set_option maxRecDepth 100000 in
theorem eqPaint_same (k r g b a r2 g2 b2 a2 fx fy tx ty : Int) (w : World) :
    Calls Tryz.prog 86 #[.agg #[.int .i64 k, .int .i64 r, .int .i64 g, .int .i64 b, .int .i64 a, .int .i64 r2, .int .i64 g2, .int .i64 b2, .int .i64 a2, .int .i64 fx, .int .i64 fy, .int .i64 tx, .int .i64 ty], .agg #[.int .i64 k, .int .i64 r, .int .i64 g, .int .i64 b, .int .i64 a, .int .i64 r2, .int .i64 g2, .int .i64 b2, .int .i64 a2, .int .i64 fx, .int .i64 fy, .int .i64 tx, .int .i64 ty]] w fun r w' => r = .returned (.bool true) ∧ Below w.heap.size w w' := by
  have E1 := hide (eqColor_same r g b a)
  have E2 := hide (eqColor_same r2 g2 b2 a2)
  have E3 := hide (eqPoint_same fx fy)
  have E4 := hide (eqPoint_same tx ty)
  go_enter Tryz.func86, Tryz.ntmps86
  go_upto_region 1 with fail
  have R1 := hide (al2_0 w (.cells #[.int .i64 k, .int .i64 r, .int .i64 g, .int .i64 b, .int .i64 a, .int .i64 r2, .int .i64 g2, .int .i64 b2, .int .i64 a2, .int .i64 fx, .int .i64 fy, .int .i64 tx, .int .i64 ty] 39) (.cells #[.int .i64 k, .int .i64 r, .int .i64 g, .int .i64 b, .int .i64 a, .int .i64 r2, .int .i64 g2, .int .i64 b2, .int .i64 a2, .int .i64 fx, .int .i64 fy, .int .i64 tx, .int .i64 ty] 39))
  have R2 := hide (al2_1 w (.cells #[.int .i64 k, .int .i64 r, .int .i64 g, .int .i64 b, .int .i64 a, .int .i64 r2, .int .i64 g2, .int .i64 b2, .int .i64 a2, .int .i64 fx, .int .i64 fy, .int .i64 tx, .int .i64 ty] 39) (.cells #[.int .i64 k, .int .i64 r, .int .i64 g, .int .i64 b, .int .i64 a, .int .i64 r2, .int .i64 g2, .int .i64 b2, .int .i64 a2, .int .i64 fx, .int .i64 fy, .int .i64 tx, .int .i64 ty] 39))
  have HB := hide (al2_below w (.cells #[.int .i64 k, .int .i64 r, .int .i64 g, .int .i64 b, .int .i64 a, .int .i64 r2, .int .i64 g2, .int .i64 b2, .int .i64 a2, .int .i64 fx, .int .i64 fy, .int .i64 tx, .int .i64 ty] 39) (.cells #[.int .i64 k, .int .i64 r, .int .i64 g, .int .i64 b, .int .i64 a, .int .i64 r2, .int .i64 g2, .int .i64 b2, .int .i64 a2, .int .i64 fx, .int .i64 fy, .int .i64 tx, .int .i64 ty] 39))
  obtain ⟨b2', hb2⟩ : ∃ b, Hid (b = w.heap.size + 1) := ⟨_, rfl⟩
  obtain ⟨b1, hb1⟩ : ∃ b, Hid (b = w.heap.size) := ⟨_, rfl⟩
  rw [← unhide hb2] at R2
  rw [← unhide hb1] at R1
  rw [← unhide hb2, ← unhide hb1]
  generalize (w.alloc (.cells #[.int .i64 k, .int .i64 r, .int .i64 g, .int .i64 b, .int .i64 a, .int .i64 r2, .int .i64 g2, .int .i64 b2, .int .i64 a2, .int .i64 fx, .int .i64 fy, .int .i64 tx, .int .i64 ty] 39)).alloc (.cells #[.int .i64 k, .int .i64 r, .int .i64 g, .int .i64 b, .int .i64 a, .int .i64 r2, .int .i64 g2, .int .i64 b2, .int .i64 a2, .int .i64 fx, .int .i64 fy, .int .i64 tx, .int .i64 ty] 39) = W at R1 R2 HB ⊢
  clear hb2 hb1
  obtain ⟨c0, c1, c2, c3, c4, c5, c6, c7, c8, c9, c10, c11, c12⟩ := row13 (unhide R1)
  obtain ⟨d0, d1, d2, d3, d4, d5, d6, d7, d8, d9, d10, d11, d12⟩ := row13 (unhide R2)
  go_wp2_with fail
  go_fit (unhide E1 _)
  rintro e1 w1 ⟨rfl, hb⟩
  replace R1 := hide (row_next hb (unhide R1))
  replace R2 := hide (row_next hb (unhide R2))
  replace HB := hide (below_two (unhide HB) hb)
  clear hb c0 c1 c2 c3 c4 c5 c6 c7 c8 c9 c10 c11 c12 d0 d1 d2 d3 d4 d5 d6 d7 d8 d9 d10 d11 d12
  obtain ⟨c0, c1, c2, c3, c4, c5, c6, c7, c8, c9, c10, c11, c12⟩ := row13 (unhide R1)
  obtain ⟨d0, d1, d2, d3, d4, d5, d6, d7, d8, d9, d10, d11, d12⟩ := row13 (unhide R2)
  go_wp2_with fail
  go_fit (unhide E2 _)
  rintro e2 w2 ⟨rfl, hb⟩
  replace R1 := hide (row_next hb (unhide R1))
  replace R2 := hide (row_next hb (unhide R2))
  replace HB := hide (below_two (unhide HB) hb)
  clear hb c0 c1 c2 c3 c4 c5 c6 c7 c8 c9 c10 c11 c12 d0 d1 d2 d3 d4 d5 d6 d7 d8 d9 d10 d11 d12
  obtain ⟨c0, c1, c2, c3, c4, c5, c6, c7, c8, c9, c10, c11, c12⟩ := row13 (unhide R1)
  obtain ⟨d0, d1, d2, d3, d4, d5, d6, d7, d8, d9, d10, d11, d12⟩ := row13 (unhide R2)
  go_wp2_with fail
  go_fit (unhide E3 _)
  rintro e3 w3 ⟨rfl, hb⟩
  replace R1 := hide (row_next hb (unhide R1))
  replace R2 := hide (row_next hb (unhide R2))
  replace HB := hide (below_two (unhide HB) hb)
  clear hb c0 c1 c2 c3 c4 c5 c6 c7 c8 c9 c10 c11 c12 d0 d1 d2 d3 d4 d5 d6 d7 d8 d9 d10 d11 d12
  obtain ⟨c0, c1, c2, c3, c4, c5, c6, c7, c8, c9, c10, c11, c12⟩ := row13 (unhide R1)
  obtain ⟨d0, d1, d2, d3, d4, d5, d6, d7, d8, d9, d10, d11, d12⟩ := row13 (unhide R2)
  go_wp2_with fail
  go_fit (unhide E4 _)
  rintro e4 w4 ⟨rfl, hb⟩
  replace R1 := hide (row_next hb (unhide R1))
  replace R2 := hide (row_next hb (unhide R2))
  replace HB := hide (below_two (unhide HB) hb)
  clear hb c0 c1 c2 c3 c4 c5 c6 c7 c8 c9 c10 c11 c12 d0 d1 d2 d3 d4 d5 d6 d7 d8 d9 d10 d11 d12
  go_wp2_with fail
  go_ret
  exact ⟨rfl, unhide HB⟩

set_option maxHeartbeats 8000000 in
set_option maxRecDepth 100000 in
theorem eqNode_same (x : Nd) (s s' : Na) (hs : x.Small) (w : World) (h : NdIn w x s) (h' : NdIn w x s') :
    Calls Tryz.prog 32 #[.agg (ndC x s), .agg (ndC x s')] w fun r w' => r = .returned (.bool true) ∧ Below w.heap.size w w' := by
  have E1 := hide (eqMat_same x.m0 x.m1 x.m2 x.m3 x.m4 x.m5)
  have E2 := hide (fun u => eqPath_same x.vf x.pf s.av s'.av s.ap s'.ap x.nv s.cv s'.cv x.np s.cp s'.cp hs.nv hs.np u)
  have E3 := hide (fun u => eqIntS_arg x.df s.ad s'.ad x.nd s.cd s'.cd hs.nd u)
  have E4 := hide (eqPaint_same x.pt.k x.pt.f.x0 x.pt.f.y0 x.pt.f.x1 x.pt.f.y1 x.pt.l.x0 x.pt.l.y0 x.pt.l.x1 x.pt.l.y1 x.pt.fx x.pt.fy x.pt.tx x.pt.ty)
  have E5 := hide (fun u => eqPath_same x.wf x.qf s.bv s'.bv s.bp s'.bp x.mv s.dv s'.dv x.mp s.dp s'.dp hs.mv hs.mp u)
  replace h := hide h
  replace h' := hide h'
  clear hs
  go_enter Tryz.func32, Tryz.ntmps32
  go_upto_region 1 with fail
  have R1 := hide (al2_0 w (.cells (ndC x s) 41) (.cells (ndC x s') 41))
  have R2 := hide (al2_1 w (.cells (ndC x s) 41) (.cells (ndC x s') 41))
  have HB := hide (al2_below w (.cells (ndC x s) 41) (.cells (ndC x s') 41))
  obtain ⟨b2, hb2⟩ : ∃ b, Hid (b = w.heap.size + 1) := ⟨_, rfl⟩
  obtain ⟨b1, hb1⟩ : ∃ b, Hid (b = w.heap.size) := ⟨_, rfl⟩
  rw [← unhide hb2] at R2
  rw [← unhide hb1] at R1
  rw [← unhide hb2, ← unhide hb1]
  generalize (w.alloc (.cells (ndC x s) 41)).alloc (.cells (ndC x s') 41) = W at R1 R2 HB ⊢
  clear hb2 hb1
  replace h := hide ((unhide h).next (unhide HB))
  replace h' := hide ((unhide h').next (unhide HB))
  as_aux_lemma =>
  have F := hide (unhide E1)
  obtain ⟨c0, c1, c2, c3, c4, c5, c6, c7, c8, c9, c10, c11, c12, c13, c14, c15, c16, c17, c18, c19, c20, c21, c22, c23, c24, c25, c26, c27, c28, c29, c30⟩ := row31 (unhide R1)
  obtain ⟨d0, d1, d2, d3, d4, d5, d6, d7, d8, d9, d10, d11, d12, d13, d14, d15, d16, d17, d18, d19, d20, d21, d22, d23, d24, d25, d26, d27, d28, d29, d30⟩ := row31 (unhide R2)
  go_wp2_with fail
  go_fit (unhide F _)
  rintro e1 w1 ⟨rfl, hb⟩
  replace R1 := hide (row_next hb (unhide R1))
  replace R2 := hide (row_next hb (unhide R2))
  replace h := hide ((unhide h).next hb)
  replace h' := hide ((unhide h').next hb)
  replace HB := hide (below_two (unhide HB) hb)
  clear hb F c0 c1 c2 c3 c4 c5 c6 c7 c8 c9 c10 c11 c12 c13 c14 c15 c16 c17 c18 c19 c20 c21 c22 c23 c24 c25 c26 c27 c28 c29 c30 d0 d1 d2 d3 d4 d5 d6 d7 d8 d9 d10 d11 d12 d13 d14 d15 d16 d17 d18 d19 d20 d21 d22 d23 d24 d25 d26 d27 d28 d29 d30
  as_aux_lemma =>
  have F := hide (unhide E2 _ (unhide h).v (unhide h').v (unhide h).p (unhide h').p)
  obtain ⟨c0, c1, c2, c3, c4, c5, c6, c7, c8, c9, c10, c11, c12, c13, c14, c15, c16, c17, c18, c19, c20, c21, c22, c23, c24, c25, c26, c27, c28, c29, c30⟩ := row31 (unhide R1)
  obtain ⟨d0, d1, d2, d3, d4, d5, d6, d7, d8, d9, d10, d11, d12, d13, d14, d15, d16, d17, d18, d19, d20, d21, d22, d23, d24, d25, d26, d27, d28, d29, d30⟩ := row31 (unhide R2)
  go_wp2_with fail
  go_fit (unhide F)
  rintro e2 w2 ⟨rfl, hb⟩
  replace R1 := hide (row_next hb (unhide R1))
  replace R2 := hide (row_next hb (unhide R2))
  replace h := hide ((unhide h).next hb)
  replace h' := hide ((unhide h').next hb)
  replace HB := hide (below_two (unhide HB) hb)
  clear hb F c0 c1 c2 c3 c4 c5 c6 c7 c8 c9 c10 c11 c12 c13 c14 c15 c16 c17 c18 c19 c20 c21 c22 c23 c24 c25 c26 c27 c28 c29 c30 d0 d1 d2 d3 d4 d5 d6 d7 d8 d9 d10 d11 d12 d13 d14 d15 d16 d17 d18 d19 d20 d21 d22 d23 d24 d25 d26 d27 d28 d29 d30
  as_aux_lemma =>
  have F := hide (unhide E3 _ (unhide h).d (unhide h').d)
  obtain ⟨c0, c1, c2, c3, c4, c5, c6, c7, c8, c9, c10, c11, c12, c13, c14, c15, c16, c17, c18, c19, c20, c21, c22, c23, c24, c25, c26, c27, c28, c29, c30⟩ := row31 (unhide R1)
  obtain ⟨d0, d1, d2, d3, d4, d5, d6, d7, d8, d9, d10, d11, d12, d13, d14, d15, d16, d17, d18, d19, d20, d21, d22, d23, d24, d25, d26, d27, d28, d29, d30⟩ := row31 (unhide R2)
  go_wp2_with fail
  go_fit (unhide F)
  rintro e3 w3 ⟨rfl, hb⟩
  replace R1 := hide (row_next hb (unhide R1))
  replace R2 := hide (row_next hb (unhide R2))
  replace h := hide ((unhide h).next hb)
  replace h' := hide ((unhide h').next hb)
  replace HB := hide (below_two (unhide HB) hb)
  clear hb F c0 c1 c2 c3 c4 c5 c6 c7 c8 c9 c10 c11 c12 c13 c14 c15 c16 c17 c18 c19 c20 c21 c22 c23 c24 c25 c26 c27 c28 c29 c30 d0 d1 d2 d3 d4 d5 d6 d7 d8 d9 d10 d11 d12 d13 d14 d15 d16 d17 d18 d19 d20 d21 d22 d23 d24 d25 d26 d27 d28 d29 d30
  as_aux_lemma =>
  have F := hide (unhide E4)
  obtain ⟨c0, c1, c2, c3, c4, c5, c6, c7, c8, c9, c10, c11, c12, c13, c14, c15, c16, c17, c18, c19, c20, c21, c22, c23, c24, c25, c26, c27, c28, c29, c30⟩ := row31 (unhide R1)
  obtain ⟨d0, d1, d2, d3, d4, d5, d6, d7, d8, d9, d10, d11, d12, d13, d14, d15, d16, d17, d18, d19, d20, d21, d22, d23, d24, d25, d26, d27, d28, d29, d30⟩ := row31 (unhide R2)
  go_wp2_with fail
  go_fit (unhide F _)
  rintro e4 w4 ⟨rfl, hb⟩
  replace R1 := hide (row_next hb (unhide R1))
  replace R2 := hide (row_next hb (unhide R2))
  replace h := hide ((unhide h).next hb)
  replace h' := hide ((unhide h').next hb)
  replace HB := hide (below_two (unhide HB) hb)
  clear hb F c0 c1 c2 c3 c4 c5 c6 c7 c8 c9 c10 c11 c12 c13 c14 c15 c16 c17 c18 c19 c20 c21 c22 c23 c24 c25 c26 c27 c28 c29 c30 d0 d1 d2 d3 d4 d5 d6 d7 d8 d9 d10 d11 d12 d13 d14 d15 d16 d17 d18 d19 d20 d21 d22 d23 d24 d25 d26 d27 d28 d29 d30
  as_aux_lemma =>
  have F := hide (unhide E5 _ (unhide h).cv (unhide h').cv (unhide h).cp (unhide h').cp)
  obtain ⟨c0, c1, c2, c3, c4, c5, c6, c7, c8, c9, c10, c11, c12, c13, c14, c15, c16, c17, c18, c19, c20, c21, c22, c23, c24, c25, c26, c27, c28, c29, c30⟩ := row31 (unhide R1)
  obtain ⟨d0, d1, d2, d3, d4, d5, d6, d7, d8, d9, d10, d11, d12, d13, d14, d15, d16, d17, d18, d19, d20, d21, d22, d23, d24, d25, d26, d27, d28, d29, d30⟩ := row31 (unhide R2)
  go_wp2_with fail
  go_fit (unhide F)
  rintro e5 w5 ⟨rfl, hb⟩
  replace R1 := hide (row_next hb (unhide R1))
  replace R2 := hide (row_next hb (unhide R2))
  replace h := hide ((unhide h).next hb)
  replace h' := hide ((unhide h').next hb)
  replace HB := hide (below_two (unhide HB) hb)
  clear hb F c0 c1 c2 c3 c4 c5 c6 c7 c8 c9 c10 c11 c12 c13 c14 c15 c16 c17 c18 c19 c20 c21 c22 c23 c24 c25 c26 c27 c28 c29 c30 d0 d1 d2 d3 d4 d5 d6 d7 d8 d9 d10 d11 d12 d13 d14 d15 d16 d17 d18 d19 d20 d21 d22 d23 d24 d25 d26 d27 d28 d29 d30
  go_wp2_with fail
  go_ret
  exact ⟨rfl, unhide HB⟩
end Go.Proofs.YtmafopckplpajaaGreatDoor

/-
  A node's lists: capacities.
-/
namespace Go.Proofs.YtmafopckplpajaaGreatDoor
open Go.RowKit
set_option linter.unusedVariables false

structure Caps (x : Nd) (s : Na) : Prop where
  v : x.nv ≤ s.cv ∧ (s.av = none → s.cv = 0)
  p : x.np ≤ s.cp ∧ (s.ap = none → s.cp = 0)
  d : x.nd ≤ s.cd ∧ (s.ad = none → s.cd = 0)
  cv : x.mv ≤ s.dv ∧ (s.bv = none → s.dv = 0)
  cp : x.mp ≤ s.dp ∧ (s.bp = none → s.dp = 0)
theorem own_caps {w : World} {base e s n c : Nat} {a : Option Addr} {xs : List Value} (h : w.ownsRow base e s (.slice a n c) n xs) : n ≤ c ∧ (a = none → c = 0) := by
  obtain ⟨_, h | ⟨g, cap, cur, hv, _, _, hc, _⟩⟩ := h
  · cases h.1; exact ⟨Nat.le_refl _, fun _ => rfl⟩
  · cases hv; exact ⟨hc, fun e => by cases e⟩

def ndZ : Array Value := #[.int .i64 0, .int .i64 0, .bool false, .int .i64 0, .int .i64 0, .int .i64 0, .int .i64 0, .int .i64 0, .int .i64 0, .slice none 0 0, .slice none 0 0, .bool false, .int .i64 0, .slice none 0 0, .int .i64 0, .int .i64 0, .int .i64 0, .int .i64 0, .int .i64 0, .int .i64 0, .int .i64 0, .int .i64 0, .int .i64 0, .int .i64 0, .int .i64 0, .int .i64 0, .int .i64 0, .int .i64 0, .int .i64 0, .slice none 0 0, .slice none 0 0]
theorem infoNode : (Tryz.prog.info? 41).map (fun i => (i.zero, i.size, i.bytes)) = some (some (.agg ndZ), 31, 328) := by kernel_rfl
end Go.Proofs.YtmafopckplpajaaGreatDoor

/-
  The laws' toNode: a node whose lists are its own. (By nodel.py.)
-/
namespace Go.Proofs.YtmafopckplpajaaGreatDoor
open Go.RowKit
set_option linter.unusedVariables false

theorem setC {u : World} {b j : Nat} {C : Array Value} {v : Value} {t : TypeId} (h : u.heap[b]? = some (.cells C t (0, 0))) : (u.setCell ⟨b, j, none⟩ v).heap[b]? = some (.cells (C.setIfInBounds j v) t (0, 0)) := by
  simp [World.setCell, Array.getElem?_modify, h]
theorem cellC {u : World} {b : Nat} {C : Array Value} {t : TypeId} (h : u.heap[b]? = some (.cells C t (0, 0))) (j : Nat) (hj : j < C.size) : u.cell? ⟨b, j, none⟩ = some C[j] := by
  simp [World.cell?, h, hj]
theorem thereC {u : World} {b : Nat} {C : Array Value} {t : TypeId} (h : u.heap[b]? = some (.cells C t (0, 0))) (o n : Nat) (hn : o + n ≤ C.size) : u.there b o n := fun j hj =>
  ⟨by rw [cellC h (o + j) (by omega)]; rfl, frozen_of_row u b (o + j) _ _ h⟩
/-- Several cells of an array set, from o on. -/
def setMany (C : Array Value) : Nat → List Value → Array Value
  | _, [] => C
  | o, v :: r => setMany (C.setIfInBounds o v) (o + 1) r
theorem setMany_size : ∀ (l : List Value) (C : Array Value) (o : Nat), (setMany C o l).size = C.size
  | [], _, _ => rfl
  | v :: r, C, o => by unfold setMany; rw [setMany_size r]; simp
theorem setsC {b : Nat} {t : TypeId} : ∀ (l : List Value) {u : World} {o : Nat} {C : Array Value} (_ : u.heap[b]? = some (.cells C t (0, 0))), (u.setCells b o l).heap[b]? = some (.cells (setMany C o l) t (0, 0))
  | [], _, _, _, h => h
  | v :: r, _, _, _, h => setsC r (setC h)
theorem sets_other {b q : Nat} {ob : Obj} (hne : q ≠ b) : ∀ (l : List Value) {u : World} {o : Nat} (_ : u.heap[q]? = some ob), (u.setCells b o l).heap[q]? = some ob
  | [], _, _, h => h
  | v :: r, _, _, h => sets_other hne r (setc_other hne h)
theorem sets_size {b : Nat} : ∀ (l : List Value) (u : World) (o : Nat), (u.setCells b o l).heap.size = u.heap.size
  | [], _, _ => rfl
  | v :: r, u, o => by unfold World.setCells; rw [sets_size r]; simp [World.setCell]
theorem below_sets {B b : Nat} {a : World} (hb : B ≤ b) : ∀ (l : List Value) {u : World} {o : Nat} (_ : Below B a u), Below B a (u.setCells b o l)
  | [], _, _, h => h
  | v :: r, _, o, h => below_sets hb r (h.setCell (p := ⟨b, o, none⟩) hb v)
theorem own_sets {base e s n b : Nat} {v : Value} {xs : List Value} (hb : b < base) : ∀ (l : List Value) {u : World} {o : Nat} (_ : u.ownsRow base e s v n xs), (u.setCells b o l).ownsRow base e s v n xs
  | [], _, _, h => h
  | z :: r, _, _, h => own_sets hb r (own_setc h hb)
theorem setRow_other {u : World} {g r : Nat} {cs : Array Value} {o : Obj} (hne : r ≠ g) (h : u.heap[r]? = some o) : (u.setRow g cs).heap[r]? = some o := by
  rw [← h]; simp only [World.setRow, Array.getElem?_modify]; rw [if_neg (fun e => hne e.symm)]
theorem below_setRow {B : Nat} {a u : World} (h : Below B a u) {g : Nat} (hg : B ≤ g) (cs : Array Value) : Below B a (u.setRow g cs) := by
  refine h.trans ⟨rfl, rfl, rfl, ?_, fun r hr => ?_⟩
  · simp [World.setRow]
  · simp only [World.setRow, Array.getElem?_modify]; rw [if_neg (by omega)]
theorem setRow_grown (w : World) (g : Nat) (cs : Array Value) : w.grownBy (w.setRow g cs) (some g) :=
  ⟨rfl, rfl, rfl, by simp [World.setRow], fun k _ hk => by simp only [World.setRow, Array.getElem?_modify]; rw [if_neg (fun e => hk (by rw [e]))]⟩
theorem own_setRow {w : World} {base e s n g : Nat} {v : Value} {xs : List Value} {cs : Array Value} (h : w.ownsRow base e s v n xs) (hg : ∀ k, v.ownBlock = some k → k ≠ g) : (w.setRow g cs).ownsRow base e s v n xs :=
  h.kept (setRow_grown w g cs) (by
    cases hk : v.ownBlock with
    | none => exact .inl rfl
    | some k => exact .inr fun e => by cases e; exact hg _ hk rfl)
/-- A node's lists are one's own, in these blocks. -/
structure NdO (w : World) (base : Nat) (K : Nat → Nat) (x : Nd) (s : Na) : Prop where
  v : ∃ xs, w.ownsRow base 3 1 (.slice s.av x.nv s.cv) x.nv xs ∧ IxAt xs x.vf x.nv
  p : ∃ xs, w.ownsRow base 37 2 (.slice s.ap x.np s.cp) x.np xs ∧ PxAt xs x.pf x.np
  d : ∃ xs, w.ownsRow base 3 1 (.slice s.ad x.nd s.cd) x.nd xs ∧ IxAt xs x.df x.nd
  cv : ∃ xs, w.ownsRow base 3 1 (.slice s.bv x.mv s.dv) x.mv xs ∧ IxAt xs x.wf x.mv
  cp : ∃ xs, w.ownsRow base 37 2 (.slice s.bp x.mp s.dp) x.mp xs ∧ PxAt xs x.qf x.mp
  kv : ∀ k, (Value.slice s.av x.nv s.cv).ownBlock = some k → k = K 0
  kp : ∀ k, (Value.slice s.ap x.np s.cp).ownBlock = some k → k = K 1
  kd : ∀ k, (Value.slice s.ad x.nd s.cd).ownBlock = some k → k = K 2
  kcv : ∀ k, (Value.slice s.bv x.mv s.dv).ownBlock = some k → k = K 3
  kcp : ∀ k, (Value.slice s.bp x.mp s.dp).ownBlock = some k → k = K 4
theorem NdO.inn {w : World} {base : Nat} {K : Nat → Nat} {x : Nd} {s : Na} (h : NdO w base K x s) : NdIn w x s :=
  let ⟨_, a1, a2⟩ := h.v; let ⟨_, b1, b2⟩ := h.p; let ⟨_, c1, c2⟩ := h.d; let ⟨_, d1, d2⟩ := h.cv; let ⟨_, e1, e2⟩ := h.cp
  ⟨own_ix a1 a2, own_pxa b1 b2, own_ix c1 c2, own_ix d1 d2, own_pxa e1 e2⟩
theorem NdO.next {w u : World} {base : Nat} {K : Nat → Nat} {x : Nd} {s : Na} (h : NdO w base K x s) (hb : Below w.heap.size w u) : NdO u base K x s :=
  let ⟨xs, a1, a2⟩ := h.v; let ⟨ys, b1, b2⟩ := h.p; let ⟨zs, c1, c2⟩ := h.d; let ⟨us, d1, d2⟩ := h.cv; let ⟨vs, e1, e2⟩ := h.cp
  ⟨⟨xs, own_below a1 hb, a2⟩, ⟨ys, own_below b1 hb, b2⟩, ⟨zs, own_below c1 hb, c2⟩, ⟨us, own_below d1 hb, d2⟩, ⟨vs, own_below e1 hb, e2⟩, h.kv, h.kp, h.kd, h.kcv, h.kcp⟩
theorem NdO.setRow {w : World} {base g : Nat} {K : Nat → Nat} {x : Nd} {s : Na} {cs : Array Value} (h : NdO w base K x s) (hk : ∀ i, i < 5 → K i ≠ g) : NdO (w.setRow g cs) base K x s :=
  let ⟨xs, a1, a2⟩ := h.v; let ⟨ys, b1, b2⟩ := h.p; let ⟨zs, c1, c2⟩ := h.d; let ⟨us, d1, d2⟩ := h.cv; let ⟨vs, e1, e2⟩ := h.cp
  ⟨⟨xs, own_setRow a1 (fun k e => by rw [h.kv k e]; exact hk 0 (by omega)), a2⟩, ⟨ys, own_setRow b1 (fun k e => by rw [h.kp k e]; exact hk 1 (by omega)), b2⟩, ⟨zs, own_setRow c1 (fun k e => by rw [h.kd k e]; exact hk 2 (by omega)), c2⟩, ⟨us, own_setRow d1 (fun k e => by rw [h.kcv k e]; exact hk 3 (by omega)), d2⟩, ⟨vs, own_setRow e1 (fun k e => by rw [h.kcp k e]; exact hk 4 (by omega)), e2⟩, h.kv, h.kp, h.kd, h.kcv, h.kcp⟩
/-- The five blocks differ, and lie in base .. top. -/
structure Five (K : Nat → Nat) (base top : Nat) : Prop where
  low : ∀ i, i < 5 → base ≤ K i ∧ K i < top
  inj : ∀ i j, i < 5 → j < 5 → K i = K j → i = j
def five (k0 k1 k2 k3 k4 : Nat) : Nat → Nat
  | 0 => k0 | 1 => k1 | 2 => k2 | 3 => k3 | _ => k4
theorem five_of {k0 k1 k2 k3 k4 b0 b1 b2 b3 : Nat} (h0 : b0 ≤ k0 ∧ k0 < b1) (h1 : b0 ≤ k1 ∧ k1 < b1) (h01 : k0 ≠ k1) (h2 : b1 ≤ k2 ∧ k2 < b2) (h3 : b2 ≤ k3 ∧ k3 < b3) (h4 : b2 ≤ k4 ∧ k4 < b3) (h34 : k3 ≠ k4) : Five (five k0 k1 k2 k3 k4) b0 b3 := by
  constructor
  · intro i hi
    rcases i with _ | _ | _ | _ | _ | i <;> simp only [five] <;> omega
  · intro i j hi hj e
    rcases i with _ | _ | _ | _ | _ | i <;> rcases j with _ | _ | _ | _ | _ | j <;> simp only [five] at e <;> omega


set_option maxHeartbeats 16000000 in
set_option maxRecDepth 100000 in
theorem toNode_own (x : Nd) (s : Na) (hs : x.Small) (w : World) (h : NdIn w x s) :
    Calls Tryz.prog 30 #[.agg (ndC x s)] w fun r w' => ∃ s' K, r = .returned (.agg (ndC x s')) ∧ NdO w' w.heap.size K x s' ∧ Five K w.heap.size w'.heap.size ∧ Below w.heap.size w w' := by
  have E1 := hide (toMat_any x.m0 x.m1 x.m2 x.m3 x.m4 x.m5)
  have E2 := hide (fun u => toPath_own x.vf x.pf s.av s.ap x.nv s.cv x.np s.cp hs.nv hs.np u)
  have E3 := hide (fun u => toIntS_own x.df s.ad x.nd s.cd hs.nd u)
  have E4 := hide (toPaint_any x.pt.k x.pt.f.x0 x.pt.f.y0 x.pt.f.x1 x.pt.f.y1 x.pt.l.x0 x.pt.l.y0 x.pt.l.x1 x.pt.l.y1 x.pt.fx x.pt.fy x.pt.tx x.pt.ty)
  have E5 := hide (fun u => toPath_own x.wf x.qf s.bv s.bp x.mv s.dv x.mp s.dp hs.mv hs.mp u)
  replace h := hide h
  clear hs
  go_enter Tryz.func30, Tryz.ntmps30
  go_upto_region 2 with fail
  have R0 := hide (al3_0 w (.cells (ndC x s) 68) (.cells #[.int .i64 0, .int .i64 0, .bool false, .int .i64 0, .int .i64 0, .int .i64 0, .int .i64 0, .int .i64 0, .int .i64 0, .slice none 0 0, .slice none 0 0, .bool false, .int .i64 0, .slice none 0 0, .int .i64 0, .int .i64 0, .int .i64 0, .int .i64 0, .int .i64 0, .int .i64 0, .int .i64 0, .int .i64 0, .int .i64 0, .int .i64 0, .int .i64 0, .int .i64 0, .int .i64 0, .int .i64 0, .int .i64 0, .slice none 0 0, .slice none 0 0] 41) (.cells #[.int .i64 0, .int .i64 0, .bool false, .int .i64 0, .int .i64 0, .int .i64 0, .int .i64 0, .int .i64 0, .int .i64 0, .slice none 0 0, .slice none 0 0, .bool false, .int .i64 0, .slice none 0 0, .int .i64 0, .int .i64 0, .int .i64 0, .int .i64 0, .int .i64 0, .int .i64 0, .int .i64 0, .int .i64 0, .int .i64 0, .int .i64 0, .int .i64 0, .int .i64 0, .int .i64 0, .int .i64 0, .int .i64 0, .slice none 0 0, .slice none 0 0] 41))
  have R1 := hide (al3_1 w (.cells (ndC x s) 68) (.cells #[.int .i64 0, .int .i64 0, .bool false, .int .i64 0, .int .i64 0, .int .i64 0, .int .i64 0, .int .i64 0, .int .i64 0, .slice none 0 0, .slice none 0 0, .bool false, .int .i64 0, .slice none 0 0, .int .i64 0, .int .i64 0, .int .i64 0, .int .i64 0, .int .i64 0, .int .i64 0, .int .i64 0, .int .i64 0, .int .i64 0, .int .i64 0, .int .i64 0, .int .i64 0, .int .i64 0, .int .i64 0, .int .i64 0, .slice none 0 0, .slice none 0 0] 41) (.cells #[.int .i64 0, .int .i64 0, .bool false, .int .i64 0, .int .i64 0, .int .i64 0, .int .i64 0, .int .i64 0, .int .i64 0, .slice none 0 0, .slice none 0 0, .bool false, .int .i64 0, .slice none 0 0, .int .i64 0, .int .i64 0, .int .i64 0, .int .i64 0, .int .i64 0, .int .i64 0, .int .i64 0, .int .i64 0, .int .i64 0, .int .i64 0, .int .i64 0, .int .i64 0, .int .i64 0, .int .i64 0, .int .i64 0, .slice none 0 0, .slice none 0 0] 41))
  have R2 := hide (al3_2 w (.cells (ndC x s) 68) (.cells #[.int .i64 0, .int .i64 0, .bool false, .int .i64 0, .int .i64 0, .int .i64 0, .int .i64 0, .int .i64 0, .int .i64 0, .slice none 0 0, .slice none 0 0, .bool false, .int .i64 0, .slice none 0 0, .int .i64 0, .int .i64 0, .int .i64 0, .int .i64 0, .int .i64 0, .int .i64 0, .int .i64 0, .int .i64 0, .int .i64 0, .int .i64 0, .int .i64 0, .int .i64 0, .int .i64 0, .int .i64 0, .int .i64 0, .slice none 0 0, .slice none 0 0] 41) (.cells #[.int .i64 0, .int .i64 0, .bool false, .int .i64 0, .int .i64 0, .int .i64 0, .int .i64 0, .int .i64 0, .int .i64 0, .slice none 0 0, .slice none 0 0, .bool false, .int .i64 0, .slice none 0 0, .int .i64 0, .int .i64 0, .int .i64 0, .int .i64 0, .int .i64 0, .int .i64 0, .int .i64 0, .int .i64 0, .int .i64 0, .int .i64 0, .int .i64 0, .int .i64 0, .int .i64 0, .int .i64 0, .int .i64 0, .slice none 0 0, .slice none 0 0] 41))
  have HB := hide (al3_below w (.cells (ndC x s) 68) (.cells #[.int .i64 0, .int .i64 0, .bool false, .int .i64 0, .int .i64 0, .int .i64 0, .int .i64 0, .int .i64 0, .int .i64 0, .slice none 0 0, .slice none 0 0, .bool false, .int .i64 0, .slice none 0 0, .int .i64 0, .int .i64 0, .int .i64 0, .int .i64 0, .int .i64 0, .int .i64 0, .int .i64 0, .int .i64 0, .int .i64 0, .int .i64 0, .int .i64 0, .int .i64 0, .int .i64 0, .int .i64 0, .int .i64 0, .slice none 0 0, .slice none 0 0] 41) (.cells #[.int .i64 0, .int .i64 0, .bool false, .int .i64 0, .int .i64 0, .int .i64 0, .int .i64 0, .int .i64 0, .int .i64 0, .slice none 0 0, .slice none 0 0, .bool false, .int .i64 0, .slice none 0 0, .int .i64 0, .int .i64 0, .int .i64 0, .int .i64 0, .int .i64 0, .int .i64 0, .int .i64 0, .int .i64 0, .int .i64 0, .int .i64 0, .int .i64 0, .int .i64 0, .int .i64 0, .int .i64 0, .int .i64 0, .slice none 0 0, .slice none 0 0] 41))
  obtain ⟨b2, hb2⟩ : ∃ b, Hid (b = w.heap.size + 1 + 1) := ⟨_, rfl⟩
  obtain ⟨b1, hb1⟩ : ∃ b, Hid (b = w.heap.size + 1) := ⟨_, rfl⟩
  obtain ⟨b0, hb0⟩ : ∃ b, Hid (b = w.heap.size) := ⟨_, rfl⟩
  rw [← unhide hb2] at R2
  rw [← unhide hb1] at R1
  rw [← unhide hb0] at R0
  rw [← unhide hb2, ← unhide hb1, ← unhide hb0]
  have hne : Hid (b0 ≠ b2 ∧ b1 ≠ b2 ∧ w.heap.size ≤ b2 ∧ w.heap.size ≤ b1) := by unfold Hid; rw [unhide hb2, unhide hb1, unhide hb0]; omega
  clear hb2 hb1 hb0
  generalize ((w.alloc (.cells (ndC x s) 68)).alloc (.cells #[.int .i64 0, .int .i64 0, .bool false, .int .i64 0, .int .i64 0, .int .i64 0, .int .i64 0, .int .i64 0, .int .i64 0, .slice none 0 0, .slice none 0 0, .bool false, .int .i64 0, .slice none 0 0, .int .i64 0, .int .i64 0, .int .i64 0, .int .i64 0, .int .i64 0, .int .i64 0, .int .i64 0, .int .i64 0, .int .i64 0, .int .i64 0, .int .i64 0, .int .i64 0, .int .i64 0, .int .i64 0, .int .i64 0, .slice none 0 0, .slice none 0 0] 41)).alloc (.cells #[.int .i64 0, .int .i64 0, .bool false, .int .i64 0, .int .i64 0, .int .i64 0, .int .i64 0, .int .i64 0, .int .i64 0, .slice none 0 0, .slice none 0 0, .bool false, .int .i64 0, .slice none 0 0, .int .i64 0, .int .i64 0, .int .i64 0, .int .i64 0, .int .i64 0, .int .i64 0, .int .i64 0, .int .i64 0, .int .i64 0, .int .i64 0, .int .i64 0, .int .i64 0, .int .i64 0, .int .i64 0, .int .i64 0, .slice none 0 0, .slice none 0 0] 41) = W at R0 R1 R2 HB ⊢
  obtain ⟨C, hC⟩ : ∃ C : Array Value, Hid (#[.int .i64 0, .int .i64 0, .bool false, .int .i64 0, .int .i64 0, .int .i64 0, .int .i64 0, .int .i64 0, .int .i64 0, .slice none 0 0, .slice none 0 0, .bool false, .int .i64 0, .slice none 0 0, .int .i64 0, .int .i64 0, .int .i64 0, .int .i64 0, .int .i64 0, .int .i64 0, .int .i64 0, .int .i64 0, .int .i64 0, .int .i64 0, .int .i64 0, .int .i64 0, .int .i64 0, .int .i64 0, .int .i64 0, .slice none 0 0, .slice none 0 0] = C) := ⟨_, rfl⟩
  rw [unhide hC] at R1 R2
  have hz := hide (show C.size = 31 by rw [← unhide hC]; rfl)
  obtain ⟨C0, hC0⟩ : ∃ C0 : Array Value, Hid (C0 = C) := ⟨_, rfl⟩
  have hz0 := hide (show C0.size = 31 by rw [unhide hC0]; exact unhide hz)
  rw [← unhide hC0] at R2
  obtain ⟨q0, q1, q2, q3, q4, q5, q6, q7, q8, q9, q10, q11, q12, q13, q14, q15, q16, q17, q18, q19, q20, q21, q22, q23, q24, q25, q26, q27, q28, q29, q30⟩ := row31 (unhide R0)
  have c0 := cellC (unhide R2) 0 (by rw [unhide hz0]; omega)
  have f0 := frozen_of_row W b2 0 _ _ (unhide R2)
  go_upto_region 3 with fail
  clear c0 f0 q0 q1 q2 q3 q4 q5 q6 q7 q8 q9 q10 q11 q12 q13 q14 q15 q16 q17 q18 q19 q20 q21 q22 q23 q24 q25 q26 q27 q28 q29 q30
  replace R0 := hide (setc_other (b := b2) (j := 0) (v := .int .i64 x.id) (unhide hne).1 (unhide R0))
  replace R1 := hide (setc_other (b := b2) (j := 0) (v := .int .i64 x.id) (unhide hne).2.1 (unhide R1))
  replace R2 := hide (setC (j := 0) (v := .int .i64 x.id) (unhide R2))
  replace HB := hide ((unhide HB).setCell (p := ⟨b2, 0, none⟩) (unhide hne).2.2.1 (.int .i64 x.id))
  obtain ⟨W0, hW0⟩ : ∃ z, Hid ((W.setCell ⟨b2, 0, none⟩ (.int .i64 x.id)) = z) := ⟨_, rfl⟩
  rw [unhide hW0] at R0 R1 R2 HB ⊢
  obtain ⟨C1, hC1⟩ : ∃ z, Hid (z = (C0.setIfInBounds 0 (.int .i64 x.id))) := ⟨_, rfl⟩
  rw [← unhide hC1] at R2
  replace hz0 := hide (show C1.size = 31 by rw [unhide hC1]; simp [unhide hz0])
  clear hW0
  obtain ⟨q0, q1, q2, q3, q4, q5, q6, q7, q8, q9, q10, q11, q12, q13, q14, q15, q16, q17, q18, q19, q20, q21, q22, q23, q24, q25, q26, q27, q28, q29, q30⟩ := row31 (unhide R0)
  have c1 := cellC (unhide R2) 1 (by rw [unhide hz0]; omega)
  have f1 := frozen_of_row W0 b2 1 _ _ (unhide R2)
  go_upto_region 4 with fail
  clear c1 f1 q0 q1 q2 q3 q4 q5 q6 q7 q8 q9 q10 q11 q12 q13 q14 q15 q16 q17 q18 q19 q20 q21 q22 q23 q24 q25 q26 q27 q28 q29 q30
  replace R0 := hide (setc_other (b := b2) (j := 1) (v := .int .i64 x.par) (unhide hne).1 (unhide R0))
  replace R1 := hide (setc_other (b := b2) (j := 1) (v := .int .i64 x.par) (unhide hne).2.1 (unhide R1))
  replace R2 := hide (setC (j := 1) (v := .int .i64 x.par) (unhide R2))
  replace HB := hide ((unhide HB).setCell (p := ⟨b2, 1, none⟩) (unhide hne).2.2.1 (.int .i64 x.par))
  obtain ⟨W1, hW1⟩ : ∃ z, Hid ((W0.setCell ⟨b2, 1, none⟩ (.int .i64 x.par)) = z) := ⟨_, rfl⟩
  rw [unhide hW1] at R0 R1 R2 HB ⊢
  obtain ⟨C2, hC2⟩ : ∃ z, Hid (z = (C1.setIfInBounds 1 (.int .i64 x.par))) := ⟨_, rfl⟩
  rw [← unhide hC2] at R2
  replace hz0 := hide (show C2.size = 31 by rw [unhide hC2]; simp [unhide hz0])
  clear hW1
  obtain ⟨q0, q1, q2, q3, q4, q5, q6, q7, q8, q9, q10, q11, q12, q13, q14, q15, q16, q17, q18, q19, q20, q21, q22, q23, q24, q25, q26, q27, q28, q29, q30⟩ := row31 (unhide R0)
  have c2 := cellC (unhide R2) 2 (by rw [unhide hz0]; omega)
  have f2 := frozen_of_row W1 b2 2 _ _ (unhide R2)
  go_upto_region 5 with fail
  clear c2 f2 q0 q1 q2 q3 q4 q5 q6 q7 q8 q9 q10 q11 q12 q13 q14 q15 q16 q17 q18 q19 q20 q21 q22 q23 q24 q25 q26 q27 q28 q29 q30
  replace R0 := hide (setc_other (b := b2) (j := 2) (v := .bool x.gr) (unhide hne).1 (unhide R0))
  replace R1 := hide (setc_other (b := b2) (j := 2) (v := .bool x.gr) (unhide hne).2.1 (unhide R1))
  replace R2 := hide (setC (j := 2) (v := .bool x.gr) (unhide R2))
  replace HB := hide ((unhide HB).setCell (p := ⟨b2, 2, none⟩) (unhide hne).2.2.1 (.bool x.gr))
  obtain ⟨W2, hW2⟩ : ∃ z, Hid ((W1.setCell ⟨b2, 2, none⟩ (.bool x.gr)) = z) := ⟨_, rfl⟩
  rw [unhide hW2] at R0 R1 R2 HB ⊢
  obtain ⟨C3, hC3⟩ : ∃ z, Hid (z = (C2.setIfInBounds 2 (.bool x.gr))) := ⟨_, rfl⟩
  rw [← unhide hC3] at R2
  replace hz0 := hide (show C3.size = 31 by rw [unhide hC3]; simp [unhide hz0])
  clear hW2
  as_aux_lemma =>
  obtain ⟨q0, q1, q2, q3, q4, q5, q6, q7, q8, q9, q10, q11, q12, q13, q14, q15, q16, q17, q18, q19, q20, q21, q22, q23, q24, q25, q26, q27, q28, q29, q30⟩ := row31 (unhide R0)
  have hN := hide ((unhide h).next (unhide HB))
  have F := hide (unhide E1)
  go_wp2_with fail
  go_fit (unhide F _)
  rintro r3 V3 ⟨rfl, hb⟩
  replace R0 := hide (row_next hb (unhide R0))
  replace R1 := hide (row_next hb (unhide R1))
  replace R2 := hide (row_next hb (unhide R2))
  replace HB := hide (below_two (unhide HB) hb)
  clear hb F hN q0 q1 q2 q3 q4 q5 q6 q7 q8 q9 q10 q11 q12 q13 q14 q15 q16 q17 q18 q19 q20 q21 q22 q23 q24 q25 q26 q27 q28 q29 q30
  have hth := hide (thereC (unhide R2) 3 6 (by rw [unhide hz0]; omega))
  have hin : (Tryz.prog.info? 29).map (·.size) = some 6 := by kernel_rfl
  obtain ⟨M3, hM3⟩ : ∃ A : Array Value, Hid (#[.int .i64 x.m0, .int .i64 x.m1, .int .i64 x.m2, .int .i64 x.m3, .int .i64 x.m4, .int .i64 x.m5] = A) := ⟨_, rfl⟩
  have hms : M3.size = 6 := by rw [← unhide hM3]; rfl
  have hmo : M3.all (·.oneCell') = true := by rw [← unhide hM3]; simp [Value.oneCell']
  go_upto_region 6 with (refine wpList_store_mid rfl 29 _ _ rfl b2 3 M3 rfl (by rw [← unhide hM3]; rfl) (by rw [hms]; exact unhide hth) (by rw [hms]; exact hin) hmo ?_)
  clear hth hin hms hmo
  replace R0 := hide (sets_other (b := b2) (o := 3) (unhide hne).1 M3.toList (unhide R0))
  replace R1 := hide (sets_other (b := b2) (o := 3) (unhide hne).2.1 M3.toList (unhide R1))
  replace R2 := hide (setsC (o := 3) M3.toList (unhide R2))
  replace HB := hide (below_sets (b := b2) (o := 3) (unhide hne).2.2.1 M3.toList (unhide HB))
  obtain ⟨W3, hW3⟩ : ∃ z, Hid ((V3.setCells b2 3 M3.toList) = z) := ⟨_, rfl⟩
  rw [unhide hW3] at R0 R1 R2 HB ⊢
  obtain ⟨C4, hC4⟩ : ∃ z, Hid (z = (setMany C3 3 M3.toList)) := ⟨_, rfl⟩
  rw [← unhide hC4] at R2
  replace hz0 := hide (show C4.size = 31 by rw [unhide hC4]; rw [setMany_size]; exact unhide hz0)
  clear hW3
  as_aux_lemma =>
  obtain ⟨q0, q1, q2, q3, q4, q5, q6, q7, q8, q9, q10, q11, q12, q13, q14, q15, q16, q17, q18, q19, q20, q21, q22, q23, q24, q25, q26, q27, q28, q29, q30⟩ := row31 (unhide R0)
  have hN := hide ((unhide h).next (unhide HB))
  have F := hide (unhide E2 W3 (unhide hN).v (unhide hN).p)
  go_wp2_with fail
  go_fit (unhide F)
  rintro r4 V4 ⟨k0, k1, xsk0, xsk1, rfl, hop, ixk0, ixk1, hb⟩
  obtain ⟨p4, hp⟩ : ∃ p, Hid (p = W3.heap.size) := ⟨_, rfl⟩
  have bl4 := hide (show b2 < p4 by rw [unhide hp]; exact heap_lt (unhide R2))
  have bm4 := hide (show w.heap.size ≤ p4 by rw [unhide hp]; exact (unhide HB).size)
  have bn := hide (show b1 < p4 by rw [unhide hp]; exact heap_lt (unhide R1))
  rw [← unhide hp] at hop
  have lk0 := hide (hop.one.lt k0 rfl)
  have lk1 := hide (hop.two.lt k1 rfl)
  have nk0 := hide (show k0 ≠ k1 from fun e => by rcases hop.apart with z | z; cases z; exact z (by rw [e]; rfl))
  have ok0 := hide hop.one
  have ok1 := hide hop.two
  replace ixk0 := hide ixk0
  replace ixk1 := hide ixk1
  clear hop hp
  obtain ⟨t4, ht⟩ : ∃ p, Hid (p = V4.heap.size) := ⟨_, rfl⟩
  rw [← unhide ht] at lk0 lk1
  have tp := hide (show t4 ≤ V4.heap.size by rw [unhide ht]; exact Nat.le_refl _)
  clear ht
  replace R0 := hide (row_next hb (unhide R0))
  replace R1 := hide (row_next hb (unhide R1))
  replace R2 := hide (row_next hb (unhide R2))
  replace HB := hide (below_two (unhide HB) hb)
  clear hb F hN q0 q1 q2 q3 q4 q5 q6 q7 q8 q9 q10 q11 q12 q13 q14 q15 q16 q17 q18 q19 q20 q21 q22 q23 q24 q25 q26 q27 q28 q29 q30
  have c9 := cellC (unhide R2) 9 (by rw [unhide hz0]; omega)
  have f9 := frozen_of_row V4 b2 9 _ _ (unhide R2)
  have c10 := cellC (unhide R2) 10 (by rw [unhide hz0]; omega)
  have f10 := frozen_of_row V4 b2 10 _ _ (unhide R2)
  go_upto_region 7 with fail
  clear c9 f9 c10 f10
  replace R0 := hide (setc_other (b := b2) (j := 9) (v := .slice (some ⟨k0, 0, none⟩) x.nv x.nv) (unhide hne).1 (unhide R0))
  replace R1 := hide (setc_other (b := b2) (j := 9) (v := .slice (some ⟨k0, 0, none⟩) x.nv x.nv) (unhide hne).2.1 (unhide R1))
  replace R2 := hide (setC (j := 9) (v := .slice (some ⟨k0, 0, none⟩) x.nv x.nv) (unhide R2))
  replace HB := hide ((unhide HB).setCell (p := ⟨b2, 9, none⟩) (unhide hne).2.2.1 (.slice (some ⟨k0, 0, none⟩) x.nv x.nv))
  replace ok0 := hide (own_setc (j := 9) (u := .slice (some ⟨k0, 0, none⟩) x.nv x.nv) (unhide ok0) (unhide bl4))
  replace ok1 := hide (own_setc (j := 9) (u := .slice (some ⟨k0, 0, none⟩) x.nv x.nv) (unhide ok1) (unhide bl4))
  replace R0 := hide (setc_other (b := b2) (j := 10) (v := .slice (some ⟨k1, 0, none⟩) x.np x.np) (unhide hne).1 (unhide R0))
  replace R1 := hide (setc_other (b := b2) (j := 10) (v := .slice (some ⟨k1, 0, none⟩) x.np x.np) (unhide hne).2.1 (unhide R1))
  replace R2 := hide (setC (j := 10) (v := .slice (some ⟨k1, 0, none⟩) x.np x.np) (unhide R2))
  replace HB := hide ((unhide HB).setCell (p := ⟨b2, 10, none⟩) (unhide hne).2.2.1 (.slice (some ⟨k1, 0, none⟩) x.np x.np))
  replace ok0 := hide (own_setc (j := 10) (u := .slice (some ⟨k1, 0, none⟩) x.np x.np) (unhide ok0) (unhide bl4))
  replace ok1 := hide (own_setc (j := 10) (u := .slice (some ⟨k1, 0, none⟩) x.np x.np) (unhide ok1) (unhide bl4))
  replace tp := hide (show t4 ≤ ((V4.setCell ⟨b2, 9, none⟩ (.slice (some ⟨k0, 0, none⟩) x.nv x.nv)).setCell ⟨b2, 10, none⟩ (.slice (some ⟨k1, 0, none⟩) x.np x.np)).heap.size by simp only [World.setCell, Array.size_modify]; exact unhide tp)
  obtain ⟨W4, hW4⟩ : ∃ z, Hid (((V4.setCell ⟨b2, 9, none⟩ (.slice (some ⟨k0, 0, none⟩) x.nv x.nv)).setCell ⟨b2, 10, none⟩ (.slice (some ⟨k1, 0, none⟩) x.np x.np)) = z) := ⟨_, rfl⟩
  rw [unhide hW4] at R0 R1 R2 HB tp ok0 ok1 ⊢
  obtain ⟨C5, hC5⟩ : ∃ z, Hid (z = ((C4.setIfInBounds 9 (.slice (some ⟨k0, 0, none⟩) x.nv x.nv)).setIfInBounds 10 (.slice (some ⟨k1, 0, none⟩) x.np x.np))) := ⟨_, rfl⟩
  rw [← unhide hC5] at R2
  replace hz0 := hide (show C5.size = 31 by rw [unhide hC5]; simp [unhide hz0])
  clear hW4
  obtain ⟨q0, q1, q2, q3, q4, q5, q6, q7, q8, q9, q10, q11, q12, q13, q14, q15, q16, q17, q18, q19, q20, q21, q22, q23, q24, q25, q26, q27, q28, q29, q30⟩ := row31 (unhide R0)
  have c11 := cellC (unhide R2) 11 (by rw [unhide hz0]; omega)
  have f11 := frozen_of_row W4 b2 11 _ _ (unhide R2)
  go_upto_region 8 with fail
  clear c11 f11 q0 q1 q2 q3 q4 q5 q6 q7 q8 q9 q10 q11 q12 q13 q14 q15 q16 q17 q18 q19 q20 q21 q22 q23 q24 q25 q26 q27 q28 q29 q30
  replace R0 := hide (setc_other (b := b2) (j := 11) (v := .bool x.ev) (unhide hne).1 (unhide R0))
  replace R1 := hide (setc_other (b := b2) (j := 11) (v := .bool x.ev) (unhide hne).2.1 (unhide R1))
  replace R2 := hide (setC (j := 11) (v := .bool x.ev) (unhide R2))
  replace HB := hide ((unhide HB).setCell (p := ⟨b2, 11, none⟩) (unhide hne).2.2.1 (.bool x.ev))
  replace ok0 := hide (own_setc (j := 11) (u := .bool x.ev) (unhide ok0) (unhide bl4))
  replace ok1 := hide (own_setc (j := 11) (u := .bool x.ev) (unhide ok1) (unhide bl4))
  replace tp := hide (show t4 ≤ (W4.setCell ⟨b2, 11, none⟩ (.bool x.ev)).heap.size by simp only [World.setCell, Array.size_modify]; exact unhide tp)
  obtain ⟨W5, hW5⟩ : ∃ z, Hid ((W4.setCell ⟨b2, 11, none⟩ (.bool x.ev)) = z) := ⟨_, rfl⟩
  rw [unhide hW5] at R0 R1 R2 HB tp ok0 ok1 ⊢
  obtain ⟨C6, hC6⟩ : ∃ z, Hid (z = (C5.setIfInBounds 11 (.bool x.ev))) := ⟨_, rfl⟩
  rw [← unhide hC6] at R2
  replace hz0 := hide (show C6.size = 31 by rw [unhide hC6]; simp [unhide hz0])
  clear hW5
  obtain ⟨q0, q1, q2, q3, q4, q5, q6, q7, q8, q9, q10, q11, q12, q13, q14, q15, q16, q17, q18, q19, q20, q21, q22, q23, q24, q25, q26, q27, q28, q29, q30⟩ := row31 (unhide R0)
  have c12 := cellC (unhide R2) 12 (by rw [unhide hz0]; omega)
  have f12 := frozen_of_row W5 b2 12 _ _ (unhide R2)
  go_upto_region 9 with fail
  clear c12 f12 q0 q1 q2 q3 q4 q5 q6 q7 q8 q9 q10 q11 q12 q13 q14 q15 q16 q17 q18 q19 q20 q21 q22 q23 q24 q25 q26 q27 q28 q29 q30
  replace R0 := hide (setc_other (b := b2) (j := 12) (v := .int .i64 x.wd) (unhide hne).1 (unhide R0))
  replace R1 := hide (setc_other (b := b2) (j := 12) (v := .int .i64 x.wd) (unhide hne).2.1 (unhide R1))
  replace R2 := hide (setC (j := 12) (v := .int .i64 x.wd) (unhide R2))
  replace HB := hide ((unhide HB).setCell (p := ⟨b2, 12, none⟩) (unhide hne).2.2.1 (.int .i64 x.wd))
  replace ok0 := hide (own_setc (j := 12) (u := .int .i64 x.wd) (unhide ok0) (unhide bl4))
  replace ok1 := hide (own_setc (j := 12) (u := .int .i64 x.wd) (unhide ok1) (unhide bl4))
  replace tp := hide (show t4 ≤ (W5.setCell ⟨b2, 12, none⟩ (.int .i64 x.wd)).heap.size by simp only [World.setCell, Array.size_modify]; exact unhide tp)
  obtain ⟨W6, hW6⟩ : ∃ z, Hid ((W5.setCell ⟨b2, 12, none⟩ (.int .i64 x.wd)) = z) := ⟨_, rfl⟩
  rw [unhide hW6] at R0 R1 R2 HB tp ok0 ok1 ⊢
  obtain ⟨C7, hC7⟩ : ∃ z, Hid (z = (C6.setIfInBounds 12 (.int .i64 x.wd))) := ⟨_, rfl⟩
  rw [← unhide hC7] at R2
  replace hz0 := hide (show C7.size = 31 by rw [unhide hC7]; simp [unhide hz0])
  clear hW6
  as_aux_lemma =>
  obtain ⟨q0, q1, q2, q3, q4, q5, q6, q7, q8, q9, q10, q11, q12, q13, q14, q15, q16, q17, q18, q19, q20, q21, q22, q23, q24, q25, q26, q27, q28, q29, q30⟩ := row31 (unhide R0)
  have hN := hide ((unhide h).next (unhide HB))
  have F := hide (unhide E3 W6 (unhide hN).d)
  go_wp2_with fail
  go_fit (unhide F)
  rintro r7 V7 ⟨rfl, ⟨xsk2, hop, ixk2⟩, hb⟩
  obtain ⟨p7, hp⟩ : ∃ p, Hid (p = W6.heap.size) := ⟨_, rfl⟩
  obtain ⟨k2, hk2⟩ : ∃ p, Hid (p = W6.heap.size) := ⟨_, rfl⟩
  have bl7 := hide (show b2 < p7 by rw [unhide hp]; exact heap_lt (unhide R2))
  replace tp := hide (show t4 ≤ p7 by rw [unhide hp]; exact unhide tp)
  have lk2 := hide (show p7 ≤ k2 ∧ k2 < V7.heap.size from ⟨by rw [unhide hk2, unhide hp]; exact Nat.le_refl _, by rw [unhide hk2]; exact (hop.lt _ rfl).2⟩)
  have ok2 := hide (show V7.ownsRow p7 3 1 (.slice (some ⟨k2, 0, none⟩) x.nd x.nd) x.nd xsk2 by rw [unhide hk2, unhide hp]; exact hop)
  have hq2 : (Value.slice (some ⟨W6.heap.size, 0, none⟩) x.nd x.nd) = (.slice (some ⟨k2, 0, none⟩) x.nd x.nd) := by rw [unhide hk2]
  rw [← unhide hk2]
  replace ixk2 := hide ixk2
  have tq := tp
  clear hop hk2 hp hq2 tp
  obtain ⟨t7, ht⟩ : ∃ p, Hid (p = V7.heap.size) := ⟨_, rfl⟩
  rw [← unhide ht] at lk2
  have tp := hide (show t7 ≤ V7.heap.size by rw [unhide ht]; exact Nat.le_refl _)
  clear ht
  replace ok0 := hide (own_below (unhide ok0) hb)
  replace ok1 := hide (own_below (unhide ok1) hb)
  replace R0 := hide (row_next hb (unhide R0))
  replace R1 := hide (row_next hb (unhide R1))
  replace R2 := hide (row_next hb (unhide R2))
  replace HB := hide (below_two (unhide HB) hb)
  clear hb F hN q0 q1 q2 q3 q4 q5 q6 q7 q8 q9 q10 q11 q12 q13 q14 q15 q16 q17 q18 q19 q20 q21 q22 q23 q24 q25 q26 q27 q28 q29 q30
  have c13 := cellC (unhide R2) 13 (by rw [unhide hz0]; omega)
  have f13 := frozen_of_row V7 b2 13 _ _ (unhide R2)
  go_upto_region 10 with fail
  clear c13 f13
  replace R0 := hide (setc_other (b := b2) (j := 13) (v := .slice (some ⟨k2, 0, none⟩) x.nd x.nd) (unhide hne).1 (unhide R0))
  replace R1 := hide (setc_other (b := b2) (j := 13) (v := .slice (some ⟨k2, 0, none⟩) x.nd x.nd) (unhide hne).2.1 (unhide R1))
  replace R2 := hide (setC (j := 13) (v := .slice (some ⟨k2, 0, none⟩) x.nd x.nd) (unhide R2))
  replace HB := hide ((unhide HB).setCell (p := ⟨b2, 13, none⟩) (unhide hne).2.2.1 (.slice (some ⟨k2, 0, none⟩) x.nd x.nd))
  replace ok0 := hide (own_setc (j := 13) (u := .slice (some ⟨k2, 0, none⟩) x.nd x.nd) (unhide ok0) (unhide bl4))
  replace ok1 := hide (own_setc (j := 13) (u := .slice (some ⟨k2, 0, none⟩) x.nd x.nd) (unhide ok1) (unhide bl4))
  replace ok2 := hide (own_setc (j := 13) (u := .slice (some ⟨k2, 0, none⟩) x.nd x.nd) (unhide ok2) (unhide bl7))
  replace tp := hide (show t7 ≤ (V7.setCell ⟨b2, 13, none⟩ (.slice (some ⟨k2, 0, none⟩) x.nd x.nd)).heap.size by simp only [World.setCell, Array.size_modify]; exact unhide tp)
  obtain ⟨W7, hW7⟩ : ∃ z, Hid ((V7.setCell ⟨b2, 13, none⟩ (.slice (some ⟨k2, 0, none⟩) x.nd x.nd)) = z) := ⟨_, rfl⟩
  rw [unhide hW7] at R0 R1 R2 HB tp ok0 ok1 ok2 ⊢
  obtain ⟨C8, hC8⟩ : ∃ z, Hid (z = (C7.setIfInBounds 13 (.slice (some ⟨k2, 0, none⟩) x.nd x.nd))) := ⟨_, rfl⟩
  rw [← unhide hC8] at R2
  replace hz0 := hide (show C8.size = 31 by rw [unhide hC8]; simp [unhide hz0])
  clear hW7
  as_aux_lemma =>
  obtain ⟨q0, q1, q2, q3, q4, q5, q6, q7, q8, q9, q10, q11, q12, q13, q14, q15, q16, q17, q18, q19, q20, q21, q22, q23, q24, q25, q26, q27, q28, q29, q30⟩ := row31 (unhide R0)
  have hN := hide ((unhide h).next (unhide HB))
  have F := hide (unhide E4)
  go_wp2_with fail
  go_fit (unhide F _)
  rintro r8 V8 ⟨rfl, hb⟩
  replace ok0 := hide (own_below (unhide ok0) hb)
  replace ok1 := hide (own_below (unhide ok1) hb)
  replace ok2 := hide (own_below (unhide ok2) hb)
  replace tp := hide (Nat.le_trans (unhide tp) hb.size)
  replace R0 := hide (row_next hb (unhide R0))
  replace R1 := hide (row_next hb (unhide R1))
  replace R2 := hide (row_next hb (unhide R2))
  replace HB := hide (below_two (unhide HB) hb)
  clear hb F hN q0 q1 q2 q3 q4 q5 q6 q7 q8 q9 q10 q11 q12 q13 q14 q15 q16 q17 q18 q19 q20 q21 q22 q23 q24 q25 q26 q27 q28 q29 q30
  have hth := hide (thereC (unhide R2) 14 13 (by rw [unhide hz0]; omega))
  have hin : (Tryz.prog.info? 39).map (·.size) = some 13 := by kernel_rfl
  obtain ⟨M8, hM8⟩ : ∃ A : Array Value, Hid (#[.int .i64 x.pt.k, .int .i64 x.pt.f.x0, .int .i64 x.pt.f.y0, .int .i64 x.pt.f.x1, .int .i64 x.pt.f.y1, .int .i64 x.pt.l.x0, .int .i64 x.pt.l.y0, .int .i64 x.pt.l.x1, .int .i64 x.pt.l.y1, .int .i64 x.pt.fx, .int .i64 x.pt.fy, .int .i64 x.pt.tx, .int .i64 x.pt.ty] = A) := ⟨_, rfl⟩
  have hms : M8.size = 13 := by rw [← unhide hM8]; rfl
  have hmo : M8.all (·.oneCell') = true := by rw [← unhide hM8]; simp [Value.oneCell']
  go_upto_region 11 with (refine wpList_store_mid rfl 39 _ _ rfl b2 14 M8 rfl (by rw [← unhide hM8]; rfl) (by rw [hms]; exact unhide hth) (by rw [hms]; exact hin) hmo ?_)
  clear hth hin hms hmo
  replace R0 := hide (sets_other (b := b2) (o := 14) (unhide hne).1 M8.toList (unhide R0))
  replace R1 := hide (sets_other (b := b2) (o := 14) (unhide hne).2.1 M8.toList (unhide R1))
  replace R2 := hide (setsC (o := 14) M8.toList (unhide R2))
  replace HB := hide (below_sets (b := b2) (o := 14) (unhide hne).2.2.1 M8.toList (unhide HB))
  replace ok0 := hide (own_sets (o := 14) (unhide bl4) M8.toList (unhide ok0))
  replace ok1 := hide (own_sets (o := 14) (unhide bl4) M8.toList (unhide ok1))
  replace ok2 := hide (own_sets (o := 14) (unhide bl7) M8.toList (unhide ok2))
  replace tp := hide (show t7 ≤ (V8.setCells b2 14 M8.toList).heap.size by rw [sets_size]; exact unhide tp)
  obtain ⟨W8, hW8⟩ : ∃ z, Hid ((V8.setCells b2 14 M8.toList) = z) := ⟨_, rfl⟩
  rw [unhide hW8] at R0 R1 R2 HB tp ok0 ok1 ok2 ⊢
  obtain ⟨C9, hC9⟩ : ∃ z, Hid (z = (setMany C8 14 M8.toList)) := ⟨_, rfl⟩
  rw [← unhide hC9] at R2
  replace hz0 := hide (show C9.size = 31 by rw [unhide hC9]; rw [setMany_size]; exact unhide hz0)
  clear hW8
  obtain ⟨q0, q1, q2, q3, q4, q5, q6, q7, q8, q9, q10, q11, q12, q13, q14, q15, q16, q17, q18, q19, q20, q21, q22, q23, q24, q25, q26, q27, q28, q29, q30⟩ := row31 (unhide R0)
  have c27 := cellC (unhide R2) 27 (by rw [unhide hz0]; omega)
  have f27 := frozen_of_row W8 b2 27 _ _ (unhide R2)
  go_upto_region 12 with fail
  clear c27 f27 q0 q1 q2 q3 q4 q5 q6 q7 q8 q9 q10 q11 q12 q13 q14 q15 q16 q17 q18 q19 q20 q21 q22 q23 q24 q25 q26 q27 q28 q29 q30
  replace R0 := hide (setc_other (b := b2) (j := 27) (v := .int .i64 x.md) (unhide hne).1 (unhide R0))
  replace R1 := hide (setc_other (b := b2) (j := 27) (v := .int .i64 x.md) (unhide hne).2.1 (unhide R1))
  replace R2 := hide (setC (j := 27) (v := .int .i64 x.md) (unhide R2))
  replace HB := hide ((unhide HB).setCell (p := ⟨b2, 27, none⟩) (unhide hne).2.2.1 (.int .i64 x.md))
  replace ok0 := hide (own_setc (j := 27) (u := .int .i64 x.md) (unhide ok0) (unhide bl4))
  replace ok1 := hide (own_setc (j := 27) (u := .int .i64 x.md) (unhide ok1) (unhide bl4))
  replace ok2 := hide (own_setc (j := 27) (u := .int .i64 x.md) (unhide ok2) (unhide bl7))
  replace tp := hide (show t7 ≤ (W8.setCell ⟨b2, 27, none⟩ (.int .i64 x.md)).heap.size by simp only [World.setCell, Array.size_modify]; exact unhide tp)
  obtain ⟨W9, hW9⟩ : ∃ z, Hid ((W8.setCell ⟨b2, 27, none⟩ (.int .i64 x.md)) = z) := ⟨_, rfl⟩
  rw [unhide hW9] at R0 R1 R2 HB tp ok0 ok1 ok2 ⊢
  obtain ⟨C10, hC10⟩ : ∃ z, Hid (z = (C9.setIfInBounds 27 (.int .i64 x.md))) := ⟨_, rfl⟩
  rw [← unhide hC10] at R2
  replace hz0 := hide (show C10.size = 31 by rw [unhide hC10]; simp [unhide hz0])
  clear hW9
  obtain ⟨q0, q1, q2, q3, q4, q5, q6, q7, q8, q9, q10, q11, q12, q13, q14, q15, q16, q17, q18, q19, q20, q21, q22, q23, q24, q25, q26, q27, q28, q29, q30⟩ := row31 (unhide R0)
  have c28 := cellC (unhide R2) 28 (by rw [unhide hz0]; omega)
  have f28 := frozen_of_row W9 b2 28 _ _ (unhide R2)
  go_upto_region 13 with fail
  clear c28 f28 q0 q1 q2 q3 q4 q5 q6 q7 q8 q9 q10 q11 q12 q13 q14 q15 q16 q17 q18 q19 q20 q21 q22 q23 q24 q25 q26 q27 q28 q29 q30
  replace R0 := hide (setc_other (b := b2) (j := 28) (v := .int .i64 x.fd) (unhide hne).1 (unhide R0))
  replace R1 := hide (setc_other (b := b2) (j := 28) (v := .int .i64 x.fd) (unhide hne).2.1 (unhide R1))
  replace R2 := hide (setC (j := 28) (v := .int .i64 x.fd) (unhide R2))
  replace HB := hide ((unhide HB).setCell (p := ⟨b2, 28, none⟩) (unhide hne).2.2.1 (.int .i64 x.fd))
  replace ok0 := hide (own_setc (j := 28) (u := .int .i64 x.fd) (unhide ok0) (unhide bl4))
  replace ok1 := hide (own_setc (j := 28) (u := .int .i64 x.fd) (unhide ok1) (unhide bl4))
  replace ok2 := hide (own_setc (j := 28) (u := .int .i64 x.fd) (unhide ok2) (unhide bl7))
  replace tp := hide (show t7 ≤ (W9.setCell ⟨b2, 28, none⟩ (.int .i64 x.fd)).heap.size by simp only [World.setCell, Array.size_modify]; exact unhide tp)
  obtain ⟨W10, hW10⟩ : ∃ z, Hid ((W9.setCell ⟨b2, 28, none⟩ (.int .i64 x.fd)) = z) := ⟨_, rfl⟩
  rw [unhide hW10] at R0 R1 R2 HB tp ok0 ok1 ok2 ⊢
  obtain ⟨C11, hC11⟩ : ∃ z, Hid (z = (C10.setIfInBounds 28 (.int .i64 x.fd))) := ⟨_, rfl⟩
  rw [← unhide hC11] at R2
  replace hz0 := hide (show C11.size = 31 by rw [unhide hC11]; simp [unhide hz0])
  clear hW10
  as_aux_lemma =>
  obtain ⟨q0, q1, q2, q3, q4, q5, q6, q7, q8, q9, q10, q11, q12, q13, q14, q15, q16, q17, q18, q19, q20, q21, q22, q23, q24, q25, q26, q27, q28, q29, q30⟩ := row31 (unhide R0)
  have hN := hide ((unhide h).next (unhide HB))
  have F := hide (unhide E5 W10 (unhide hN).cv (unhide hN).cp)
  go_wp2_with fail
  go_fit (unhide F)
  rintro r11 V11 ⟨k3, k4, xsk3, xsk4, rfl, hop, ixk3, ixk4, hb⟩
  obtain ⟨p11, hp⟩ : ∃ p, Hid (p = W10.heap.size) := ⟨_, rfl⟩
  have bl11 := hide (show b2 < p11 by rw [unhide hp]; exact heap_lt (unhide R2))
  have bm11 := hide (show w.heap.size ≤ p11 by rw [unhide hp]; exact (unhide HB).size)
  rw [← unhide hp] at hop
  have tq11 := hide (show t7 ≤ p11 by rw [unhide hp]; exact unhide tp)
  clear tp
  have lk3 := hide (hop.one.lt k3 rfl)
  have lk4 := hide (hop.two.lt k4 rfl)
  have nk3 := hide (show k3 ≠ k4 from fun e => by rcases hop.apart with z | z; cases z; exact z (by rw [e]; rfl))
  have ok3 := hide hop.one
  have ok4 := hide hop.two
  replace ixk3 := hide ixk3
  replace ixk4 := hide ixk4
  clear hop hp
  obtain ⟨t11, ht⟩ : ∃ p, Hid (p = V11.heap.size) := ⟨_, rfl⟩
  rw [← unhide ht] at lk3 lk4
  have tp := hide (show t11 ≤ V11.heap.size by rw [unhide ht]; exact Nat.le_refl _)
  clear ht
  replace ok0 := hide (own_below (unhide ok0) hb)
  replace ok1 := hide (own_below (unhide ok1) hb)
  replace ok2 := hide (own_below (unhide ok2) hb)
  replace R0 := hide (row_next hb (unhide R0))
  replace R1 := hide (row_next hb (unhide R1))
  replace R2 := hide (row_next hb (unhide R2))
  replace HB := hide (below_two (unhide HB) hb)
  clear hb F hN q0 q1 q2 q3 q4 q5 q6 q7 q8 q9 q10 q11 q12 q13 q14 q15 q16 q17 q18 q19 q20 q21 q22 q23 q24 q25 q26 q27 q28 q29 q30
  have c29 := cellC (unhide R2) 29 (by rw [unhide hz0]; omega)
  have f29 := frozen_of_row V11 b2 29 _ _ (unhide R2)
  have c30 := cellC (unhide R2) 30 (by rw [unhide hz0]; omega)
  have f30 := frozen_of_row V11 b2 30 _ _ (unhide R2)
  go_upto_region 14 with fail
  clear c29 f29 c30 f30
  replace R0 := hide (setc_other (b := b2) (j := 29) (v := .slice (some ⟨k3, 0, none⟩) x.mv x.mv) (unhide hne).1 (unhide R0))
  replace R1 := hide (setc_other (b := b2) (j := 29) (v := .slice (some ⟨k3, 0, none⟩) x.mv x.mv) (unhide hne).2.1 (unhide R1))
  replace R2 := hide (setC (j := 29) (v := .slice (some ⟨k3, 0, none⟩) x.mv x.mv) (unhide R2))
  replace HB := hide ((unhide HB).setCell (p := ⟨b2, 29, none⟩) (unhide hne).2.2.1 (.slice (some ⟨k3, 0, none⟩) x.mv x.mv))
  replace ok0 := hide (own_setc (j := 29) (u := .slice (some ⟨k3, 0, none⟩) x.mv x.mv) (unhide ok0) (unhide bl4))
  replace ok1 := hide (own_setc (j := 29) (u := .slice (some ⟨k3, 0, none⟩) x.mv x.mv) (unhide ok1) (unhide bl4))
  replace ok2 := hide (own_setc (j := 29) (u := .slice (some ⟨k3, 0, none⟩) x.mv x.mv) (unhide ok2) (unhide bl7))
  replace ok3 := hide (own_setc (j := 29) (u := .slice (some ⟨k3, 0, none⟩) x.mv x.mv) (unhide ok3) (unhide bl11))
  replace ok4 := hide (own_setc (j := 29) (u := .slice (some ⟨k3, 0, none⟩) x.mv x.mv) (unhide ok4) (unhide bl11))
  replace R0 := hide (setc_other (b := b2) (j := 30) (v := .slice (some ⟨k4, 0, none⟩) x.mp x.mp) (unhide hne).1 (unhide R0))
  replace R1 := hide (setc_other (b := b2) (j := 30) (v := .slice (some ⟨k4, 0, none⟩) x.mp x.mp) (unhide hne).2.1 (unhide R1))
  replace R2 := hide (setC (j := 30) (v := .slice (some ⟨k4, 0, none⟩) x.mp x.mp) (unhide R2))
  replace HB := hide ((unhide HB).setCell (p := ⟨b2, 30, none⟩) (unhide hne).2.2.1 (.slice (some ⟨k4, 0, none⟩) x.mp x.mp))
  replace ok0 := hide (own_setc (j := 30) (u := .slice (some ⟨k4, 0, none⟩) x.mp x.mp) (unhide ok0) (unhide bl4))
  replace ok1 := hide (own_setc (j := 30) (u := .slice (some ⟨k4, 0, none⟩) x.mp x.mp) (unhide ok1) (unhide bl4))
  replace ok2 := hide (own_setc (j := 30) (u := .slice (some ⟨k4, 0, none⟩) x.mp x.mp) (unhide ok2) (unhide bl7))
  replace ok3 := hide (own_setc (j := 30) (u := .slice (some ⟨k4, 0, none⟩) x.mp x.mp) (unhide ok3) (unhide bl11))
  replace ok4 := hide (own_setc (j := 30) (u := .slice (some ⟨k4, 0, none⟩) x.mp x.mp) (unhide ok4) (unhide bl11))
  replace tp := hide (show t11 ≤ ((V11.setCell ⟨b2, 29, none⟩ (.slice (some ⟨k3, 0, none⟩) x.mv x.mv)).setCell ⟨b2, 30, none⟩ (.slice (some ⟨k4, 0, none⟩) x.mp x.mp)).heap.size by simp only [World.setCell, Array.size_modify]; exact unhide tp)
  obtain ⟨W11, hW11⟩ : ∃ z, Hid (((V11.setCell ⟨b2, 29, none⟩ (.slice (some ⟨k3, 0, none⟩) x.mv x.mv)).setCell ⟨b2, 30, none⟩ (.slice (some ⟨k4, 0, none⟩) x.mp x.mp)) = z) := ⟨_, rfl⟩
  rw [unhide hW11] at R0 R1 R2 HB tp ok0 ok1 ok2 ok3 ok4 ⊢
  obtain ⟨C12, hC12⟩ : ∃ z, Hid (z = ((C11.setIfInBounds 29 (.slice (some ⟨k3, 0, none⟩) x.mv x.mv)).setIfInBounds 30 (.slice (some ⟨k4, 0, none⟩) x.mp x.mp))) := ⟨_, rfl⟩
  rw [← unhide hC12] at R2
  replace hz0 := hide (show C12.size = 31 by rw [unhide hC12]; simp [unhide hz0])
  clear hW11
  as_aux_lemma =>
  obtain ⟨s', hs'⟩ : ∃ s', Hid (s' = (⟨some ⟨k0, 0, none⟩, x.nv, some ⟨k1, 0, none⟩, x.np, some ⟨k2, 0, none⟩, x.nd, some ⟨k3, 0, none⟩, x.mv, some ⟨k4, 0, none⟩, x.mp⟩ : Na)) := ⟨_, rfl⟩
  have hfin := hide (show C12 = ndC x s' by rw [unhide hC12, unhide hC11, unhide hC10, unhide hC9, unhide hC8, unhide hC7, unhide hC6, unhide hC5, unhide hC4, unhide hC3, unhide hC2, unhide hC1, unhide hC0, ← unhide hC, ← unhide hM3, ← unhide hM8, unhide hs']; simp only [setMany, ndC, List.setIfInBounds_toArray, List.set_cons_zero, List.set_cons_succ])
  clear hC1 hC2 hC3 hC4 hC5 hC6 hC7 hC8 hC9 hC10 hC11 hC12 hC0
  rw [unhide hfin] at R2
  have hO := hide (show NdO W11 w.heap.size (five k0 k1 k2 k3 k4) x s' by
    rw [unhide hs']
    exact ⟨⟨_, own_low (unhide ok0) (unhide bm4), unhide ixk0⟩, ⟨_, own_low (unhide ok1) (unhide bm4), unhide ixk1⟩, ⟨_, own_low (unhide ok2) (Nat.le_trans (Nat.le_trans (unhide bm4) (Nat.le_trans (unhide lk0).1 (Nat.le_of_lt (unhide lk0).2))) (unhide tq)), unhide ixk2⟩, ⟨_, own_low (unhide ok3) (unhide bm11), unhide ixk3⟩, ⟨_, own_low (unhide ok4) (unhide bm11), unhide ixk4⟩, fun k e => (Option.some.inj e).symm, fun k e => (Option.some.inj e).symm, fun k e => (Option.some.inj e).symm, fun k e => (Option.some.inj e).symm, fun k e => (Option.some.inj e).symm⟩)
  have hF := hide (show Five (five k0 k1 k2 k3 k4) w.heap.size W11.heap.size by
    have h1 := unhide lk0
    have h2 := unhide lk1
    have h3 := unhide lk2
    have h4 := unhide lk3
    have h5 := unhide lk4
    have h6 := unhide bm4
    have h7 := unhide tq
    have h8 := unhide tq11
    have h9 := unhide tp
    exact five_of (b1 := t4) (b2 := t7) (by omega) (by omega) (unhide nk0) (by omega) (by omega) (by omega) (unhide nk3))
  go_wp2_with (first | refine load_own rfl _ rfl b2 rfl x s' 41 (unhide R2) ?_ | refine wpList_store_row rfl 41 _ _ rfl b1 (ndC x s') rfl rfl 41 _ (unhide R1) (ndC_info x s') (by rw [unhide hz]; rfl) (ndC_one x s') ?_)
  have R1' := hide (setRow_heap _ _ _ (ndC x s') _ _ (unhide R1))
  refine bodyPost_ret (v := .agg (ndC x s')) (results_cell_row rfl _ _ b1 41 _ (0, 0) _ rfl (unhide R1') Tryz.underlying41 rfl (ndC_info x s')) rfl ⟨s', _, rfl, (unhide hO).setRow (fun i hi => ?_), ?_, below_setRow (unhide HB) (unhide hne).2.2.2 _⟩
  · have h1 := unhide lk0
    have h2 := unhide lk1
    have h3 := unhide lk2
    have h4 := unhide lk3
    have h5 := unhide lk4
    have h6 := unhide bn
    have h7 := unhide tq
    have h8 := unhide tq11
    rcases i with _ | _ | _ | _ | _ | i <;> simp only [five] <;> omega
  · have h1 := unhide hF
    refine ⟨fun i hi => ?_, h1.inj⟩
    have h2 := h1.low i hi
    simpa [World.setRow] using h2
end Go.Proofs.YtmafopckplpajaaGreatDoor
