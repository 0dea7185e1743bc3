/-
  Dashes: what both sides reckon.
-/
import Derived.Test.YthkcfgnnpcamiaaStrokeS
import Derived.Test.YthkcfgnnpcamiaaLinesK
namespace Go.Proofs.Ythkcfgnnpcamiaa
open Go.RowKit
set_option linter.unusedVariables false

noncomputable def lenP (a b : Pt) : Int := Classical.choose (len_is a.1 a.2 b.1 b.2)
theorem lenP_is (a b : Pt) : IsLen a.1 a.2 b.1 b.2 (lenP a b) := Classical.choose_spec (len_is a.1 a.2 b.1 b.2)
theorem len_bd {x0 y0 x1 y1 L : Int} (h : IsLen x0 y0 x1 y1 L) : 0 ≤ L ∧ L ≤ 23726566 := by
  unfold IsLen at h
  split at h
  · rename_i hp
    rw [Bool.and_eq_true] at hp
    obtain ⟨⟨a0, b0⟩, c0, d0⟩ := point_bd hp.1
    obtain ⟨⟨a1, b1⟩, c1, d1⟩ := point_bd hp.2
    have p1 := mul_bd (A := 16777216) (X := 16777216) (a := x1 - x0) (x := x1 - x0) (by omega) (by omega) (by omega) (by omega)
    have p2 := mul_bd (A := 16777216) (X := 16777216) (a := y1 - y0) (x := y1 - y0) (by omega) (by omega) (by omega) (by omega)
    have h0 := h.pos
    have h1 := h.sq
    refine ⟨h0, ?_⟩
    rcases Int.lt_or_le L 23726567 with h2 | h2
    · omega
    · have h3 := Int.mul_le_mul h2 h2 (by decide) h0
      omega
  · omega
theorem lenP_bd (a b : Pt) : 0 ≤ lenP a b ∧ lenP a b ≤ 23726566 := len_bd (lenP_is a b)

def patOk (a b : Pt) (l : Int) : Bool := inB l 1 50000000 && (pointOkB a.1 a.2 && pointOkB b.1 b.2)
def pointAtP (a b : Pt) (t l : Int) : Pt := if patOk a b l = true then (a.1 + rdivI ((b.1 - a.1) * clampI t 0 l) l, a.2 + rdivI ((b.2 - a.2) * clampI t 0 l) l) else a

/-- Where a walk is: its dash, what is left of it, the stretch under way, those that are done. -/
structure St where
  k : Nat
  left : Int
  now : List Pt
  out : List (List Pt)
def turnS (m : Nat) (ds : Nat → Int) (p : Pt) (s : St) : St :=
  ⟨(s.k + 1) % m, ds ((s.k + 1) % m), if s.k % 2 = 0 then [] else s.now ++ [p], if s.k % 2 = 0 then s.out ++ [s.now ++ [p]] else s.out⟩
def stopS (b : Pt) (l t : Int) (s : St) : St := ⟨s.k, s.left - (l - t), if 0 < l ∧ s.k % 2 = 0 then s.now ++ [b] else s.now, s.out⟩
def pieceS (m : Nat) (ds : Nat → Int) (a b : Pt) (l : Int) : Nat → Int → St → St
  | 0, _, s => s
  | f + 1, t, s => if l - t ≤ s.left then stopS b l t s else pieceS m ds a b l f (t + s.left) (turnS m ds (pointAtP a b (t + s.left) l) s)
theorem piece_stop {m : Nat} {ds : Nat → Int} {a b : Pt} {l t : Int} {f : Nat} {s : St} (h : l - t ≤ s.left) : pieceS m ds a b l (f + 1) t s = stopS b l t s := if_pos h
theorem piece_turn {m : Nat} {ds : Nat → Int} {a b : Pt} {l t : Int} {f : Nat} {s : St} (h : ¬ l - t ≤ s.left) : pieceS m ds a b l (f + 1) t s = pieceS m ds a b l f (t + s.left) (turnS m ds (pointAtP a b (t + s.left) l) s) := if_neg h
def begS (m : Nat) (ds : Nat → Int) : Nat → Nat → Int → Nat × Int
  | 0, k, x => (k, x)
  | f + 1, k, x => if 0 < x then (k, x) else begS m ds f ((k + 1) % m) (x + ds ((k + 1) % m))
def begP (m : Nat) (ds : Nat → Int) (ph : Int) : Nat × Int := begS m ds (ph.toNat + 1) 0 (ds 0 - ph)
def startS (m : Nat) (ds : Nat → Int) (ph : Int) (p : Pt) : St := ⟨(begP m ds ph).1, (begP m ds ph).2, if (begP m ds ph).1 % 2 = 0 then [p] else [], []⟩
noncomputable def lineS (m : Nat) (ds : Nat → Int) (pf : Nat → Pt) (s0 : St) : Nat → St
  | 0 => s0
  | j + 1 => pieceS m ds (pf j) (pf (j + 1)) (lenP (pf j) (pf (j + 1))) ((lenP (pf j) (pf (j + 1))).toNat + 2) 0 (lineS m ds pf s0 j)
def bigL (l : List Pt) : Bool := decide (1 < l.length)
def lastS (s : St) : List (List Pt) := if s.k % 2 = 0 then s.out ++ [s.now] else s.out
/-- Dashes that are right: as many as m, each of ds. -/
def dashOkB (m : Nat) (ds : Nat → Int) : Bool := decide (m % 2 = 0 ∧ m ≤ 4 ∧ ∀ i, i < m → 1 ≤ ds i ∧ ds i ≤ 20000)
theorem dashOk_iff {m : Nat} {ds : Nat → Int} : dashOkB m ds = true ↔ m % 2 = 0 ∧ m ≤ 4 ∧ ∀ i, i < m → 1 ≤ ds i ∧ ds i ≤ 20000 := by unfold dashOkB; exact decide_eq_true_iff
def lineOk (n : Nat) (pf : Nat → Pt) : Prop := ∀ i, i < n → pointOkB (pf i).1 (pf i).2 = true
def dashGo (n : Nat) (pf : Nat → Pt) (m : Nat) (ds : Nat → Int) (ph : Int) : Prop := dashOkB m ds = true ∧ inB ph 0 20000 = true ∧ 2 ≤ n ∧ lineOk n pf
noncomputable def dashL (n : Nat) (pf : Nat → Pt) (m : Nat) (ds : Nat → Int) (ph : Int) : List (List Pt) :=
  @ite _ (dashGo n pf m ds ph) (Classical.propDecidable _) (if m = 0 then [(List.range n).map pf] else (lastS (lineS m ds pf (startS m ds ph (pf 0)) (n - 1))).filter bigL) []
theorem dashL_no {n : Nat} {pf : Nat → Pt} {m : Nat} {ds : Nat → Int} {ph : Int} (h : ¬ dashGo n pf m ds ph) : dashL n pf m ds ph = [] := if_neg h
theorem dashL_none {n : Nat} {pf : Nat → Pt} {m : Nat} {ds : Nat → Int} {ph : Int} (h : dashGo n pf m ds ph) (hm : m = 0) : dashL n pf m ds ph = [(List.range n).map pf] := by
  unfold dashL; rw [if_pos h, if_pos hm]
theorem dashL_yes {n : Nat} {pf : Nat → Pt} {m : Nat} {ds : Nat → Int} {ph : Int} (h : dashGo n pf m ds ph) (hm : m ≠ 0) : dashL n pf m ds ph = (lastS (lineS m ds pf (startS m ds ph (pf 0)) (n - 1))).filter bigL := by
  unfold dashL; rw [if_pos h, if_neg hm]

/-- m dashes, an even number of them, each of 1 .. 20000. -/
structure Dsh (m : Nat) (ds : Nat → Int) : Prop where
  pos : 0 < m
  ev : m % 2 = 0
  le : m ≤ 4
  bd : ∀ i, i < m → 1 ≤ ds i ∧ ds i ≤ 20000
theorem Dsh.cases {m : Nat} {ds : Nat → Int} (h : Dsh m ds) : m = 2 ∨ m = 4 := by have := h.pos; have := h.ev; have := h.le; omega
theorem Dsh.nx {m : Nat} {ds : Nat → Int} (h : Dsh m ds) (k : Nat) : (k + 1) % m < m := Nat.mod_lt _ h.pos
theorem Dsh.par {m k : Nat} {ds : Nat → Int} (h : Dsh m ds) : (k + 1) % m % 2 = (k + 1) % 2 := by rcases h.cases with rfl | rfl <;> omega

/-- What holds of a walk behind j pieces and C units. -/
structure Fine (m : Nat) (j : Nat) (C : Int) (s : St) : Prop where
  kl : s.k < m
  l0 : 0 ≤ s.left
  l1 : s.left ≤ 20000
  odd : s.k % 2 ≠ 0 → s.now = []
  nowl : s.now.length ≤ j + 1
  outl : ∀ l ∈ s.out, l.length ≤ j + 2
  cnt : ∃ T : Nat, 2 * s.out.length ≤ T + s.k % 2 ∧ (T : Int) ≤ C ∧ (s.left = 0 → (T : Int) + 1 ≤ C)
theorem Fine.count {m j : Nat} {C : Int} {s : St} (h : Fine m j C s) : 2 * (s.out.length : Int) ≤ C + 1 := by
  obtain ⟨T, h1, h2, _⟩ := h.cnt
  omega
theorem Fine.mono {m j : Nat} {C C' : Int} {s : St} (h : Fine m j C s) (hC : C ≤ C') : Fine m j C' s := by
  obtain ⟨T, h1, h2, h3⟩ := h.cnt
  exact ⟨h.kl, h.l0, h.l1, h.odd, h.nowl, h.outl, T, h1, by omega, fun e => by have := h3 e; omega⟩
theorem Fine.turn {m j : Nat} {ds : Nat → Int} {C : Int} {s : St} {p : Pt} (hd : Dsh m ds) (h : Fine m j C s) : Fine m j (C + s.left) (turnS m ds p s) := by
  have hb := hd.bd _ (hd.nx s.k)
  have hp := hd.par (k := s.k)
  obtain ⟨T, h1, h2, h3⟩ := h.cnt
  have h0 := h.l0
  refine ⟨hd.nx _, by simp only [turnS]; omega, by simp only [turnS]; omega, ?_, ?_, ?_, T + 1, ?_, ?_, ?_⟩
  · intro ho
    simp only [turnS] at ho ⊢
    rw [if_pos (by omega)]
  · simp only [turnS]
    split
    · simp
    · rename_i hk
      rw [h.odd hk]; simp
  · intro l hl
    simp only [turnS] at hl
    split at hl
    · rw [List.mem_append, List.mem_singleton] at hl
      rcases hl with hl | rfl
      · exact h.outl l hl
      · have := h.nowl; simp; omega
    · exact h.outl l hl
  · simp only [turnS]
    split
    · simp only [List.length_append, List.length_singleton]; omega
    · omega
  · by_cases e : s.left = 0
    · have := h3 e; omega
    · omega
  · intro e
    simp only [turnS] at e
    omega
theorem Fine.stop {m j : Nat} {C l t : Int} {s : St} {b : Pt} (h : Fine m j (C + t) s) (ht : t ≤ l) (hl : l - t ≤ s.left) : Fine m (j + 1) (C + l) (stopS b l t s) := by
  obtain ⟨T, h1, h2, h3⟩ := h.cnt
  have h0 := h.l0
  have h9 := h.l1
  refine ⟨h.kl, by simp only [stopS]; omega, by simp only [stopS]; omega, ?_, ?_, ?_, T, h1, by omega, ?_⟩
  · intro ho
    simp only [stopS] at ho ⊢
    rw [if_neg (fun hc => ho hc.2)]
    exact h.odd ho
  · have := h.nowl
    simp only [stopS]
    split
    · simp; omega
    · omega
  · intro x hx
    have := h.outl x hx
    omega
  · intro e
    simp only [stopS] at e
    by_cases e1 : s.left = 0
    · have := h3 e1; omega
    · omega
/-- Enough rounds. -/
def enough (l t : Int) (s : St) (f : Nat) : Prop := (l - t) + (if s.left = 0 then 2 else 1) ≤ (f : Int)
theorem enough_turn {m : Nat} {ds : Nat → Int} {l t : Int} {s : St} {f : Nat} {p : Pt} (hd : Dsh m ds) (h0 : 0 ≤ s.left) (h : enough l t s (f + 1)) : enough l (t + s.left) (turnS m ds p s) f := by
  have hb := hd.bd _ (hd.nx s.k)
  unfold enough at h ⊢
  rw [if_neg (by simp only [turnS]; omega)]
  split at h <;> omega
theorem enough_pos {l t : Int} {s : St} {f : Nat} (h : enough l t s f) (ht : t ≤ l) : ∃ g, f = g + 1 := by
  unfold enough at h
  refine ⟨f - 1, ?_⟩
  split at h <;> omega
theorem enough_start {l : Int} (h : 0 ≤ l) (s : St) : enough l 0 s (l.toNat + 2) := by
  unfold enough
  split <;> omega
theorem piece_fine {m j : Nat} {ds : Nat → Int} {a b : Pt} {C l : Int} (hd : Dsh m ds) : ∀ (f : Nat) (t : Int) (s : St), Fine m j (C + t) s → t ≤ l → enough l t s f → Fine m (j + 1) (C + l) (pieceS m ds a b l f t s)
  | 0, t, s, h, ht, hf => by obtain ⟨g, e⟩ := enough_pos hf ht; omega
  | f + 1, t, s, h, ht, hf => by
    by_cases hc : l - t ≤ s.left
    · rw [piece_stop hc]; exact h.stop ht hc
    · rw [piece_turn hc]
      refine piece_fine hd f _ _ ?_ (by omega) (enough_turn hd h.l0 hf)
      rw [show C + (t + s.left) = C + t + s.left by omega]
      exact h.turn hd
theorem line_fine {m : Nat} {ds : Nat → Int} {pf : Nat → Pt} {s0 : St} (hd : Dsh m ds) (h0 : Fine m 0 0 s0) : ∀ j, Fine m j ((j : Int) * 23726566) (lineS m ds pf s0 j)
  | 0 => by simpa [lineS] using h0
  | j + 1 => by
    have ih := line_fine (pf := pf) hd h0 j
    have hb := lenP_bd (pf j) (pf (j + 1))
    have := piece_fine (a := pf j) (b := pf (j + 1)) (C := (j : Int) * 23726566) (l := lenP (pf j) (pf (j + 1))) hd ((lenP (pf j) (pf (j + 1))).toNat + 2) 0 (lineS m ds pf s0 j) (by simpa using ih) hb.1 (enough_start hb.1 _)
    exact this.mono (by push_cast; omega)

theorem beg_end {m : Nat} {ds : Nat → Int} (hd : Dsh m ds) : ∀ (f k : Nat) (x : Int), k < m → x ≤ 20000 → 1 - x ≤ (f : Int) → (begS m ds f k x).1 < m ∧ 1 ≤ (begS m ds f k x).2 ∧ (begS m ds f k x).2 ≤ 20000
  | 0, k, x, hk, hx, hf => by simp only [begS]; omega
  | f + 1, k, x, hk, hx, hf => by
    have hb := hd.bd _ (hd.nx k)
    simp only [begS]
    split
    · simp only; omega
    · exact beg_end hd f _ _ (hd.nx k) (by omega) (by omega)
theorem beg_fuel {m : Nat} {ds : Nat → Int} (hd : Dsh m ds) : ∀ (f f' k : Nat) (x : Int), 1 - x ≤ (f : Int) → 1 - x ≤ (f' : Int) → begS m ds f k x = begS m ds f' k x
  | 0, 0, k, x, h, h' => rfl
  | 0, f' + 1, k, x, h, h' => by simp only [begS]; rw [if_pos (by omega)]
  | f + 1, 0, k, x, h, h' => by simp only [begS]; rw [if_pos (by omega)]
  | f + 1, f' + 1, k, x, h, h' => by
    have hb := hd.bd _ (hd.nx k)
    simp only [begS]
    split
    · rfl
    · exact beg_fuel hd f f' _ _ (by omega) (by omega)
theorem beg_go {m : Nat} {ds : Nat → Int} (hd : Dsh m ds) {f f' k : Nat} {x : Int} (hx : x ≤ 0) (h : 1 - x ≤ (f : Int)) (h' : 1 - (x + ds ((k + 1) % m)) ≤ (f' : Int)) : begS m ds f k x = begS m ds f' ((k + 1) % m) (x + ds ((k + 1) % m)) := by
  have hb := hd.bd _ (hd.nx k)
  cases f with
  | zero => omega
  | succ f =>
    simp only [begS]
    rw [if_neg (by omega)]
    exact beg_fuel hd f f' _ _ (by omega) h'
theorem beg_here {m : Nat} {ds : Nat → Int} {f k : Nat} {x : Int} (hx : 0 < x) : begS m ds f k x = (k, x) := by
  cases f with
  | zero => rfl
  | succ f => simp only [begS]; rw [if_pos hx]
theorem begP_ok {m : Nat} {ds : Nat → Int} (hd : Dsh m ds) {ph : Int} (h : 0 ≤ ph) : (begP m ds ph).1 < m ∧ 1 ≤ (begP m ds ph).2 ∧ (begP m ds ph).2 ≤ 20000 := by
  have hb := hd.bd 0 hd.pos
  exact beg_end hd _ _ _ hd.pos (by omega) (by omega)
/-- The sum of the first k dashes. -/
def sumN (ds : Nat → Int) : Nat → Int
  | 0 => 0
  | k + 1 => sumN ds k + ds k
theorem sumN_bd {m : Nat} {ds : Nat → Int} (hb : ∀ i, i < m → 1 ≤ ds i ∧ ds i ≤ 20000) : ∀ k, k ≤ m → (k : Int) ≤ sumN ds k ∧ sumN ds k ≤ 20000 * (k : Int)
  | 0, _ => by simp [sumN]
  | k + 1, h => by have := sumN_bd hb k (by omega); have := hb k (by omega); simp only [sumN]; omega
theorem sumN_mono {m : Nat} {ds : Nat → Int} (hb : ∀ i, i < m → 1 ≤ ds i ∧ ds i ≤ 20000) {j : Nat} : ∀ k, k ≤ m → j ≤ k → sumN ds j + ((k : Int) - j) ≤ sumN ds k
  | 0, _, hj => by obtain rfl : j = 0 := by omega
                   simp
  | k + 1, h, hj => by
    by_cases e : j = k + 1
    · subst e; omega
    · have := sumN_mono hb k (by omega) (by omega : j ≤ k); have := hb k (by omega); simp only [sumN]; omega
theorem begP_shift {m : Nat} {ds : Nat → Int} (hd : Dsh m ds) {ph : Int} (h : sumN ds m ≤ ph) : begP m ds ph = begP m ds (ph - sumN ds m) := by
  have hb := hd.bd
  have hs := sumN_bd hb m (Nat.le_refl _)
  have hp := hd.pos
  unfold begP
  rcases hd.cases with rfl | rfl
  · have b0 := hb 0 (by omega)
    have b1 := hb 1 (by omega)
    have e : sumN ds 2 = ds 0 + ds 1 := by simp [sumN]
    rw [e] at h hs ⊢
    rw [beg_go hd (f' := ph.toNat) (k := 0) (by omega) (by omega) (by simp; omega)]
    simp only [show (0 + 1) % 2 = 1 from rfl]
    rw [beg_go hd (f' := ph.toNat) (k := 1) (by omega) (by omega) (by simp; omega)]
    simp only [show (1 + 1) % 2 = 0 from rfl]
    rw [show ds 0 - ph + ds 1 + ds 0 = ds 0 - (ph - (ds 0 + ds 1)) by omega]
    exact beg_fuel hd _ _ _ _ (by omega) (by omega)
  · have b0 := hb 0 (by omega)
    have b1 := hb 1 (by omega)
    have b2 := hb 2 (by omega)
    have b3 := hb 3 (by omega)
    have e : sumN ds 4 = ds 0 + ds 1 + ds 2 + ds 3 := by simp [sumN]
    rw [e] at h hs ⊢
    rw [beg_go hd (f' := ph.toNat) (k := 0) (by omega) (by omega) (by simp; omega)]
    simp only [show (0 + 1) % 4 = 1 from rfl]
    rw [beg_go hd (f' := ph.toNat) (k := 1) (by omega) (by omega) (by simp; omega)]
    simp only [show (1 + 1) % 4 = 2 from rfl]
    rw [beg_go hd (f' := ph.toNat) (k := 2) (by omega) (by omega) (by simp; omega)]
    simp only [show (2 + 1) % 4 = 3 from rfl]
    rw [beg_go hd (f' := ph.toNat) (k := 3) (by omega) (by omega) (by simp; omega)]
    simp only [show (3 + 1) % 4 = 0 from rfl]
    rw [show ds 0 - ph + ds 1 + ds 2 + ds 3 + ds 0 = ds 0 - (ph - (ds 0 + ds 1 + ds 2 + ds 3)) by omega]
    exact beg_fuel hd _ _ _ _ (by omega) (by omega)
theorem begP_many {m : Nat} {ds : Nat → Int} (hd : Dsh m ds) {ph : Int} (h : 0 ≤ ph) : ∀ q : Nat, begP m ds (ph + (q : Int) * sumN ds m) = begP m ds ph
  | 0 => by simp
  | q + 1 => by
    have hs := sumN_bd hd.bd m (Nat.le_refl _)
    have hq : 0 ≤ (q : Int) * sumN ds m := Int.mul_nonneg (by omega) (by omega)
    have e : ((q + 1 : Nat) : Int) * sumN ds m = (q : Int) * sumN ds m + sumN ds m := by push_cast; rw [Int.add_mul, Int.one_mul]
    rw [e, begP_shift hd (by omega), show ph + ((q : Int) * sumN ds m + sumN ds m) - sumN ds m = ph + (q : Int) * sumN ds m by omega]
    exact begP_many hd h q
theorem begP_mod {m : Nat} {ds : Nat → Int} (hd : Dsh m ds) {ph : Int} (h : 0 ≤ ph) : begP m ds ph = begP m ds (ph % sumN ds m) := by
  have hs := sumN_bd hd.bd m (Nat.le_refl _)
  have hp := hd.pos
  have h1 := Int.emod_nonneg ph (show sumN ds m ≠ 0 by omega)
  have h2 := begP_many hd h1 (ph / sumN ds m).toNat
  have h3 : 0 ≤ ph / sumN ds m := Int.ediv_nonneg h (by omega)
  rw [show (((ph / sumN ds m).toNat : Nat) : Int) = ph / sumN ds m by omega] at h2
  have h4 := Int.emod_add_mul_ediv ph (sumN ds m)
  rw [Int.mul_comm] at h4
  rw [h4] at h2
  exact h2
/-- The specification's search for the dash of a phase below their sum. -/
theorem beg_seek {m : Nat} {ds : Nat → Int} (hd : Dsh m ds) {k : Nat} {q : Int} (hk : k < m) (h0 : 0 ≤ q) (h : ds k ≤ q) (hq : q < sumN ds m - sumN ds k) : k + 1 < m ∧ 0 ≤ q - ds k ∧ q - ds k < sumN ds m - sumN ds (k + 1) ∧ begS m ds (q.toNat + 1) k (ds k - q) = begS m ds ((q - ds k).toNat + 1) (k + 1) (ds (k + 1) - (q - ds k)) := by
  have hb := hd.bd k hk
  have h1 : k + 1 < m := by
    rcases Nat.lt_or_ge (k + 1) m with h1 | h1
    · exact h1
    · obtain rfl : m = k + 1 := by omega
      simp only [sumN] at hq
      omega
  have hb1 := hd.bd (k + 1) h1
  refine ⟨h1, by omega, by simp only [sumN]; omega, ?_⟩
  rw [beg_go hd (f' := (q - ds k).toNat + 1) (by omega) (by omega) (by rw [Nat.mod_eq_of_lt h1]; omega), Nat.mod_eq_of_lt h1, show ds k - q + ds (k + 1) = ds (k + 1) - (q - ds k) by omega]
theorem start_fine {m : Nat} {ds : Nat → Int} (hd : Dsh m ds) {ph : Int} (h : 0 ≤ ph) (p : Pt) : Fine m 0 0 (startS m ds ph p) := by
  obtain ⟨h1, h2, h3⟩ := begP_ok hd h
  refine ⟨h1, by simp only [startS]; omega, h3, ?_, ?_, by simp [startS], 0, by simp [startS], by omega, ?_⟩
  · intro ho; simp only [startS] at ho ⊢; rw [if_neg ho]
  · simp only [startS]; split <;> simp
  · intro e; simp only [startS] at e; omega
/-- Behind j pieces of n points. -/
theorem walk_fine {m : Nat} {ds : Nat → Int} (hd : Dsh m ds) {ph : Int} (h : 0 ≤ ph) (pf : Nat → Pt) (j : Nat) : Fine m j ((j : Int) * 23726566) (lineS m ds pf (startS m ds ph (pf 0)) j) := line_fine hd (start_fine hd h _) j
theorem dash_dsh {m : Nat} {ds : Nat → Int} (h : dashOkB m ds = true) (hm : m ≠ 0) : Dsh m ds := by
  obtain ⟨h1, h2, h3⟩ := dashOk_iff.1 h
  exact ⟨by omega, h1, h2, h3⟩
theorem last_len {m j : Nat} {C : Int} {s : St} (h : Fine m j C s) : 2 * ((lastS s).length : Int) ≤ C + 3 ∧ ∀ l ∈ lastS s, l.length ≤ j + 2 := by
  have h1 := h.count
  have h2 := h.nowl
  unfold lastS
  split
  · refine ⟨by simp only [List.length_append, List.length_singleton]; push_cast; omega, ?_⟩
    intro l hl
    rw [List.mem_append, List.mem_singleton] at hl
    rcases hl with hl | rfl
    · exact h.outl l hl
    · omega
  · exact ⟨by omega, h.outl⟩
/-- How many lists there are, and how long they are. -/
theorem dashL_len {n : Nat} {pf : Nat → Pt} {m : Nat} {ds : Nat → Int} {ph : Int} (hn : n ≤ 349525) : (dashL n pf m ds ph).length ≤ 4200000000000 ∧ ∀ l ∈ dashL n pf m ds ph, l.length ≤ 349530 := by
  by_cases hg : dashGo n pf m ds ph
  · by_cases hm : m = 0
    · rw [dashL_none hg hm]
      refine ⟨by simp, ?_⟩
      intro l hl
      simp only [List.mem_singleton] at hl
      rw [hl]; simp; omega
    · rw [dashL_yes hg hm]
      have hf := walk_fine (dash_dsh hg.1 hm) (inB_true.1 hg.2.1).1 pf (n - 1)
      have hl := last_len hf
      have hn2 := hg.2.2.1
      refine ⟨?_, ?_⟩
      · have := List.length_filter_le bigL (lastS (lineS m ds pf (startS m ds ph (pf 0)) (n - 1)))
        have h9 : (((n - 1 : Nat) : Int)) * 23726566 ≤ 349524 * 23726566 := by omega
        omega
      · intro l hm'
        have := hl.2 l (List.mem_filter.1 hm').1
        omega
  · rw [dashL_no hg]; simp
end Go.Proofs.Ythkcfgnnpcamiaa
