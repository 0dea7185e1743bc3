/-
  Dashes along one row: which units are drawn; the law of it.
-/
import Derived.Test.YthkcfgnnpcamiaaDashT
import Derived.Test.YthkcfgnnpcamiaaQuot
namespace Go.Proofs.Ythkcfgnnpcamiaa
open Go.RowKit
set_option linter.unusedVariables false

/-- A phase that goes on within a dash. -/
theorem beg_in {m : Nat} {ds : Nat → Int} (hd : Dsh m ds) : ∀ (f k : Nat) (x r : Int), 1 - x ≤ (f : Int) → 0 ≤ r → r < (begS m ds f k x).2 → ∀ f' : Nat, 1 - (x - r) ≤ (f' : Int) → begS m ds f' k (x - r) = ((begS m ds f k x).1, (begS m ds f k x).2 - r)
  | 0, k, x, r, hf, h0, h1, f', hf' => by
    simp only [begS] at h1 ⊢
    exact beg_here (by omega)
  | f + 1, k, x, r, hf, h0, h1, f', hf' => by
    have hb := hd.bd _ (hd.nx k)
    simp only [begS] at h1 ⊢
    by_cases hx : 0 < x
    · rw [if_pos hx] at h1 ⊢
      exact beg_here (by simp only at h1; omega)
    · rw [if_neg hx] at h1 ⊢
      rw [beg_go hd (f' := (1 - (x - r)).toNat) (by omega) hf' (by omega), show x - r + ds ((k + 1) % m) = x + ds ((k + 1) % m) - r by omega]
      exact beg_in hd f _ _ r (by omega) h0 h1 _ (by omega)
theorem beg_pos {m : Nat} {ds : Nat → Int} (hd : Dsh m ds) : ∀ (f k : Nat) (x : Int), 1 - x ≤ (f : Int) → 1 ≤ (begS m ds f k x).2
  | 0, k, x, hf => by simp only [begS]; omega
  | f + 1, k, x, hf => by
    have hb := hd.bd _ (hd.nx k)
    simp only [begS]
    split
    · simp only; omega
    · exact beg_pos hd f _ _ (by omega)
/-- A phase that goes on to the next dash. -/
theorem beg_next {m : Nat} {ds : Nat → Int} (hd : Dsh m ds) : ∀ (f k : Nat) (x : Int), 1 - x ≤ (f : Int) → ∀ f' : Nat, 1 - (x - (begS m ds f k x).2) ≤ (f' : Int) → begS m ds f' k (x - (begS m ds f k x).2) = (((begS m ds f k x).1 + 1) % m, ds (((begS m ds f k x).1 + 1) % m))
  | 0, k, x, hf, f', hf' => by
    have hb := hd.bd _ (hd.nx k)
    simp only [begS, Int.sub_self] at hf' ⊢
    rw [beg_go hd (f' := 1) (by omega) hf' (by push_cast; omega), Int.zero_add]
    exact beg_here (by omega)
  | f + 1, k, x, hf, f', hf' => by
    have hb := hd.bd _ (hd.nx k)
    simp only [begS] at hf' ⊢
    by_cases hx : 0 < x
    · rw [if_pos hx] at hf' ⊢
      simp only [Int.sub_self] at hf' ⊢
      rw [beg_go hd (f' := 1) (by omega) hf' (by push_cast; omega), Int.zero_add]
      exact beg_here (by omega)
    · rw [if_neg hx] at hf' ⊢
      have hp := beg_pos hd f ((k + 1) % m) (x + ds ((k + 1) % m)) (by omega)
      rw [beg_go hd (f' := (1 - (x - (begS m ds f ((k + 1) % m) (x + ds ((k + 1) % m))).2)).toNat) (by omega) hf' (by omega), show x - (begS m ds f ((k + 1) % m) (x + ds ((k + 1) % m))).2 + ds ((k + 1) % m) = x + ds ((k + 1) % m) - (begS m ds f ((k + 1) % m) (x + ds ((k + 1) % m))).2 by omega]
      exact beg_next hd f _ _ (by omega) _ (by omega)
theorem begP_in {m : Nat} {ds : Nat → Int} (hd : Dsh m ds) {ph r : Int} (hp : 0 ≤ ph) (h0 : 0 ≤ r) (h1 : r < (begP m ds ph).2) : begP m ds (ph + r) = ((begP m ds ph).1, (begP m ds ph).2 - r) := by
  have hb := hd.bd 0 hd.pos
  have := beg_in hd (ph.toNat + 1) 0 (ds 0 - ph) r (by omega) h0 h1 ((ph + r).toNat + 1) (by omega)
  rw [show ds 0 - ph - r = ds 0 - (ph + r) by omega] at this
  exact this
theorem begP_next {m : Nat} {ds : Nat → Int} (hd : Dsh m ds) {ph : Int} (hp : 0 ≤ ph) : begP m ds (ph + (begP m ds ph).2) = (((begP m ds ph).1 + 1) % m, ds (((begP m ds ph).1 + 1) % m)) := by
  have hb := hd.bd 0 hd.pos
  have h2 := (begP_ok hd hp).2.1
  have := beg_next hd (ph.toNat + 1) 0 (ds 0 - ph) (by omega) ((ph + (begP m ds ph).2).toNat + 1) (by
    show 1 - (ds 0 - ph - (begP m ds ph).2) ≤ _
    omega)
  rw [show ds 0 - ph - (begS m ds (ph.toNat + 1) 0 (ds 0 - ph)).2 = ds 0 - (ph + (begP m ds ph).2) by show ds 0 - ph - (begP m ds ph).2 = _; omega] at this
  exact this

/-- A stretch along the row: from a unit to another. -/
def Seg (l : List Pt) (a b : Int) : Prop := l = [(a, 0), (b, 0)]
/-- Unit x is drawn by one of the stretches. -/
def Drawn (L : List (List Pt)) (x : Int) : Prop := ∃ l ∈ L, ∃ a b, Seg l a b ∧ a ≤ x ∧ x < b
/-- Where the walk along the row from 0 to n is behind t units. -/
structure RowS (m : Nat) (ds : Nat → Int) (ph n t : Int) (s : St) : Prop where
  beg : (s.k, s.left) = begP m ds (ph + t)
  segs : ∀ l ∈ s.out, ∃ a b, Seg l a b ∧ a ≤ b ∧ b ≤ t
  now : s.k % 2 = 0 → ∃ c, s.now = [(c, 0)] ∧ c ≤ t ∧ ∀ x, 0 ≤ x → x < t → ((Drawn s.out x ∨ c ≤ x) ↔ (begP m ds (ph + x)).1 % 2 = 0)
  gap : s.k % 2 ≠ 0 → s.now = [] ∧ ∀ x, 0 ≤ x → x < t → (Drawn s.out x ↔ (begP m ds (ph + x)).1 % 2 = 0)
theorem row_start {m : Nat} {ds : Nat → Int} {ph n : Int} (hd : Dsh m ds) (hp : 0 ≤ ph) : RowS m ds ph n 0 (startS m ds ph (0, 0)) := by
  refine ⟨by simp [startS], by simp [startS], ?_, ?_⟩
  · intro hk
    refine ⟨0, ?_, Int.le_refl _, fun x h0 h1 => by omega⟩
    simp only [startS] at hk ⊢
    rw [if_pos hk]
  · intro hk
    simp only [startS] at hk ⊢
    rw [if_neg hk]
    exact ⟨rfl, fun x h0 h1 => by omega⟩
theorem drawn_more {L : List (List Pt)} {c e x : Int} : Drawn (L ++ [[(c, 0), (e, 0)]]) x ↔ (Drawn L x ∨ (c ≤ x ∧ x < e)) := by
  constructor
  · rintro ⟨l, hl, a, b, hs, h1, h2⟩
    rw [List.mem_append, List.mem_singleton] at hl
    rcases hl with hl | rfl
    · exact .inl ⟨l, hl, a, b, hs, h1, h2⟩
    · unfold Seg at hs
      simp at hs
      right
      omega
  · rintro (⟨l, hl, a, b, hs, h1, h2⟩ | ⟨h1, h2⟩)
    · exact ⟨l, by simp [hl], a, b, hs, h1, h2⟩
    · exact ⟨_, by simp, c, e, rfl, h1, h2⟩
theorem row_turn {m : Nat} {ds : Nat → Int} {ph n t : Int} {s : St} (hd : Dsh m ds) (hp : 0 ≤ ph) (ht : 0 ≤ t) (h : RowS m ds ph n t s) (hl : 0 < s.left) : RowS m ds ph n (t + s.left) (turnS m ds (t + s.left, 0) s) := by
  have hbg := h.beg
  have hk1 : (begP m ds (ph + t)).1 = s.k := by rw [← hbg]
  have hk2 : (begP m ds (ph + t)).2 = s.left := by rw [← hbg]
  have hnx := begP_next hd (ph := ph + t) (by omega)
  rw [hk1, hk2, show ph + t + s.left = ph + (t + s.left) by omega] at hnx
  have hin : ∀ x, t ≤ x → x < t + s.left → (begP m ds (ph + x)).1 = s.k := by
    intro x h1 h2
    have := begP_in hd (ph := ph + t) (r := x - t) (by omega) (by omega) (by rw [hk2]; omega)
    rw [show ph + t + (x - t) = ph + x by omega, hk1] at this
    rw [this]
  have hpar := hd.par (k := s.k)
  by_cases hk : s.k % 2 = 0
  · obtain ⟨c, hc, hct, hx⟩ := h.now hk
    refine ⟨by rw [hnx]; rfl, ?_, ?_, ?_⟩
    · intro l hl'
      simp only [turnS] at hl'
      rw [if_pos hk, List.mem_append, List.mem_singleton] at hl'
      rcases hl' with hl' | rfl
      · obtain ⟨a, b, h1, h2, h3⟩ := h.segs l hl'
        exact ⟨a, b, h1, h2, by omega⟩
      · exact ⟨c, t + s.left, by rw [hc]; rfl, by omega, Int.le_refl _⟩
    · intro hk'; simp only [turnS] at hk'; omega
    · intro _
      simp only [turnS]
      rw [if_pos hk, if_pos hk, hc]
      refine ⟨rfl, ?_⟩
      intro x h0 h1
      show Drawn (s.out ++ [[(c, 0), (t + s.left, 0)]]) x ↔ _
      rw [drawn_more]
      by_cases hxt : x < t
      · rw [← hx x h0 hxt]
        constructor
        · rintro (h2 | h2)
          · exact .inl h2
          · exact .inr h2.1
        · rintro (h2 | h2)
          · exact .inl h2
          · exact .inr ⟨h2, h1⟩
      · rw [hin x (by omega) h1]
        exact ⟨fun _ => hk, fun _ => .inr ⟨by omega, h1⟩⟩
  · obtain ⟨hc, hx⟩ := h.gap hk
    refine ⟨by rw [hnx]; rfl, ?_, ?_, ?_⟩
    · intro l hl'
      simp only [turnS] at hl'
      rw [if_neg hk] at hl'
      obtain ⟨a, b, h1, h2, h3⟩ := h.segs l hl'
      exact ⟨a, b, h1, h2, by omega⟩
    · intro _
      refine ⟨t + s.left, by simp only [turnS]; rw [if_neg hk, hc]; rfl, Int.le_refl _, ?_⟩
      intro x h0 h1
      simp only [turnS]
      rw [if_neg hk]
      by_cases hxt : x < t
      · rw [← hx x h0 hxt]
        constructor
        · rintro (h2 | h2)
          · exact h2
          · omega
        · exact fun h2 => .inl h2
      · rw [hin x (by omega) h1]
        constructor
        · rintro (⟨l, hl', a, b, hs, h2, h3⟩ | h2)
          · obtain ⟨a', b', h4, h5, h6⟩ := h.segs l hl'
            unfold Seg at hs h4
            rw [hs] at h4
            simp at h4
            omega
          · omega
        · exact fun h2 => absurd h2 hk
    · intro hk'; simp only [turnS] at hk'; omega
/-- What the walk along the row hands back. -/
structure RowL (m : Nat) (ds : Nat → Int) (ph n : Int) (L : List (List Pt)) : Prop where
  segs : ∀ l ∈ L, ∃ a b, Seg l a b
  drawn : ∀ x, 0 ≤ x → x < n → (Drawn L x ↔ (begP m ds (ph + x)).1 % 2 = 0)
theorem row_stop {m : Nat} {ds : Nat → Int} {ph n t : Int} {s : St} (hd : Dsh m ds) (hp : 0 ≤ ph) (hn : 0 < n) (ht : 0 ≤ t) (htn : t ≤ n) (h : RowS m ds ph n t s) (hl : n - t ≤ s.left) : RowL m ds ph n (lastS (stopS (n, 0) n t s)) := by
  have hbg := h.beg
  have hk1 : (begP m ds (ph + t)).1 = s.k := by rw [← hbg]
  have hk2 : (begP m ds (ph + t)).2 = s.left := by rw [← hbg]
  have hin : ∀ x, t ≤ x → x < n → (begP m ds (ph + x)).1 = s.k := by
    intro x h1 h2
    have := begP_in hd (ph := ph + t) (r := x - t) (by omega) (by omega) (by rw [hk2]; omega)
    rw [show ph + t + (x - t) = ph + x by omega, hk1] at this
    rw [this]
  unfold lastS stopS
  dsimp only
  by_cases hk : s.k % 2 = 0
  · obtain ⟨c, hc, hct, hx⟩ := h.now hk
    rw [if_pos hk, if_pos ⟨hn, hk⟩, hc]
    refine ⟨?_, ?_⟩
    · intro l hl'
      rw [List.mem_append, List.mem_singleton] at hl'
      rcases hl' with hl' | rfl
      · obtain ⟨a, b, h1, _⟩ := h.segs l hl'
        exact ⟨a, b, h1⟩
      · exact ⟨c, n, rfl⟩
    · intro x h0 h1
      show Drawn (s.out ++ [[(c, 0), (n, 0)]]) x ↔ _
      rw [drawn_more]
      by_cases hxt : x < t
      · rw [← hx x h0 hxt]
        constructor
        · rintro (h2 | h2)
          · exact .inl h2
          · exact .inr h2.1
        · rintro (h2 | h2)
          · exact .inl h2
          · exact .inr ⟨h2, h1⟩
      · rw [hin x (by omega) h1]
        exact ⟨fun _ => hk, fun _ => .inr ⟨by omega, h1⟩⟩
  · obtain ⟨hc, hx⟩ := h.gap hk
    rw [if_neg hk]
    refine ⟨fun l hl' => let ⟨a, b, h1, _⟩ := h.segs l hl'; ⟨a, b, h1⟩, ?_⟩
    intro x h0 h1
    by_cases hxt : x < t
    · exact hx x h0 hxt
    · rw [hin x (by omega) h1]
      constructor
      · rintro ⟨l, hl', a, b, hs, h2, h3⟩
        obtain ⟨a', b', h4, h5, h6⟩ := h.segs l hl'
        unfold Seg at hs h4
        rw [hs] at h4
        simp at h4
        omega
      · exact fun h2 => absurd h2 hk
theorem row_point {n t : Int} (hn : 1 ≤ n) (hn2 : n ≤ 50000) (h0 : 0 ≤ t) (h1 : t ≤ n) : pointAtP (0, 0) (n, 0) t n = (t, 0) := by
  have ok : patOk (0, 0) (n, 0) n = true := by
    simp only [patOk, pointOkB, inB, Bool.and_eq_true, decide_eq_true_eq]
    omega
  have c : clampI t 0 n = t := by unfold clampI; rw [if_neg (by omega), if_neg (by omega)]
  unfold pointAtP
  rw [if_pos ok, c]
  have e1 : rdivI ((n - 0) * t) n = t := by
    unfold rdivI
    rw [if_neg (by omega), Int.sub_zero, Int.mul_emod_right, if_neg (by omega), Int.mul_ediv_cancel_left _ (by omega)]
  have e2 : rdivI ((0 - 0) * t) n = 0 := by
    unfold rdivI
    rw [if_neg (by omega), Int.sub_zero, Int.zero_mul, Int.zero_emod, if_neg (by omega), Int.zero_ediv]
  show (0 + rdivI ((n - 0) * t) n, 0 + rdivI ((0 - 0) * t) n) = _
  rw [e1, e2, Int.zero_add, Int.zero_add]
theorem row_len {n : Int} (hn : 1 ≤ n) (hn2 : n ≤ 50000) : lenP (0, 0) (n, 0) = n := by
  have h := lenP_is (0, 0) (n, 0)
  unfold IsLen at h
  rw [if_pos (by simp only [pointOkB, inB, Bool.and_eq_true, decide_eq_true_eq]; omega)] at h
  dsimp only at h
  have h2 : IsRoot ((n - 0) * (n - 0) + (0 - 0) * (0 - 0)) n := by
    refine ⟨by omega, by omega, ?_, ?_⟩
    · rw [Int.sub_zero]; simp
    · rw [Int.sub_zero]
      have : (n + 1) * (n + 1) = n * n + 2 * n + 1 := by grind
      simp only [Int.sub_self, Int.mul_zero, Int.add_zero]
      omega
  exact h.unique h2
theorem row_piece {m : Nat} {ds : Nat → Int} {ph n : Int} (hd : Dsh m ds) (hp : 0 ≤ ph) (hn : 1 ≤ n) (hn2 : n ≤ 50000) : ∀ (f : Nat) (t : Int) (s : St), RowS m ds ph n t s → 0 < s.left → 0 ≤ t → t ≤ n → enough n t s f → RowL m ds ph n (lastS (pieceS m ds (0, 0) (n, 0) n f t s))
  | 0, t, s, h, hl, h0, h1, hf => by obtain ⟨g, e⟩ := enough_pos hf h1; omega
  | f + 1, t, s, h, hl, h0, h1, hf => by
    by_cases hc : n - t ≤ s.left
    · rw [piece_stop hc]; exact row_stop hd hp (by omega) h0 h1 h hc
    · rw [piece_turn hc, row_point hn hn2 (by omega) (by omega)]
      have hb := hd.bd _ (hd.nx s.k)
      exact row_piece hd hp hn hn2 f _ _ (row_turn hd hp h0 h hl) (by simp only [turnS]; omega) (by omega) (by omega) (enough_turn hd (by omega) hf)
/-- Of a line along one row each unit is drawn just when its dash is. -/
theorem row_dash {m : Nat} {ds : Nat → Int} {ph n : Int} (hd : Dsh m ds) (hp : 0 ≤ ph ∧ ph ≤ 20000) (hn : 1 ≤ n) (hn2 : n ≤ 50000) : RowL m ds ph n (dashL 2 (two (0, 0) (n, 0)) m ds ph) := by
  have ok : dashOkB m ds = true := dashOk_iff.2 ⟨hd.ev, hd.le, hd.bd⟩
  have hm : m ≠ 0 := by have := hd.pos; omega
  have hg : dashGo 2 (two (0, 0) (n, 0)) m ds ph := by
    refine ⟨ok, inB_true.2 hp, Nat.le_refl _, ?_⟩
    intro i hi
    match i, hi with
    | 0, _ => show pointOkB 0 0 = true; decide
    | 1, _ => show pointOkB n 0 = true; simp only [pointOkB, inB, Bool.and_eq_true, decide_eq_true_eq]; omega
  rw [dashL_yes hg hm]
  have e : lineS m ds (two (0, 0) (n, 0)) (startS m ds ph (two (0, 0) (n, 0) 0)) (2 - 1) = pieceS m ds (0, 0) (n, 0) n (n.toNat + 2) 0 (startS m ds ph (0, 0)) := by
    show pieceS m ds (0, 0) (n, 0) (lenP (0, 0) (n, 0)) ((lenP (0, 0) (n, 0)).toNat + 2) 0 (startS m ds ph (0, 0)) = _
    rw [row_len hn hn2]
  rw [e]
  have h := row_piece hd hp.1 hn hn2 (n.toNat + 2) 0 _ (row_start (n := n) hd hp.1) (by have := (begP_ok hd hp.1).2.1; simp only [startS]; omega) (Int.le_refl _) (by omega) (enough_start (by omega) _)
  generalize lastS (pieceS m ds (0, 0) (n, 0) n (n.toNat + 2) 0 (startS m ds ph (0, 0))) = L at h
  have hf : L.filter bigL = L := by
    rw [List.filter_eq_self]
    intro l hl
    obtain ⟨a, b, hs⟩ := h.segs l hl
    rw [hs]; rfl
  rw [hf]
  exact h

theorem step_append_ii {P : Program} {ops : Array Oper} {o : Oper} {a : Act} {wr : World} {K : Act → World → Prop} {Q : Exit → Act → World → Prop} {E : Prop} (hg : o.guard = none) (s x : Operand) (t : TypeId)
    (hop : o.op = .call { callee := .builtin .append, args := #[s, x], argTypes := #[t, t] })
    (base : Nat) (i : TypeInfo) (z : Value) (bytes : Nat) (ht : P.underlying t = some (.slice 3)) (hi : P.info? 3 = some i) (hz : i.zero = some z) (hsize : i.size = 1) (hby : i.bytes = bytes) (hzs : z.cells.size = 1)
    (v : Value) (n : Nat) (xs : List Value) (hs : a.eval s = v) (hown : wr.ownsRow base 3 1 v n xs) (p q : Int) (c : Nat) (hx : a.eval x = .slice (some ⟨wr.heap.size, 0, none⟩) 2 c)
    (h63 : n + 2 ≤ maxLen) (hlen : (n + 2) * bytes ≤ 140737488355328) (hbase : base ≤ wr.heap.size)
    (hK : ∀ v' w', w'.ownsRow base 3 1 v' (n + 2) (xs ++ [Iv p, Iv q]) → (wr.alloc (.cells #[.int .i64 p, .int .i64 q] 3)).grownBy w' v.ownBlock → K (a.put o.dst v') w') :
    if Region.wanted o (yielded ops a.tmps) = true then Oper.wp P o a (wr.alloc (.cells #[.int .i64 p, .int .i64 q] 3)) K Q else E := by
  refine step_append_lies (wr.alloc (.cells #[.int .i64 p, .int .i64 q] 3)) hg s x t hop base 3 i z 1 bytes ht hi hz hsize hby hzs (by decide) v n xs hs (hown.alloc _) ⟨wr.heap.size, 0, none⟩ 2 c [Iv p, Iv q] hx (by simp) (fun j u hu => World.news_of_block (al1_0 wr _) j u (by simpa [Iv] using hu)) (fun u hu => by simp [Iv] at hu; rcases hu with rfl | rfl <;> rfl) (by decide) h63 hlen (by simp; omega) (wr.heap.size + 1) (by simp) ?_
  intro g cap w' ho' hg' hat _
  exact hK _ w' ho' hg'
def ds4 (d0 d1 d2 d3 : Int) (i : Nat) : Int := if i = 0 then d0 else if i = 1 then d1 else if i = 2 then d2 else d3
theorem ds2_dsh {d0 d1 : Int} (h0 : 1 ≤ d0 ∧ d0 ≤ 20000) (h1 : 1 ≤ d1 ∧ d1 ≤ 20000) : Dsh 2 (ds2 d0 d1) := dash_dsh (ds2_ok h0 h1) (by decide)
theorem ds4_dsh {d0 d1 d2 d3 : Int} (h0 : 1 ≤ d0 ∧ d0 ≤ 20000) (h1 : 1 ≤ d1 ∧ d1 ≤ 20000) (h2 : 1 ≤ d2 ∧ d2 ≤ 20000) (h3 : 1 ≤ d3 ∧ d3 ≤ 20000) : Dsh 4 (ds4 d0 d1 d2 d3) := by
  refine ⟨by omega, rfl, by omega, ?_⟩
  intro i hi
  unfold ds4
  split
  · assumption
  · split
    · assumption
    · split <;> assumption
theorem ds4_arg {w : World} {base : Nat} {d0 d1 d2 d3 : Int} {a : Option Addr} {c : Nat} (h : w.ownsRow base 3 1 (.slice a 4 c) 4 ([Iv d0, Iv d1] ++ [Iv d2, Iv d3])) : ∀ i, i < 4 → IntAt w a i (ds4 d0 d1 d2 d3 i) := by
  refine own_ix h ?_
  intro j hj
  match j, hj with
  | 0, _ => rfl
  | 1, _ => rfl
  | 2, _ => rfl
  | 3, _ => rfl
/-- Dashes that lie somewhere. -/
def DashAt (u : World) (a : Option Addr) (m : Nat) (ds : Nat → Int) : Prop := Dsh m ds ∧ ∀ i, i < m → IntAt u a i (ds i)
theorem DashAt.next {u u' : World} {a : Option Addr} {m : Nat} {ds : Nat → Int} (h : DashAt u a m ds) (hb : Below u.heap.size u u') : DashAt u' a m ds := ⟨h.1, fun i hi => (h.2 i hi).next hb⟩
theorem drawn_take {L : List (List Pt)} {k : Nat} {x a b : Int} (hk : k < L.length) (hs : Seg L[k] a b) : Drawn (L.take (k + 1)) x ↔ (Drawn (L.take k) x ∨ (a ≤ x ∧ x < b)) := by
  rw [List.take_succ_eq_append_getElem hk, hs]
  exact drawn_more

attribute [local go_sem ↓] eqlPoint in
set_option maxHeartbeats 16000000 in
set_option maxRecDepth 100000 in
theorem fnDashes_walk (a0 : Option Addr) (len0 cap0 : Nat) (z0 : List Int) (w : World) (w0 : IsRow .u8 w a0 len0 cap0 z0) :
    Calls Try.prog 3 #[.slice a0 len0 cap0] w fun e w' => e = .returned (.bool true) ∧ Below w.heap.size w w' := by
  by_cases hl : len0 ≤ 1048576
  · obtain ⟨i3, hi3, hz3, hs3, hb3'⟩ := info_parts Try.info3
    have HI := hide (InB.of_row w0)
    clear w0
    go_enter Try.func3, Try.ntmps3
    go_wp2_with fail
    refine (big_no a0 len0 cap0 hl _).mono ?_
    rintro r w1 ⟨rfl, rfl⟩
    go_wp2_with fail
    refine (drawPlaces_any a0 len0 cap0 _ hl (unhide HI)).mono ?_
    rintro r w3 ⟨vp, p, hp12, hpb, rfl, hop, hb3⟩
    obtain ⟨pp, pc, rfl, _, _, _, hpp⟩ := row_form hop
    obtain ⟨gp, rfl, hgp1, hgp2⟩ := hpp (by omega)
    obtain ⟨x0, hx0, c0⟩ := place_at hop hpb 0 (by omega)
    obtain ⟨x1, hx1, c1⟩ := place_at hop hpb 1 (by omega)
    obtain ⟨x2, hx2, c2⟩ := place_at hop hpb 2 (by omega)
    obtain ⟨x3, hx3, c3⟩ := place_at hop hpb 3 (by omega)
    obtain ⟨x4, hx4, c4⟩ := place_at hop hpb 4 (by omega)
    obtain ⟨x5, hx5, c5⟩ := place_at hop hpb 5 (by omega)
    obtain ⟨x6, hx6, c6⟩ := place_at hop hpb 6 (by omega)
    rw [hp12]
    have HB := hide hb3
    have hw13 := hide hb3.size
    clear hop hb3 hpb HI hgp1 hgp2 hpp
    have qn : IntKind.i64.wrap (1 + x0 % 900) = 1 + x0 % 900 := IntWalk.i64_in _ (by omega)
    have q0 : IntKind.i64.wrap (1 + x1 % 90) = 1 + x1 % 90 := IntWalk.i64_in _ (by omega)
    have q1 : IntKind.i64.wrap (1 + x2 % 90) = 1 + x2 % 90 := IntWalk.i64_in _ (by omega)
    have q2 : IntKind.i64.wrap (1 + x4 % 50) = 1 + x4 % 50 := IntWalk.i64_in _ (by omega)
    have q3 : IntKind.i64.wrap (1 + x5 % 50) = 1 + x5 % 50 := IntWalk.i64_in _ (by omega)
    go_wp2_with fail
    go_region
    obtain ⟨n, hn⟩ : ∃ n, n = 1 + x0 % 900 := ⟨_, rfl⟩
    have hnb : 1 ≤ n ∧ n ≤ 900 := by omega
    have O2 := hide (show (w3.alloc (.cells #[.int .i64 (1 + x1 % 90), .int .i64 (1 + x2 % 90)] 3)).drew.ownsRow w3.heap.size 3 1 (.slice (some ⟨w3.heap.size, 0, none⟩) 2 2) 2 [Iv (1 + x1 % 90), Iv (1 + x2 % 90)] from World.ownsRow_lit (base := w3.heap.size) (e := 3) (size := 1) w3 #[.int .i64 (1 + x1 % 90), .int .i64 (1 + x2 % 90)] 2 (Nat.le_refl _) (by decide) rfl)
    have hbn : Below w3.heap.size w3 (w3.alloc (.cells #[.int .i64 (1 + x1 % 90), .int .i64 (1 + x2 % 90)] 3)).drew := (al1_below _ _).drew
    have hR2 := hide (show (w3.alloc (.cells #[.int .i64 (1 + x1 % 90), .int .i64 (1 + x2 % 90)] 3)).drew.heap[w3.heap.size]? = some (.cells #[.int .i64 (1 + x1 % 90), .int .i64 (1 + x2 % 90)] 3 (0, 0)) from al1_0 _ _)
    have hd0 : 1 ≤ 1 + x1 % 90 ∧ 1 + x1 % 90 ≤ 20000 := by omega
    have hd1 : 1 ≤ 1 + x2 % 90 ∧ 1 + x2 % 90 ≤ 20000 := by omega
    generalize 1 + x1 % 90 = d0 at O2 hbn hR2 hd0 ⊢
    generalize 1 + x2 % 90 = d1 at O2 hbn hR2 hd1 ⊢
    generalize (w3.alloc (.cells #[.int .i64 d0, .int .i64 d1] 3)).drew = W5 at O2 hbn hR2 ⊢
    have hsz := hide hbn.size
    replace HB := hide (below_two (unhide HB) hbn)
    replace c3 := kc hbn c3
    replace c4 := kc hbn c4
    replace c5 := kc hbn c5
    replace c6 := kc hbn c6
    have hgp5 := hide (Nat.ne_of_lt (show gp < w3.heap.size from block_lt_of_cell c0))
    clear hbn c0 c1 c2 q0 q1 hx0 hx1 hx2
    obtain ⟨gd, hgd⟩ : ∃ g, Hid (g = w3.heap.size) := ⟨_, rfl⟩
    have hgb0 := hide (show w1.heap.size ≤ gd by rw [unhide hgd]; exact unhide hw13)
    rw [← unhide hgd] at O2 hR2
    rw [← unhide hgd, ← hn]
    replace hn := hide hn
    have n3 := fun o => kn o c3
    have n4 := fun o => kn o c4
    have n5 := fun o => kn o c5
    have m3 : x3 % 2 = 0 ∨ x3 % 2 = 1 := by omega
    have hgs := hide (show gd ≤ W5.heap.size from by have := heap_lt (unhide hR2); omega)
    have hgpd := hide (show gp ≠ gd by rw [unhide hgd]; exact unhide hgp5)
    have hgpl := hide (show gp < W5.heap.size from block_lt_of_cell c6)
    have hgb := hide (show w1.heap.size ≤ gd from unhide hgb0)
    have hd2 := hide (show 1 ≤ IntKind.i64.wrap (1 + x4.tmod 50) ∧ IntKind.i64.wrap (1 + x4.tmod 50) ≤ 20000 by rw [Int.tmod_eq_emod_of_nonneg hx4.1, q2]; omega)
    have hd3 := hide (show 1 ≤ IntKind.i64.wrap (1 + x5.tmod 50) ∧ IntKind.i64.wrap (1 + x5.tmod 50) ≤ 20000 by rw [Int.tmod_eq_emod_of_nonneg hx5.1, q3]; omega)
    go_upto_if 39 with fail
    go_cut [5] (fun s u => ∃ m ad c, s = .slice ad m c ∧ Hid (∃ ds, DashAt u ad m ds) ∧ Hid (u.cell? ⟨gp, 6, none⟩ = some (.int .i64 x6)) ∧ Hid (Below w1.heap.size w1 u))
    case first =>
      rcases m3 with m3 | m3
      · go_wp2_with fail
        go_meet
        exact ⟨2, _, 2, rfl, ⟨ds2 d0 d1, ds2_dsh hd0 hd1, ds2_arg (unhide hR2)⟩, c6, HB⟩
      · go_wp2_with fail
        go_region_law (first | (refine step_append_ii (wr := W5) rfl _ _ 24 (by rfl) gd i3 (.int .i64 0) 8 Try.underlying24 hi3 hz3 hs3 hb3' rfl _ 2 [Iv d0, Iv d1] (by rfl) (unhide O2) (IntKind.i64.wrap (1 + x4.tmod 50)) (IntKind.i64.wrap (1 + x5.tmod 50)) 2 (by rfl) (by decide) (by decide) (unhide hgs) ?_; intro v6 w6 ho hg; obtain ⟨a6, c6', rfl⟩ := own_form ho; have C6 := hide ((hg.cell_far ⟨gp, 6, none⟩ (by simp; have := unhide hgpl; omega) (by simp only [Value.ownBlock, ne_eq, Option.some.injEq]; exact unhide hgpd)).trans (kn _ c6)); have B6 := hide (((unhide HB).alloc (unhide HB).size _).grown hg (by simp; have := (unhide HB).size; omega) (fun k hk => by cases hk; exact unhide hgb)); have V6 := hide (ds4_arg ho); clear ho hg) | (refine step_append_ii (wr := W5.drew) rfl _ _ 24 (by rfl) gd i3 (.int .i64 0) 8 Try.underlying24 hi3 hz3 hs3 hb3' rfl _ 2 [Iv d0, Iv d1] (by rfl) (show W5.drew.ownsRow gd 3 1 (.slice (some ⟨gd, 0, none⟩) 2 2) 2 [Iv d0, Iv d1] from unhide O2) (IntKind.i64.wrap (1 + x4.tmod 50)) (IntKind.i64.wrap (1 + x5.tmod 50)) 2 (by rfl) (by decide) (by decide) (unhide hgs) ?_; intro v6 w6 ho hg; obtain ⟨a6, c6', rfl⟩ := own_form ho; have C6 := hide ((hg.cell_far ⟨gp, 6, none⟩ (by simp; have := unhide hgpl; omega) (by simp only [Value.ownBlock, ne_eq, Option.some.injEq]; exact unhide hgpd)).trans (kn _ (show W5.drew.cell? ⟨gp, 6, none⟩ = _ from c6))); have B6 := hide ((((unhide HB).drew).alloc ((unhide HB).drew).size _).grown hg (by simp; have := (unhide HB).size; omega) (fun k hk => by cases hk; exact unhide hgb)); have V6 := hide (ds4_arg ho); clear ho hg))
        all_goals
          go_wp2_with fail
          go_meet
          exact ⟨4, _, _, rfl, ⟨ds4 d0 d1 (IntKind.i64.wrap (1 + x4.tmod 50)) (IntKind.i64.wrap (1 + x5.tmod 50)), ds4_dsh hd0 hd1 (unhide hd2) (unhide hd3), unhide V6⟩, C6, B6⟩
    case rest =>
      obtain ⟨m, ad, cd, rfl, HD, C6, HB'⟩ := hcut
      clear c3 c4 c5 c6 n3 n4 n5 m3 O2 hR2 hgs hgpd hgpl hgb hgb0 hsz HB hd0 hd1 hd2 hd3 q2 q3 hgd hgp5
      obtain ⟨ds, HD⟩ := unhide HD
      have hd := HD.1
      have hm2 := hd.cases
      obtain ⟨sd, od, rfl, _⟩ := HD.2 0 hd.pos
      obtain ⟨ph, hph⟩ : ∃ ph, ph = x6 % 700 := ⟨_, rfl⟩
      have hphb : 0 ≤ ph ∧ ph ≤ 699 := by omega
      have hrow := row_dash (ph := ph) (n := n) hd (by omega) (by omega) (by omega)
      have hdl := dashL_len (n := 2) (pf := two (0, 0) (n, 0)) (m := m) (ds := ds) (ph := ph) (by omega)
      have E1 := hide (fun (u : World) (b : Nat) (hr : u.heap[b]? = some (.cells #[.int .i64 0, .int .i64 0, .int .i64 n, .int .i64 0] 29 (0, 0))) hV => implDashOf_any (two (0, 0) (n, 0)) (some ⟨b, 0, none⟩) 2 2 ds (some ⟨sd, od, none⟩) m cd ph (by omega) (by omega) u (two_arg hr) hV)
      generalize dashL 2 (two (0, 0) (n, 0)) m ds ph = L at hrow hdl E1
      have E2 := hide (fun (u : World) (b : Nat) (hr : u.heap[b]? = some (.cells #[.int .i64 0, .int .i64 0] 29 (0, 0))) hV => implDashOf_any (two (0, 0) (0, 0)) (some ⟨b, 0, none⟩) 1 1 ds (some ⟨sd, od, none⟩) m cd 0 (by omega) (by omega) u (fun i hi => by obtain ⟨r0, r1⟩ := row2 hr; match i, hi with | 0, _ => exact ⟨b, 0, rfl, r0, r1⟩) hV)
      rw [dashL_no (fun h => by have := h.2.2.1; omega)] at E2
      have EK := hide (fun (u : World) hV => implDashOk_any ds (some ⟨sd, od, none⟩) m cd (by omega) u hV)
      rw [dashOk_iff.2 ⟨hd.ev, hd.le, hd.bd⟩] at EK
      obtain ⟨N, hN⟩ : ∃ N, Hid (N = L.length) := ⟨_, rfl⟩
      have hNn : N ≤ 4200000000000 := by rw [unhide hN]; exact hdl.1
      have hsum := hide (fun k hk => sumN_bd hd.bd k hk)
      have hSm := sumN_bd hd.bd m (Nat.le_refl _)
      have hsk := hide (fun k q (hk : k < m) (h0 : 0 ≤ q) (h : ds k ≤ q) hq => beg_seek hd (k := k) (q := q) hk h0 h hq)
      have hbd := hide hd.bd
      have hmp := hd.pos
      have c6 := unhide C6
      replace hrow := hide hrow
      replace hd := hide hd
      replace HD := hide HD
      clear hdl C6
      go_wp2_with fail
      rw [← hph]
      obtain ⟨W, hW⟩ : ∃ W, W = wc.alloc (.cells #[.int .i64 0, .int .i64 0, .int .i64 n, .int .i64 0] 29) := ⟨_, rfl⟩
      have R4 := hide (show W.heap[wc.heap.size]? = some (.cells #[.int .i64 0, .int .i64 0, .int .i64 n, .int .i64 0] 29 (0, 0)) by rw [hW]; exact new_row _ _)
      have hbw : Below wc.heap.size wc W := by rw [hW]; exact al1_below _ _
      replace HD := hide ((unhide HD).next hbw)
      replace HB' := hide (below_two (unhide HB') hbw)
      rw [← hW]
      clear hW hbw c6
      go_fit (unhide E1 _ _ (unhide R4) (unhide HD).2)
      rintro r w7 ⟨v, rfl, lb, hb7⟩
      obtain ⟨ab, cb, e1⟩ := lb.form
      rw [← unhide hN] at e1
      subst e1
      replace HD := hide ((unhide HD).next hb7)
      replace HB' := hide (below_two (unhide HB') hb7)
      replace lb := hide lb
      replace hph := hide hph
      clear hb7 R4 E1
      go_wp2_with fail
      go_loopw [8, 9] (fun t i u => ∃ k : Nat, k ≤ m ∧ i = .int .i64 k ∧ t = .int .i64 (sumN ds k) ∧ u = w7) (fun _ i _ => m - (intOf i).toNat)
      case atStart => exact ⟨0, Nat.zero_le _, rfl, rfl, rfl⟩
      case round =>
        obtain ⟨k, hk, rfl, rfl, rfl⟩ := hrel
        by_cases hlt : k < m
        · obtain ⟨_, _, e1, g0⟩ := (unhide HD).2 k hlt
          cases e1
          have h1 := unhide hsum k hk
          have h2 := unhide hbd k hlt
          have hs1 : Hid (sumN ds (k + 1) = sumN ds k + ds k) := rfl
          generalize sumN ds k = S at h1 hs1 ⊢
          generalize ds k = z at h2 hs1 g0
          have hki : (k : Int) < (m : Int) := by omega
          have q1 : IntKind.i64.wrap (S + z) = S + z := IntWalk.i64_in _ (by omega)
          go_wp2_with fail
          go_roundw
          case rel => exact ⟨k + 1, by omega, by go_num, by rw [unhide hs1], (by first | rfl | trivial)⟩
          case measure => simp [intOf]; omega
        · have hke : k = m := by omega
          subst hke
          generalize hSS : sumN ds k = S at hSm ⊢
          replace hSS := hide hSS
          have hS0 : (S == 0) = false := beq_eq_false_iff_ne.2 (by omega)
          have hkk : ¬ (k : Int) < (k : Int) := by omega
          go_wp2_with fail
          go_loopw [10] (fun i u => ∃ x : Int, 0 ≤ x ∧ x ≤ n ∧ i = .int .i64 x ∧ Hid (Below wr.heap.size wr u)) (fun i _ => (n - intOf i).toNat)
          case atStart => exact ⟨0, Int.le_refl _, by omega, rfl, Below.refl _ _⟩
          case round =>
            obtain ⟨x, hx0, hxn, rfl, hbx⟩ := hrel
            have HDx := hide ((unhide HD).next (unhide hbx))
            have lbx := hide ((unhide lb).next (unhide hbx))
            have HBx := hide (below_two (unhide HB') (unhide hbx))
            by_cases hxlt : x < n
            · have hpx := hide (begP_ok (unhide hd) (show 0 ≤ x + ph by omega))
              have hdr := hide ((unhide hrow).drawn x hx0 hxlt)
              have hB0 := hide (begP_mod (unhide hd) (show 0 ≤ x + ph by omega)).symm
              rw [unhide hSS] at hB0
              rw [show ph + x = x + ph by omega] at hdr
              generalize begP k ds (x + ph) = be at hpx hdr hB0
              have hB1 : Hid (begS k ds (((x + ph) % S).toNat + 1) 0 (ds 0 - (x + ph) % S) = be) := unhide hB0
              have hq0 : 0 ≤ (x + ph) % S := Int.emod_nonneg _ (by omega)
              have hq1 : Hid ((x + ph) % S < S - sumN ds 0) := by unfold Hid; have := Int.emod_lt_of_pos (x + ph) (show 0 < S by omega); simp only [sumN]; omega
              have hq2 : (x + ph) % S ≤ 20000 := by
                have := Int.emod_add_mul_ediv (x + ph) S
                have h5 : 0 ≤ S * ((x + ph) / S) := Int.mul_nonneg (by omega) (Int.ediv_nonneg (by omega) (by omega))
                omega
              have htm : (x + ph).tmod S = (x + ph) % S := Int.tmod_eq_emod_of_nonneg (by omega)
              have qx : IntKind.i64.wrap (x + ph) = x + ph := IntWalk.i64_in _ (by omega)
              clear hB0
              generalize hqq : (x + ph) % S = q at hB1 hq0 hq1 hq2 htm
              replace hqq := hide hqq
              go_wp2_with fail
              go_loopw [11, 12] (fun p i u => ∃ (j : Nat) (q : Int), p = .int .i64 q ∧ i = .int .i64 j ∧ j < k ∧ 0 ≤ q ∧ q ≤ 20000 ∧ Hid (q < S - sumN ds j) ∧ Hid (begS k ds (q.toNat + 1) j (ds j - q) = be) ∧ u = wr) (fun _ i _ => k - (intOf i).toNat)
              case atStart => exact ⟨0, q, rfl, rfl, hmp, hq0, hq2, hq1, hB1, rfl⟩
              case round =>
                clear hB1 hq1 hq0 hq2 htm
                obtain ⟨j, q, rfl, rfl, hj, hq0, hq2, hq1, hB1, rfl⟩ := hrel
                obtain ⟨_, _, e1, g0⟩ := (unhide HDx).2 j hj
                cases e1
                have h2 := unhide hbd j hj
                have hji : (j : Int) < (k : Int) := by omega
                by_cases hge : ds j ≤ q
                · obtain ⟨f1, f2, f3, f4⟩ := unhide hsk j q hj hq0 hge (by rw [unhide hSS]; exact unhide hq1)
                  rw [unhide hSS] at f3
                  have hB2 : Hid (begS k ds ((q - ds j).toNat + 1) (j + 1) (ds (j + 1) - (q - ds j)) = be) := by unfold Hid; rw [← f4]; exact unhide hB1
                  replace f3 := hide f3
                  clear f4
                  generalize ds j = z at *
                  have q1 : IntKind.i64.wrap (q - z) = q - z := IntWalk.i64_in _ (by omega)
                  go_wp2_with fail
                  go_roundw
                  case rel => exact ⟨j + 1, q - z, rfl, by go_num, f1, f2, by omega, f3, hB2, (by first | rfl | trivial)⟩
                  case measure => simp [intOf]; omega
                · have hE := (unhide hB1).symm.trans (beg_here (by omega : 0 < ds j - q))
                  have hEj : Hid (be.1 = j) := by unfold Hid; rw [hE]
                  clear hE hB1
                  generalize ds j = z at *
                  go_wp2_with fail
                  go_loopw [13, 14] (fun d i u => ∃ (c : Nat) (b : Bool), c ≤ N ∧ i = .int .i64 c ∧ d = .bool b ∧ Hid (b = true ↔ Drawn (L.take c) x) ∧ Hid (Below wr.heap.size wr u)) (fun _ i _ => N - (intOf i).toNat)
                  case atStart => exact ⟨0, false, Nat.zero_le _, rfl, rfl, ⟨fun h => (by cases h), fun ⟨l, hl, _⟩ => by simp at hl⟩, Below.refl _ _⟩
                  case round =>
                    obtain ⟨c, b, hcN, rfl, rfl, hbd2, hbc⟩ := hrel
                    have lbc := hide ((unhide lbx).next (unhide hbc))
                    by_cases hcl : c < N
                    · have hcL : c < L.length := by rw [← unhide hN]; exact hcl
                      obtain ⟨vs, o1, k1⟩ := unhide lbc
                      rw [← unhide hN] at o1
                      obtain ⟨g, _, e1, _, _⟩ := own_at o1 (by omega)
                      cases e1
                      obtain ⟨xx, cx, _, g1, ox⟩ := line_at o1 k1 (unhide hN) hcL
                      obtain ⟨sa, sb, hsg⟩ := (unhide hrow).segs _ (List.getElem_mem hcL)
                      have hdt := hide (drawn_take (x := x) hcL hsg)
                      rw [hsg] at g1 ox
                      have hPx := own_pxa ox (px_list _)
                      obtain ⟨sx, ox2, rfl, pa, _⟩ := hPx 0 (by simp)
                      obtain ⟨_, _, e1, pb, _⟩ := hPx 1 (by simp)
                      cases e1
                      simp only [List.length_cons, List.length_nil, Nat.zero_add, Nat.reduceAdd] at g1
                      have pa' : wr.cell? ⟨sx, ox2, none⟩ = some (.int .i64 sa) := by simpa [listP] using pa
                      have pb' : wr.cell? ⟨sx, ox2 + 2, none⟩ = some (.int .i64 sb) := by simpa [listP] using pb
                      have hci : (c : Int) < (N : Int) := by omega
                      clear o1 k1 ox hPx pa pb g0 hsg
                      have dd : Hid (∀ b', (b' = true ↔ (b = true ∨ (sa ≤ x ∧ x < sb))) → (b' = true ↔ Drawn (L.take (c + 1)) x)) := fun b' h => by rw [h, unhide hdt, unhide hbd2]
                      clear hdt hbd2
                      cases b with
                      | true =>
                        go_upto_region 27 with fail
                        go_quiet (fail)
                        go_wp2_with fail
                        go_roundw
                        case rel => exact ⟨c + 1, true, by omega, by go_num, rfl, unhide dd true (by simp), below_drews (unhide hbc) _⟩
                        case measure => simp [intOf]; omega
                      | false =>
                        by_cases ha : sa ≤ x
                        · by_cases hb : x < sb
                          · have da : decide (sa ≤ x) = true := decide_eq_true ha
                            have db : decide (x < sb) = true := decide_eq_true hb
                            go_upto_region 27 with fail
                            go_quiet (fail)
                            go_wp2_with fail
                            go_roundw
                            case rel => exact ⟨c + 1, true, by omega, by go_num, rfl, unhide dd true (by simp [ha, hb]), below_drews (unhide hbc) _⟩
                            case measure => simp [intOf]; omega
                          · have da : decide (sa ≤ x) = true := decide_eq_true ha
                            have db : decide (x < sb) = false := decide_eq_false hb
                            go_upto_region 27 with fail
                            go_quiet (fail)
                            go_wp2_with fail
                            go_roundw
                            case rel => exact ⟨c + 1, false, by omega, by go_num, rfl, unhide dd false (by simp [hb]), below_drews (unhide hbc) _⟩
                            case measure => simp [intOf]; omega
                        · have da : decide (sa ≤ x) = false := decide_eq_false ha
                          go_upto_region 27 with fail
                          go_quiet (fail)
                          go_wp2_with fail
                          go_roundw
                          case rel => exact ⟨c + 1, false, by omega, by go_num, rfl, unhide dd false (by simp [ha]), below_drews (unhide hbc) _⟩
                          case measure => simp [intOf]; omega
                    · have hce : c = N := by omega
                      have hci : ¬ (c : Int) < (N : Int) := by omega
                      have hall : Hid (b = true ↔ be.1 % 2 = 0) := by
                        unfold Hid
                        rw [unhide hbd2, hce, unhide hN, List.take_length]
                        exact unhide hdr
                      rw [unhide hEj] at hall
                      have hb9 := hide (below_two (unhide hbx) (unhide hbc))
                      clear hbd2
                      by_cases hj2 : j % 2 = 0
                      · have e2 : (j : Int) % 2 = 0 := by omega
                        obtain rfl : b = true := (unhide hall).2 hj2
                        go_wp2_with fail
                        go_roundw
                        case rel => exact ⟨x + 1, by omega, by omega, by go_num, hb9⟩
                        case measure => simp [intOf]; omega
                      · have e2 : (j : Int) % 2 = 1 := by omega
                        obtain rfl : b = false := by cases b with | false => rfl | true => exact absurd ((unhide hall).1 rfl) hj2
                        go_wp2_with fail
                        go_roundw
                        case rel => exact ⟨x + 1, by omega, by omega, by go_num, hb9⟩
                        case measure => simp [intOf]; omega
            · have hxi : ¬ x < n := hxlt
              go_wp2_with fail
              go_fit (unhide EK _ (unhide HDx).2)
              rintro r w8 ⟨rfl, rfl⟩
              go_wp2_with fail
              have R9 := hide (new_row w8 (.cells #[.int .i64 0, .int .i64 0] 29))
              have hb9 := al1_below w8 (.cells #[.int .i64 0, .int .i64 0] 29)
              replace HDx := hide ((unhide HDx).next hb9)
              replace HBx := hide (below_two (unhide HBx) hb9)
              generalize w8.alloc (.cells #[.int .i64 0, .int .i64 0] 29) = W9 at R9 HDx HBx ⊢
              go_fit (unhide E2 _ _ (unhide R9) (unhide HDx).2)
              rintro r w10 ⟨v, rfl, le, hb10⟩
              obtain ⟨ae, ce, e1⟩ := le.form
              subst e1
              replace HBx := hide (below_two (unhide HBx) hb10)
              go_wp2_with fail
              go_ret
              exact ⟨rfl, unhide HBx⟩
  · go_enter Try.func3, Try.ntmps3
    go_wp2_with (go_at_call 8; go_must (refine (big_yes a0 len0 cap0 hl _).mono ?_); rintro e w1 ⟨rfl, rfl⟩)
    go_ret
    exact ⟨rfl, Below.refl _ _⟩
end Go.Proofs.Ythkcfgnnpcamiaa
