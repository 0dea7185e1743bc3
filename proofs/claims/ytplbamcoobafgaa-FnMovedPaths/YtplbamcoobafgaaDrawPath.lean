/-
  Drawn paths that are right.
-/
import Derived.Test.YtplbamcoobafgaaDrawPt
import Derived.Test.YtplbamcoobafgaaDrawBx
import Derived.Test.YtplbamcoobafgaaRectR
import Derived.Test.YtplbamcoobafgaaPathV
import Derived.Test.YtplbamcoobafgaaMoveK
import Derived.Test.YtplbamcoobafgaaQuietIn
namespace Go.Proofs.Ytplbamcoobafgaa
open Go.RowKit

theorem DS.part {w u v : World} {g B C : Nat} {a : Option Addr} {len cap : Nat} (h : DS w u g B a len cap) (hb : Below C u v) (hC : w.heap.size ≤ C) : DS w v g B a len cap := by
  have hlt := h.lt
  have hlg := h.lg
  refine ⟨?_, ⟨hb.os.trans h.gb.os, hb.tape.trans h.gb.tape, hb.output.trans h.gb.output, Nat.le_trans h.size hb.size, fun k hk hn => (hb.block k (by omega)).trans (h.gb.block k hk hn)⟩, h.inb.below (hb.mono (by omega)), Nat.le_trans h.le hb.size, h.lg, h.lt⟩
  obtain ⟨i, hh, h1, h2⟩ := h.cur
  exact ⟨i, hh, (hb.block g (by omega)).trans h1, h2⟩

set_option maxHeartbeats 1000000 in
theorem once_ds {w u : World} {g B : Nat} {a : Option Addr} {len cap : Nat} (h : DS w u g B a len cap) (hl : len ≤ 1048576) (n : Nat) (hn : 0 < n) (hn2 : n ≤ 4294967296) :
    Calls Try.prog 48 #[.pointer (some ⟨g, 0, none⟩), .int .i64 (n : Int)] u fun e v => ∃ b : Bool, e = .returned (.bool b) ∧ DS w v g B a len cap ∧ u.grownBy v (some g) := by
  have H := hide (draw_any h hl n hn hn2)
  clear h
  go_enter Try.func48, Try.ntmps48
  go_wp2_with fail
  refine (unhide H).mono ?_
  rintro e w1 ⟨x, hx, rfl, hc1, hg1⟩
  replace hc1 := hide hc1
  replace hg1 := hide hg1
  go_wp2_with fail
  go_ret
  exact ⟨_, rfl, unhide hc1, unhide hg1⟩

set_option maxHeartbeats 1000000 in
theorem pick_ds (Q : Int → Prop) {w u : World} {g B : Nat} {a : Option Addr} {len cap : Nat} (h : DS w u g B a len cap) (hl : len ≤ 1048576) (b n : Nat) (hn : 0 < n) (hn2 : n ≤ 1000) (hb : w.heap.size ≤ b) (hbs : b < u.heap.size) (hrow : ∀ j, j < n → ∃ z, Q z ∧ u.cell? ⟨b, j, none⟩ = some (.int .i64 z)) :
    Calls Try.prog 49 #[.pointer (some ⟨g, 0, none⟩), .slice (some ⟨b, 0, none⟩) n n] u fun e v => ∃ z : Int, Q z ∧ e = .returned (.int .i64 z) ∧ DS w v g B a len cap ∧ u.grownBy v (some g) := by
  have H := hide (draw_any h hl n hn (by omega))
  have HR := hide hrow
  have hbg : b ≠ g := by have := h.lt; omega
  clear h hrow
  go_enter Try.func49, Try.ntmps49
  go_wp2_with fail
  refine (unhide H).mono ?_
  rintro e w1 ⟨x, hx, rfl, hc1, hg1⟩
  obtain ⟨z, hz, hcz⟩ := unhide HR x hx
  have hbl : w1.heap[b]? = u.heap[b]? := hg1.block b hbs (by intro h; cases h; exact hbg rfl)
  have hcell : w1.cell? ⟨b, x, none⟩ = some (.int .i64 z) := by
    have e : w1.cell? ⟨b, x, none⟩ = u.cell? ⟨b, x, none⟩ := by simp [World.cell?, hbl]
    rw [e]; exact hcz
  have C1 := hide hc1
  have G1 := hide hg1
  replace hz := hide hz
  clear hc1 hg1 hbl hcz HR H
  have hx1 : (x : Int) < (n : Int) := by omega
  have hx0 : (0 : Int) ≤ (x : Int) := by omega
  go_wp2
  go_ret
  exact ⟨z, unhide hz, rfl, unhide C1, unhide G1⟩

/-- 'append' onto an own row as one step of a region that draws its order, with what it leaves of memory told whole. -/
theorem step_append_gr {P : Program} {ops : Array Oper} {o : Oper} {a : Act} {w : World} {K : Act → World → Prop} {Q : Exit → Act → World → Prop} {E : Prop} (hg : o.guard = none) (s x : Operand) (t e : TypeId)
    (hop : o.op = .call { callee := .builtin .append, args := #[s, x], argTypes := #[t, t] })
    (base : Nat) (i : TypeInfo) (z : Value) (size bytes : Nat) (ht : P.underlying t = some (.slice e)) (hi : P.info? e = some i) (hz : i.zero = some z) (hsize : i.size = size) (hby : i.bytes = bytes) (hzs : z.cells.size = size) (hsz : 0 < size)
    (v : Value) (n : Nat) (xs : List Value) (hs : a.eval s = v) (hown : w.ownsRow base e size v n xs)
    (ad : Addr) (m c : Nat) (news : List Value) (hx : a.eval x = .slice (some ad) m c) (hl : news.length = m * size) (hnews : ∀ j u, news[j]? = some u → w.cell? (ad.add j) = some u) (h1 : ∀ u ∈ news, u.oneCell' = true)
    (h63 : n + m ≤ maxLen) (hbytes : (n + m) * bytes ≤ 140737488355328) (hbase : base ≤ w.heap.size)
    (hK : ∀ v' w', w'.ownsRow base e size v' (n + m) (xs ++ news) → w.grownBy w' v.ownBlock → K (a.put o.dst v') w') :
    if Region.wanted o (yielded ops a.tmps) = true then Oper.wp P o a w K Q else E := by
  have hw : Region.wanted o (yielded ops a.tmps) = true := by simp [Region.wanted, hg]
  rw [if_pos hw]
  refine wp_append_own w s x t hop base e i z size bytes ht hi hz hsize hby hzs hsz v n xs hs hown ad m c news hx hl hnews h1 h63 hbytes hbase ?_
  intro v' w' ho' hg' _
  exact hK v' w' ho' hg'

theorem rows_apart {w : World} {b1 e1 s1 n1 b2 e2 s2 n2 : Nat} {v1 v2 : Value} {xs ys : List Value} (h1 : w.ownsRow b1 e1 s1 v1 n1 xs) (h2 : w.ownsRow b2 e2 s2 v2 n2 ys) (he : e1 ≠ e2) : v1.ownBlock = none ∨ v1.ownBlock ≠ v2.ownBlock := by
  rcases h1.2 with ⟨rfl, _⟩ | ⟨g, cap, cur, rfl, _, hg, _⟩
  · exact .inl rfl
  · right
    rcases h2.2 with ⟨rfl, _⟩ | ⟨g', cap', cur', rfl, _, hg', _⟩
    · simp [Value.ownBlock]
    · intro e
      have : g = g' := by simpa [Value.ownBlock] using e
      subst this
      rw [hg] at hg'
      simp at hg'
      exact he hg'.2

theorem one_int (w : World) (z : Int) (e : TypeId) : ∀ j u, ([Iv z])[j]? = some u → (w.alloc (.cells #[.int .i64 z] e)).cell? ((⟨w.heap.size, 0, none⟩ : Addr).add j) = some u := by
  intro j u hj
  have hadd : (⟨w.heap.size, 0, none⟩ : Addr).add j = ⟨w.heap.size, j, none⟩ := by unfold Addr.add; split <;> simp_all
  rw [hadd, World.cell?_alloc_mark w #[.int .i64 z] e (0, 0) j, ← hj]
  simp [Iv]

/-- A path under way: its box at block b, its two rows behind it. -/
structure LP (w u : World) (g B : Nat) (a : Option Addr) (len cap b : Nat) (a1 : Option Addr) (c1 : Nat) (vs : List Int) (a2 : Option Addr) (c2 : Nat) (ps : List (Int × Int)) : Prop where
  ds : DS w u g B a len cap
  r2 : u.heap[w.heap.size]? = some (.cells #[.slice none 0 0, .slice none 0 0] 27 (0, 0))
  r5 : u.heap[b]? = some (.cells #[.slice a1 vs.length c1, .slice a2 ps.length c2] 27 (0, 0))
  o1 : u.ownsRow (b + 1) 3 1 (.slice a1 vs.length c1) vs.length (vs.map Iv)
  o2 : u.ownsRow (b + 1) 39 2 (.slice a2 ps.length c2) ps.length (ptsV ps)
  lo : w.heap.size < b
theorem LP.drawn {w u v : World} {g B : Nat} {a : Option Addr} {len cap b : Nat} {a1 : Option Addr} {c1 : Nat} {vs : List Int} {a2 : Option Addr} {c2 : Nat} {ps : List (Int × Int)} (h : LP w u g B a len cap b a1 c1 vs a2 c2 ps) (hd : DS w v g B a len cap) (hg : u.grownBy v (some g)) : LP w v g B a len cap b a1 c1 vs a2 c2 ps := by
  have h1 := h.lo
  have h2 := h.ds.lt
  exact ⟨hd, h.ds.heap hg (Nat.le_refl _) h.r2, h.ds.heap hg (by omega) h.r5, own_grown h.o1 hg (by omega), own_grown h.o2 hg (by omega), h.lo⟩
theorem LP.calls {w u v : World} {g B : Nat} {a : Option Addr} {len cap b : Nat} {a1 : Option Addr} {c1 : Nat} {vs : List Int} {a2 : Option Addr} {c2 : Nat} {ps : List (Int × Int)} (h : LP w u g B a len cap b a1 c1 vs a2 c2 ps) (hb : Below u.heap.size u v) : LP w v g B a len cap b a1 c1 vs a2 c2 ps :=
  ⟨h.ds.calls hb, row_next hb h.r2, row_next hb h.r5, own_below h.o1 hb, own_below h.o2 hb, h.lo⟩
theorem LP.far {w u w2 : World} {g B : Nat} {a : Option Addr} {len cap b : Nat} {a1 : Option Addr} {c1 : Nat} {vs : List Int} {a2 : Option Addr} {c2 : Nat} {ps : List (Int × Int)} {o : Obj} (h : LP w u g B a len cap b a1 c1 vs a2 c2 ps)
    (hg : (u.alloc o).grownBy w2 (Value.slice a1 vs.length c1).ownBlock ∨ (u.alloc o).grownBy w2 (Value.slice a2 ps.length c2).ownBlock) : Below (b + 1) u w2 := by
  have hs : b + 1 ≤ u.heap.size := heap_lt h.r5
  rcases hg with hg | hg
  · exact ((Below.refl (b + 1) u).alloc hs o).grown hg (by simp; omega) (fun k hk => (h.o1.lt k hk).1)
  · exact ((Below.refl (b + 1) u).alloc hs o).grown hg (by simp; omega) (fun k hk => (h.o2.lt k hk).1)
theorem LP.row {w u w2 : World} {g B : Nat} {a : Option Addr} {len cap b : Nat} {a1 : Option Addr} {c1 : Nat} {vs : List Int} {a2 : Option Addr} {c2 : Nat} {ps : List (Int × Int)} {o : Obj} (h : LP w u g B a len cap b a1 c1 vs a2 c2 ps)
    (hg : (u.alloc o).grownBy w2 (Value.slice a1 vs.length c1).ownBlock ∨ (u.alloc o).grownBy w2 (Value.slice a2 ps.length c2).ownBlock) : w2.heap[b]? = some (.cells #[.slice a1 vs.length c1, .slice a2 ps.length c2] 27 (0, 0)) :=
  ((h.far hg).block b (Nat.lt_succ_self _)).trans h.r5
theorem LP.push1 {w u w2 : World} {g B : Nat} {a : Option Addr} {len cap b : Nat} {a1 a1' : Option Addr} {c1 c1' : Nat} {vs : List Int} {a2 : Option Addr} {c2 : Nat} {ps : List (Int × Int)} {o : Obj} {z : Int} (h : LP w u g B a len cap b a1 c1 vs a2 c2 ps)
    (hg : (u.alloc o).grownBy w2 (Value.slice a1 vs.length c1).ownBlock) (ho : w2.ownsRow (b + 1) 3 1 (.slice a1' (vs.length + 1) c1') (vs.length + 1) (vs.map Iv ++ [Iv z])) :
    LP w (w2.setCell ⟨b, 0, none⟩ (.slice a1' (vs.length + 1) c1')) g B a len cap b a1' c1' (vs ++ [z]) a2 c2 ps := by
  have hl : (vs ++ [z]).length = vs.length + 1 := by simp
  have hm : (vs ++ [z]).map Iv = vs.map Iv ++ [Iv z] := by simp
  have hbB := h.far (.inl hg)
  have h1 := h.lo
  refine ⟨(h.ds.part hbB (by omega)).put 0 _ (by omega), setc_other (by omega) ((hbB.block _ (by omega)).trans h.r2), ?_, ?_, own_setc_ne ((h.o2.alloc o).kept hg (rows_apart h.o2 h.o1 (by decide))) (fun k hk e => by have := (h.o2.lt k hk).1; omega), h.lo⟩
  · rw [hl]; exact set2_0 ((hbB.block _ (by omega)).trans h.r5)
  · rw [hl, hm]; exact own_setc_ne ho (fun k hk e => by have := (ho.lt k hk).1; omega)
theorem LP.push2 {w u w2 : World} {g B : Nat} {a : Option Addr} {len cap b : Nat} {a1 : Option Addr} {c1 : Nat} {vs : List Int} {a2 a2' : Option Addr} {c2 c2' : Nat} {ps : List (Int × Int)} {o : Obj} {z : Int × Int} (h : LP w u g B a len cap b a1 c1 vs a2 c2 ps)
    (hg : (u.alloc o).grownBy w2 (Value.slice a2 ps.length c2).ownBlock) (ho : w2.ownsRow (b + 1) 39 2 (.slice a2' (ps.length + 1) c2') (ps.length + 1) (ptsV ps ++ ptV z)) :
    LP w (w2.setCell ⟨b, 1, none⟩ (.slice a2' (ps.length + 1) c2')) g B a len cap b a1 c1 vs a2' c2' (ps ++ [z]) := by
  have hl : (ps ++ [z]).length = ps.length + 1 := by simp
  have hm : ptsV (ps ++ [z]) = ptsV ps ++ ptV z := by rw [ptsV_app]; simp [ptsV]
  have hbB := h.far (.inr hg)
  have h1 := h.lo
  refine ⟨(h.ds.part hbB (by omega)).put 1 _ (by omega), setc_other (by omega) ((hbB.block _ (by omega)).trans h.r2), ?_, own_setc_ne ((h.o1.alloc o).kept hg (rows_apart h.o1 h.o2 (by decide))) (fun k hk e => by have := (h.o1.lt k hk).1; omega), ?_, h.lo⟩
  · rw [hl]; exact set2_1 ((hbB.block _ (by omega)).trans h.r5)
  · rw [hl, hm]; exact own_setc_ne ho (fun k hk e => by have := (ho.lt k hk).1; omega)

/-- What a drawn path is like: right, and its points near. -/
def nearP (p : Int × Int) : Prop := (-300 ≤ p.1 ∧ p.1 ≤ 3900) ∧ -300 ≤ p.2 ∧ p.2 ≤ 3900
theorem near_ok {p : Int × Int} (h : nearP p) : pointOkB p.1 p.2 = true := by
  unfold nearP at h
  simp only [pointOkB, inB, Bool.and_eq_true, decide_eq_true_eq]
  omega
structure Half (vs : List Int) (ps : List (Int × Int)) (t : Nat) : Prop where
  verbs : ∀ j, j < vs.length → VOk (listI vs) j
  sum : needN (listI vs) vs.length = ps.length + t
  near : ∀ p ∈ ps, nearP p
theorem lI_app {vs : List Int} {z : Int} {j : Nat} (hj : j < vs.length) : listI (vs ++ [z]) j = listI vs j := by
  simp [listI, List.getD_eq_getElem?_getD, List.getElem?_append_left hj]
theorem lI_last (vs : List Int) (z : Int) : listI (vs ++ [z]) vs.length = z := by simp [listI, List.getD_eq_getElem?_getD]
theorem Half.start : Half [] [] 0 := ⟨fun j hj => absurd hj (by simp), rfl, fun p hp => absurd hp (by simp)⟩
theorem Half.verb {vs : List Int} {ps : List (Int × Int)} (h : Half vs ps 0) {z : Int} (hz : isVerb z) (hf : (vs.length = 0 ∨ listI vs (vs.length - 1) = 5) → z = 1) : Half (vs ++ [z]) ps (needK z) := by
  refine ⟨?_, ?_, h.near⟩
  · intro j hj
    rw [List.length_append] at hj
    have hj' : j < vs.length + 1 := hj
    by_cases hlt : j < vs.length
    · obtain ⟨h1, h2⟩ := h.verbs j hlt
      refine ⟨by rw [lI_app hlt]; exact h1, fun hc => ?_⟩
      rw [lI_app hlt]
      refine h2 ?_
      rcases hc with rfl | hc
      · exact .inl rfl
      · right; rw [lI_app (by omega)] at hc; exact hc
    · obtain rfl : j = vs.length := by omega
      refine ⟨by rw [lI_last]; exact hz, fun hc => ?_⟩
      rw [lI_last]
      refine hf ?_
      by_cases h0 : vs.length = 0
      · exact .inl h0
      · rcases hc with hc | hc
        · exact .inl hc
        · right; rw [lI_app (by omega)] at hc; exact hc
  · have e : (vs ++ [z]).length = vs.length + 1 := by simp
    rw [e]
    show needN (listI (vs ++ [z])) vs.length + needK (listI (vs ++ [z]) vs.length) = _
    rw [lI_last, needN_same (f := listI (vs ++ [z])) (g := listI vs) (fun _ hi => lI_app hi), h.sum, Nat.add_zero]
theorem Half.point {vs : List Int} {ps : List (Int × Int)} {t : Nat} (h : Half vs ps (t + 1)) {p : Int × Int} (hp : nearP p) : Half vs (ps ++ [p]) t := by
  refine ⟨h.verbs, by rw [h.sum]; simp; omega, fun q hq => ?_⟩
  rcases List.mem_append.1 hq with hq | hq
  · exact h.near q hq
  · simp at hq; subst hq; exact hp
theorem lP_mem {ps : List (Int × Int)} {i : Nat} (hi : i < ps.length) : listP ps i ∈ ps := by
  simp [listP, List.getD_eq_getElem?_getD, List.getElem?_eq_getElem hi]
theorem Half.right {vs : List Int} {ps : List (Int × Int)} (h : Half vs ps 0) (h1 : vs.length ≤ 24) (h2 : ps.length ≤ 24) : Right (listI vs) vs.length (listP ps) ps.length :=
  ⟨h1, h2, h.verbs, fun _ hi => near_ok (h.near _ (lP_mem hi)), h.sum⟩

/-- A drawn path. -/
def DrawnP (w : World) (v1 v2 : Value) (w' : World) : Prop := ∃ (n m : Nat) (vf : Nat → Int) (pf : Nat → Int × Int), PathV w' w.heap.size v1 v2 n m vf pf ∧ Right vf n pf m ∧ (∀ i, i < m → nearP (pf i)) ∧ 0 < n ∧ 0 < m
theorem LP.done {w u : World} {g B : Nat} {a : Option Addr} {len cap b : Nat} {a1 : Option Addr} {c1 : Nat} {vs : List Int} {a2 : Option Addr} {c2 : Nat} {ps : List (Int × Int)} (h : LP w u g B a len cap b a1 c1 vs a2 c2 ps) (hh : Half vs ps 0) (h1 : vs.length ≤ 24) (h2 : ps.length ≤ 24) (h3 : 0 < vs.length) (h4 : 0 < ps.length) :
    DrawnP w (.slice a1 vs.length c1) (.slice a2 ps.length c2) ((u.setCell ⟨w.heap.size, 0, none⟩ (.slice a1 vs.length c1)).setCell ⟨w.heap.size, 1, none⟩ (.slice a2 ps.length c2)) ∧ DS w ((u.setCell ⟨w.heap.size, 0, none⟩ (.slice a1 vs.length c1)).setCell ⟨w.heap.size, 1, none⟩ (.slice a2 ps.length c2)) g B a len cap := by
  have hlo := h.lo
  refine ⟨⟨_, _, listI vs, listP ps, ⟨_, _, ⟨?_, ?_, ?_⟩, ix_list vs, px_list ps⟩, hh.right h1 h2, fun _ hi => hh.near _ (lP_mem hi), h3, h4⟩, (h.ds.put 0 _ (Nat.le_refl _)).put 1 _ (Nat.le_refl _)⟩
  · exact own_low (own_setc_ne (own_setc_ne h.o1 (fun k hk e => by have := (h.o1.lt k hk).1; omega)) (fun k hk e => by have := (h.o1.lt k hk).1; omega)) (by omega)
  · exact own_low (own_setc_ne (own_setc_ne h.o2 (fun k hk e => by have := (h.o2.lt k hk).1; omega)) (fun k hk e => by have := (h.o2.lt k hk).1; omega)) (by omega)
  · exact rows_apart h.o1 h.o2 (by decide)
end Go.Proofs.Ytplbamcoobafgaa
