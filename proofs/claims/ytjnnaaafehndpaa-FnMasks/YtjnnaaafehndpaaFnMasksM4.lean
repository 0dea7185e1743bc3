/-
  Draw · DrawP · MeetsL · RunRow · MaskU · BoxRow · RunL: texts of one claim, in one.
-/
import Derived.Test.YtjnnaaafehndpaaFnMasksM1
import Derived.Deep.QuietTactic
import Derived.BigQuiet
import Derived.Laws.BitsAllLaws
import Derived.OpenShut
import Derived.DataReads
import Derived.Test.YtjnnaaafehndpaaFnMasksM3
import Derived.Test.YtjnnaaafehndpaaFnMasksM2

/-
  The cursor that draws numbers out of the bytes of a law's argument: what it hands back is some number in its range, and nothing but the cursor's own block is written.
-/
namespace Go.Proofs.Ytjnnaaafehndpaa
open Go.RowKit

/-- What a walk is told of a slice of integers that came in. -/
def IsRow (k : IntKind) (w : World) (a : Option Addr) (len cap : Nat) (zs : List Int) : Prop :=
  (a = none ∧ len = 0 ∧ cap = 0 ∧ zs = []) ∨
  ∃ x, a = some x ∧ len ≤ cap ∧ cap ≤ maxLen ∧ zs.length = cap ∧ (∀ i, i < zs.length → w.cell? (x.add i) = some (.int k (zs.getD i 0))) ∧ ∀ n ∈ zs, (Lit.int k n).wf = true

/-- The bytes that came in lie in blocks below B. -/
def InB (B : Nat) (w : World) (a : Option Addr) (len : Nat) : Prop :=
  ∀ j, j < len → ∃ b off, ∃ z : Nat, a = some ⟨b, off, none⟩ ∧ b < B ∧ z < 256 ∧ w.cell? ⟨b, off + j, none⟩ = some (.int .u8 (z : Int))

theorem InB.below {B : Nat} {w w' : World} {a : Option Addr} {len : Nat} (h : InB B w a len) (hb : Below B w w') : InB B w' a len := fun j hj => by
  obtain ⟨b, off, z, h1, h2, h3, h4⟩ := h j hj
  exact ⟨b, off, z, h1, h2, h3, (hb.cell (p := ⟨b, off + j, none⟩) h2).trans h4⟩

theorem InB.next {w w' : World} {a : Option Addr} {len : Nat} (h : InB w.heap.size w a len) (hb : Below w.heap.size w w') : InB w'.heap.size w' a len := fun j hj => by
  obtain ⟨b, off, z, h1, h2, h3, h4⟩ := h.below hb j hj
  exact ⟨b, off, z, h1, Nat.lt_of_lt_of_le h2 hb.size, h3, h4⟩

theorem InB.of_row {w : World} {a : Option Addr} {len cap : Nat} {zs : List Int} (h : IsRow .u8 w a len cap zs) : InB w.heap.size w a len := by
  rcases h with ⟨_, rfl, _, _⟩ | ⟨x, rfl, hl, _, hz, hc, hw⟩
  · intro j hj; omega
  · intro j hj
    obtain ⟨b, off, spot⟩ := x
    have hcj := hc j (by omega)
    have hwf := hw (zs.getD j 0) (by rw [List.getD_eq_getElem?_getD, List.getElem?_eq_getElem (by omega)]; exact List.getElem_mem _)
    obtain ⟨b1, b2⟩ := bounds_u8 hwf
    have hspot : spot = none := by simpa [Addr.add] using World.cell?_spot (hc 0 (by omega))
    subst hspot
    have hadd : (⟨b, off, none⟩ : Addr).add j = ⟨b, off + j, none⟩ := by unfold Addr.add; split <;> simp_all
    rw [hadd] at hcj
    refine ⟨b, off, (zs.getD j 0).toNat, rfl, World.block_lt_of_cell? w _ hcj, by omega, ?_⟩
    rw [hcj]
    congr 2
    omega

/-- The cursor lies in block g. -/
def Cur (w : World) (g : Nat) (a : Option Addr) (len cap : Nat) : Prop :=
  ∃ (i : Nat) (h : Int), w.heap[g]? = some (.cells #[.slice a len cap, .int .i64 (i : Int), .int .i64 h] 97 (0, 0)) ∧ i ≤ len

theorem i64_and255 (n : Int) : bits .and .i64 n 255 = n % 256 := by
  have h255 : (BitVec.ofInt 64 255).toNat = 2 ^ 8 - 1 := by decide
  have key : (BitVec.ofInt 64 n &&& BitVec.ofInt 64 255).toNat = (n % ((2 ^ 64 : Nat) : Int)).toNat % 2 ^ 8 := by
    rw [BitVec.toNat_and, BitVec.toNat_ofInt, h255, Nat.and_two_pow_sub_one_eq_mod]
  show IntKind.i64.wrap ((BitVec.ofInt 64 n &&& BitVec.ofInt 64 255).toNat : Nat) = n % 256
  rw [key, IntKind.wrap_i64]
  omega

theorem small_nat (n : Int) : ∃ x : Nat, x < 256 ∧ n % 256 = (x : Int) := ⟨(n % 256).toNat, by omega, by omega⟩

theorem grown_set (w : World) (g j : Nat) (u : Value) : w.grownBy (w.setCell ⟨g, j, none⟩ u) (some g) :=
  ⟨rfl, rfl, rfl, by simp, fun k _ hk => heap_setCell_other w ⟨g, j, none⟩ k u (fun e => hk (by simp [e]))⟩

theorem grown_drews {w a : World} {row : Option Nat} (h : w.grownBy a row) (n : Nat) : w.grownBy (a.drewN n) row := ⟨h.os, h.tape, h.output, h.size, h.block⟩

theorem cur_two {w : World} {g : Nat} {a : Option Addr} {len cap : Nat} {i : Nat} {h H : Int} (hg : w.heap[g]? = some (.cells #[.slice a len cap, .int .i64 (i : Int), .int .i64 h] 97 (0, 0))) (hi : i ≤ len) :
    Cur (w.setCell ⟨g, 2, none⟩ (.int .i64 H)) g a len cap := ⟨i, H, heap_setCell_same w g 2 _ _ _ hg, hi⟩

theorem cur_one {w : World} {g : Nat} {a : Option Addr} {len cap : Nat} {i : Nat} {h H : Int} (hg : w.heap[g]? = some (.cells #[.slice a len cap, .int .i64 (i : Int), .int .i64 h] 97 (0, 0))) (hi : i < len) :
    Cur ((w.setCell ⟨g, 2, none⟩ (.int .i64 H)).setCell ⟨g, 1, none⟩ (.int .i64 ((i : Int) + 1))) g a len cap := by
  have h2 : (w.setCell ⟨g, 2, none⟩ (.int .i64 H)).heap[g]? = some (.cells #[.slice a len cap, .int .i64 (i : Int), .int .i64 H] 97 (0, 0)) := heap_setCell_same w g 2 _ _ _ hg
  exact ⟨i + 1, H, heap_setCell_same _ g 1 _ _ _ h2, hi⟩

set_option maxHeartbeats 1000000 in
set_option maxRecDepth 100000 in
theorem l01Byte_any (g B : Nat) (a : Option Addr) (len cap : Nat) (w : World) (hl : len ≤ 1048576) (hB : B ≤ g) (hin : InB B w a len) (hc : Cur w g a len cap) :
    Calls Try.prog 77 #[.pointer (some ⟨g, 0, none⟩)] w fun e w' => ∃ x : Nat, x < 256 ∧ e = .returned (.int .i64 (x : Int)) ∧ Cur w' g a len cap ∧ w.grownBy w' (some g) := by
  obtain ⟨i, h, hg, hi⟩ := hc
  have c0 : w.cell? ⟨g, 0, none⟩ = some (.slice a len cap) := by rw [cell_of_row w g 0 _ _ _ hg]; rfl
  have c1 : w.cell? ⟨g, 1, none⟩ = some (.int .i64 (i : Int)) := by rw [cell_of_row w g 1 _ _ _ hg]; rfl
  have c2 : w.cell? ⟨g, 2, none⟩ = some (.int .i64 h) := by rw [cell_of_row w g 2 _ _ _ hg]; rfl
  have f1 : w.frozen? ⟨g, 1, none⟩ = false := frozen_of_row w g 1 _ _ hg
  have f2 : w.frozen? ⟨g, 2, none⟩ = false := frozen_of_row w g 2 _ _ hg
  have HG := hide hg
  have HI := hide hin
  have hand : ∀ n : Int, bits .and .i64 n 255 = n % 256 := i64_and255
  clear hg hin
  by_cases hlt : i < len
  · obtain ⟨b, off, z, rfl, hbB, hz, hcz⟩ := unhide HI i hlt
    have hcz' : ∀ u, (w.setCell ⟨g, 2, none⟩ u).cell? ⟨b, off + i, none⟩ = some (.int .u8 (z : Int)) := fun u => (World.cell?_of_block (w := w) (heap_setCell_other w ⟨g, 2, none⟩ b u (by show b ≠ g; omega))).trans hcz
    have hli : (i : Int) < (len : Int) := by omega
    have hi0 : (0 : Int) ≤ (i : Int) := by omega
    go_enter Try.func77, Try.ntmps77
    go_wp2
    generalize wrap64 (wrap64 (h * 6364136223846793005) + 1442695040888963407) = H
    go_quiet (fail)
    go_wp2
    generalize bits .xor .i64 (H / 8589934592) (H / 35184372088832) = Y
    go_quiet (fail)
    go_wp2
    go_quiet (fail)
    go_wp2
    go_ret
    obtain ⟨x, hx, hxe⟩ := small_nat (Y + (z : Int))
    exact ⟨x, hx, ret_i64 hxe, cur_one (unhide HG) hlt, grown_trans (grown_drews (grown_set w g 2 _) _) (grown_set _ g 1 _)⟩
  · have hli : ¬ (i : Int) < (len : Int) := by omega
    go_enter Try.func77, Try.ntmps77
    go_wp2
    generalize wrap64 (wrap64 (h * 6364136223846793005) + 1442695040888963407) = H
    go_quiet (fail)
    go_wp2
    generalize bits .xor .i64 (H / 8589934592) (H / 35184372088832) = Y
    go_quiet (fail)
    go_wp2
    go_ret
    obtain ⟨x, hx, hxe⟩ := small_nat Y
    exact ⟨x, hx, ret_i64 hxe, cur_two (unhide HG) hi, grown_drews (grown_drews (grown_set w g 2 _) _) _⟩

/-- The cursor carried over a call that turns nothing old. -/
theorem Cur.grown {w w' : World} {g : Nat} {a : Option Addr} {len cap : Nat} {row : Option Nat} (h : Cur w g a len cap) (hg : w.grownBy w' row) (hr : row ≠ some g) : Cur w' g a len cap := by
  obtain ⟨i, hh, h1, h2⟩ := h
  refine ⟨i, hh, ?_, h2⟩
  rw [hg.block g (Array.getElem?_eq_some_iff.1 h1).1 (fun e => hr e.symm)]
  exact h1
theorem Cur.lt {w : World} {g : Nat} {a : Option Addr} {len cap : Nat} (h : Cur w g a len cap) : g < w.heap.size := by
  obtain ⟨i, hh, h1, h2⟩ := h
  exact (Array.getElem?_eq_some_iff.1 h1).1
theorem InB.grown {B g : Nat} {w w' : World} {a : Option Addr} {len : Nat} (h : InB B w a len) (hg : w.grownBy w' (some g)) (hB : B ≤ g) (hs : B ≤ w.heap.size) : InB B w' a len :=
  h.below (below_of_grown hg hs (fun k hk => by cases hk; exact hB))

theorem mod_nat {x n : Nat} (h : 0 < n) : ∃ y : Nat, y < n ∧ (x : Int) % (n : Int) = (y : Int) := ⟨x % n, Nat.mod_lt _ h, by simp⟩

set_option maxHeartbeats 1000000 in
theorem l01Below_any (g B : Nat) (a : Option Addr) (len cap : Nat) (n : Nat) (hn : 0 < n) (hn2 : n ≤ 4294967296) (w : World) (hl : len ≤ 1048576) (hB : B ≤ g) (hs : B ≤ w.heap.size) (hin : InB B w a len) (hc : Cur w g a len cap) :
    Calls Try.prog 47 #[.pointer (some ⟨g, 0, none⟩), .int .i64 (n : Int)] w fun e w' => ∃ x : Nat, x < n ∧ e = .returned (.int .i64 (x : Int)) ∧ Cur w' g a len cap ∧ w.grownBy w' (some g) := by
  have HC := hide hc
  have HI := hide hin
  clear hc hin
  have hn0 : ¬ (n : Int) ≤ 0 := by omega
  by_cases h256 : n ≤ 256
  · go_enter Try.func47, Try.ntmps47
    go_wp2_with (go_at_call 77; go_must (refine (l01Byte_any g B a len cap _ hl hB (unhide HI) (unhide HC)).mono ?_); rintro e w1 ⟨x, hx, rfl, hc1, hg1⟩; have C1 := hide hc1; have G1 := hide hg1; clear hc1 hg1)
    go_ret
    obtain ⟨y, hy, hye⟩ := mod_nat (x := x) hn
    exact ⟨y, hy, ret_i64 hye, unhide C1, unhide G1⟩
  · have h256' : ¬ (n : Int) ≤ 256 := by omega
    go_enter Try.func47, Try.ntmps47
    go_wp2_with fail
    refine (l01Byte_any g B a len cap _ hl hB (unhide HI) (unhide HC)).mono ?_
    rintro e w1 ⟨x1, hx1, rfl, hc1, hg1⟩
    have I1 := hide ((unhide HI).grown hg1 hB hs)
    have S1 := hide (Nat.le_trans hs hg1.size)
    have C1 := hide hc1
    have G1 := hide hg1
    clear hc1 hg1
    go_wp2_with fail
    refine (l01Byte_any g B a len cap _ hl hB (unhide I1) (unhide C1)).mono ?_
    rintro e w2 ⟨x2, hx2, rfl, hc2, hg2⟩
    have I2 := hide ((unhide I1).grown hg2 hB (unhide S1))
    have S2 := hide (Nat.le_trans (unhide S1) hg2.size)
    have C2 := hide hc2
    have G2 := hide (grown_trans (unhide G1) hg2)
    clear hc2 hg2
    go_wp2_with fail
    refine (l01Byte_any g B a len cap _ hl hB (unhide I2) (unhide C2)).mono ?_
    rintro e w3 ⟨x3, hx3, rfl, hc3, hg3⟩
    have I3 := hide ((unhide I2).grown hg3 hB (unhide S2))
    have C3 := hide hc3
    have G3 := hide (grown_trans (unhide G2) hg3)
    clear hc3 hg3
    go_wp2_with fail
    refine (l01Byte_any g B a len cap _ hl hB (unhide I3) (unhide C3)).mono ?_
    rintro e w4 ⟨x4, hx4, rfl, hc4, hg4⟩
    have C4 := hide hc4
    have G4 := hide (grown_trans (unhide G3) hg4)
    clear hc4 hg4
    go_wp2
    go_ret
    obtain ⟨y, hy, hye⟩ := mod_nat (x := x1 * 16777216 + x2 * 65536 + x3 * 256 + x4) hn
    exact ⟨y, hy, ret_i64 (by rw [← hye]; simp), unhide C4, unhide G4⟩

set_option maxHeartbeats 1000000 in
set_option maxRecDepth 100000 in
theorem l01New_any (a : Option Addr) (len cap : Nat) (w : World) (hl : len ≤ 1048576) (hin : InB w.heap.size w a len) :
    Calls Try.prog 36 #[.slice a len cap] w fun e w' => ∃ g, w.heap.size ≤ g ∧ e = .returned (.pointer (some ⟨g, 0, none⟩)) ∧ Cur w' g a len cap ∧ Below w.heap.size w w' := by
  have HI := hide hin
  clear hin
  go_enter Try.func36, Try.ntmps36
  go_wp2
  go_loop [3, 4] (fun t i => ∃ (h : Int) (k : Nat), t = .int .i64 h ∧ i = .int .i64 k ∧ k ≤ len ∧ k ≤ 4000) (fun _ i => 4000 - (intOf i).toNat)
  case atStart => exact ⟨_, 0, rfl, rfl, by omega, by omega⟩
  case round =>
    obtain ⟨h, k, rfl, rfl, hk, hk2⟩ := hrel
    by_cases hlt : k < len
    · by_cases h4 : k < 4000
      · obtain ⟨b, off, z, rfl, hbB, hz, hcz⟩ := unhide HI k hlt
        have hli : (k : Int) < (len : Int) := by omega
        have hi0 : (0 : Int) ≤ (k : Int) := by omega
        go_wp2
        go_round
        case rel => exact ⟨_, k + 1, rfl, by go_num, by omega, by omega⟩
        case measure => simp [intOf]; omega
      · have hli : (k : Int) < (len : Int) := by omega
        have h4' : ¬ (k : Int) < 4000 := by omega
        go_wp2
        go_ret
        exact ⟨_, Nat.le_refl _, rfl, ⟨0, _, heap_alloc_new _ _, by omega⟩, (Below.refl _ _).alloc (Nat.le_refl _) _⟩
    · have hli : ¬ (k : Int) < (len : Int) := by omega
      go_wp2
      go_ret
      exact ⟨_, Nat.le_refl _, rfl, ⟨0, _, heap_alloc_new _ _, by omega⟩, (Below.refl _ _).alloc (Nat.le_refl _) _⟩

/-- A row of the call's own above the cursor. -/
theorem own_grown {w w' : World} {g base e size n : Nat} {v : Value} {xs : List Value} (h : w.ownsRow base e size v n xs) (hg : w.grownBy w' (some g)) (hlt : g < base) : w'.ownsRow base e size v n xs :=
  h.kept hg (by
    cases hk : v.ownBlock with
    | none => exact .inl rfl
    | some k => refine .inr fun he => ?_; have := (h.lt k hk).1; cases he; omega)

theorem byte_row {w : World} {base x : Nat} {v : Value} {l : List UInt8} (hx : x < 256) (h : w.ownsRow base 5 1 v (l.map Bv ++ #[Value.int .u8 (x : Int)].toList).length (l.map Bv ++ #[Value.int .u8 (x : Int)].toList)) : w.ownsRow base 5 1 v (l ++ [UInt8.ofNat x]).length ((l ++ [UInt8.ofNat x]).map Bv) := by
  have e : l.map Bv ++ #[Value.int .u8 (x : Int)].toList = (l ++ [UInt8.ofNat x]).map Bv := by
    rw [one_byte (b := UInt8.ofNat x) (by rw [ofNat_toNat x hx]), List.map_append]
  rw [e, List.length_map] at h
  exact h

theorem grown_own {w0 a b : World} {g : Nat} {row : Option Nat} (h : w0.grownBy a (some g)) (k : a.grownBy b row) (hr : ∀ k, row = some k → w0.heap.size ≤ k) : w0.grownBy b (some g) :=
  ⟨k.os.trans h.os, k.tape.trans h.tape, k.output.trans h.output, Nat.le_trans h.size k.size, fun i hi hn => (k.block i (Nat.lt_of_lt_of_le hi h.size) (fun e => by have := hr i e.symm; omega)).trans (h.block i hi hn)⟩

/-- 'append' of one-cell elements beside the cursor. -/
theorem wpList_append_cur {P : Program} {ops : Array Oper} {rest : List Oper} {o : Oper} {ac : Act} {Q : Exit → Act → World → Prop} (wr : World) (hgd : o.guard = none) (s x : Operand) (t e : TypeId)
    (ho : o.op = .call { callee := .builtin .append, args := #[s, x], argTypes := #[t, t] })
    (base : Nat) (i : TypeInfo) (z : Value) (bytes : Nat) (ht : P.underlying t = some (.slice e)) (hi : P.info? e = some i) (hz : i.zero = some z) (hsize : i.size = 1) (hby : i.bytes = bytes) (hz1 : z.cells.size = 1)
    (v : Value) (xs : List Value) (hs : ac.eval s = v) (hown : wr.ownsRow base e 1 v xs.length xs)
    (cs : Array Value) (h1 : ∀ u ∈ cs.toList, u.oneCell' = true) (m c : Nat) (hm : m = cs.size) (hx : ac.eval x = .slice (some ⟨wr.heap.size, 0, none⟩) m c)
    (h63 : xs.length + cs.size ≤ maxLen) (hlen : (xs.length + cs.size) * bytes ≤ 140737488355328) (w0 : World) (hb0 : w0.heap.size ≤ base) (hbase : base ≤ wr.heap.size)
    (g : Nat) (a : Option Addr) (len cap : Nat) (hgb : g < base) (hG : w0.grownBy wr (some g)) (hC : Cur wr g a len cap)
    (h : ∀ v' w', w'.ownsRow base e 1 v' (xs ++ cs.toList).length (xs ++ cs.toList) → Cur w' g a len cap → w0.grownBy w' (some g) → wpList P ops Q rest (ac.put o.dst v') w') :
    wpList P ops Q (o :: rest) ac (wr.alloc (.cells cs e)) := by
  subst hm
  refine wpList_append_own (wr.alloc (.cells cs e)) hgd s x t ho base e i z 1 bytes ht hi hz hsize hby hz1 (by decide) v xs.length xs hs (hown.alloc _) ⟨wr.heap.size, 0, none⟩ cs.size c cs.toList hx (by simp) ?_ h1 h63 hlen (by simp; omega) ?_
  · intro j u hj
    have hadd : (⟨wr.heap.size, 0, none⟩ : Addr).add j = ⟨wr.heap.size, j, none⟩ := by unfold Addr.add; split <;> simp_all
    rw [hadd, World.cell?_alloc_mark wr cs e (0, 0) j, ← hj]
    simp
  · intro v' w' ho' hg _
    have hr : ∀ k, v.ownBlock = some k → base ≤ k := fun k hk => (hown.lt k hk).1
    refine h v' w' (by simpa using ho') ?_ ?_
    · exact (hC.grown (World.grownBy_alloc wr _ none) (by simp)).grown hg (fun e => by have := hr g e; omega)
    · exact grown_own (grown_own hG (World.grownBy_alloc wr _ none) (by simp)) hg (fun k hk => Nat.le_trans hb0 (hr k hk))
end Go.Proofs.Ytjnnaaafehndpaa

/-
  DrawPlaces: twelve numbers in 0 .. 9999.
-/
namespace Go.Proofs.Ytjnnaaafehndpaa
open Go.RowKit


/-- A number as a value. -/
def Nv (n : Nat) : Value := .int .i64 (n : Int)
theorem all_snoc {p : List Nat} {x n : Nat} (h : ∀ y ∈ p, y < n) (hx : x < n) : ∀ y ∈ p ++ [x], y < n := by
  intro y hy
  rcases List.mem_append.1 hy with h' | h'
  · exact h y h'
  · simp at h'; omega
theorem num_row {w : World} {base x : Nat} {v : Value} {p : List Nat} (h : w.ownsRow base 3 1 v (p.map Nv ++ #[Value.int .i64 (x : Int)].toList).length (p.map Nv ++ #[Value.int .i64 (x : Int)].toList)) : w.ownsRow base 3 1 v (p ++ [x]).length ((p ++ [x]).map Nv) := by
  have e : p.map Nv ++ #[Value.int .i64 (x : Int)].toList = (p ++ [x]).map Nv := by simp [Nv]
  rw [e, List.length_map] at h
  exact h

theorem big_no (a : Option Addr) (len cap : Nat) (hl : len ≤ 1048576) (w : World) :
    Calls Try.prog 9 #[.slice a len cap] w fun e w' => e = .returned (.bool false) ∧ w' = w := by
  have hd : decide ((1048576 : Int) < (len : Int)) = false := by simp; omega
  go_enter Try.func9, Try.ntmps9
  go_wp2
  go_ret
  exact ⟨rfl, rfl⟩
theorem big_yes (a : Option Addr) (len cap : Nat) (hl : ¬ len ≤ 1048576) (w : World) :
    Calls Try.prog 9 #[.slice a len cap] w fun e w' => e = .returned (.bool true) ∧ w' = w := by
  have hd : decide ((1048576 : Int) < (len : Int)) = true := by simp; omega
  go_enter Try.func9, Try.ntmps9
  go_wp2
  go_ret
  exact ⟨rfl, rfl⟩

end Go.Proofs.Ytjnnaaafehndpaa

/-
  FnMeets, from the contracts. (By meetslaw.py.)
-/
namespace Go.Proofs.Ytjnnaaafehndpaa
open Go.RowKit
set_option linter.unusedVariables false

theorem meetTwo_res {w w' : World} {r : Ending} {a b c d e f g h : Int} {n m : Nat} {F G : Nat → Int} (h1 : MOk a b c d n F) (h2 : MOk e f g h m G) (hr : MeetRes w r w' (maskOkB a b c d n F && maskOkB e f g h m G) a b c d F e f g h G) :
    MaskRes w r w' (meet0 a b c d e f g h) (meet1 a b c d e f g h) (meet2 a b c d e f g h) (meet3 a b c d e f g h) (sqN (meet0 a b c d e f g h) (meet1 a b c d e f g h) (meet2 a b c d e f g h) (meet3 a b c d e f g h)) (meetF (meet0 a b c d e f g h) (meet1 a b c d e f g h) (meet2 a b c d e f g h) a b c d F e f g h G) := by
  rw [maskOk_iff.2 h1, maskOk_iff.2 h2] at hr; exact hr
theorem meetSelf_res {w w' : World} {r : Ending} {a b c d : Int} {n : Nat} {F : Nat → Int} (h1 : MOk a b c d n F) (hr : MeetRes w r w' (maskOkB a b c d n F && maskOkB a b c d n F) a b c d F a b c d F) : MaskRes w r w' a b c d n F := by
  have h := meetTwo_res h1 h1 hr
  obtain ⟨e0, e1, e2, e3, en, ef⟩ := meet_self h1
  rw [e0, e1, e2, e3, en] at h
  exact h.congr ef
theorem bits_ok {a b c d : Int} {n : Nat} {F : Nat → Int} (h1 : MOk a b c d n F) (x y : Int) : bitsI a b c d n F x y = atI a b c d F x y := by
  unfold bitsI; rw [if_pos (maskOk_iff.2 h1)]
/-- Two right masks that a call owns. -/
def TwoMasks (w : World) (r : Ending) (w' : World) : Prop :=
  ∃ (a b c d : Int) (ao : Option Addr) (n ca : Nat) (F : Nat → Int) (e f g h : Int) (bo : Option Addr) (m cb : Nat) (G : Nat → Int), r = .returned (.tuple #[.agg #[.int .i64 a, .int .i64 b, .int .i64 c, .int .i64 d, .slice ao n ca], .agg #[.int .i64 e, .int .i64 f, .int .i64 g, .int .i64 h, .slice bo m cb]]) ∧ IntsV w' w.heap.size (.slice ao n ca) n F ∧ MOk a b c d n F ∧ IntsV w' w.heap.size (.slice bo m cb) m G ∧ MOk e f g h m G ∧ Below w.heap.size w w'

set_option maxHeartbeats 16000000 in
set_option maxRecDepth 100000 in
theorem fnMeets_of (EI : ∀ (a b c d : Int) (F : Nat → Int) (ao : Option Addr) (n ca : Nat) (hn : n ≤ 1048576) (hca : n ≤ ca) (e f g h : Int) (G : Nat → Int) (bo : Option Addr) (m cb : Nat) (hm : m ≤ 1048576) (hcb : m ≤ cb) (w : World) (PA : ∀ i, i < n → IntAt w ao i (F i)) (PB : ∀ i, i < m → IntAt w bo i (G i)), Calls Try.prog 18 #[.agg #[.int .i64 a, .int .i64 b, .int .i64 c, .int .i64 d, .slice ao n ca], .agg #[.int .i64 e, .int .i64 f, .int .i64 g, .int .i64 h, .slice bo m cb]] w fun r w' => MeetRes w r w' (maskOkB a b c d n F && maskOkB e f g h m G) a b c d F e f g h G)
    (EO : ∀ (a b c d : Int) (f : Nat → Int) (ao : Option Addr) (n cp : Nat) (hn : n ≤ 1048576) (w : World) (P : ∀ i, i < n → IntAt w ao i (f i)), Calls Try.prog 17 #[.agg #[.int .i64 a, .int .i64 b, .int .i64 c, .int .i64 d, .slice ao n cp]] w fun r w' => r = .returned (.bool (maskOkB a b c d n f)) ∧ Below w.heap.size w w')
    (EB : ∀ (a b c d : Int) (f : Nat → Int) (ao : Option Addr) (n cp : Nat) (hn : n ≤ 1048576) (hc : n ≤ cp) (x y : Int) (w : World) (P : ∀ i, i < n → IntAt w ao i (f i)), Calls Try.prog 13 #[.agg #[.int .i64 a, .int .i64 b, .int .i64 c, .int .i64 d, .slice ao n cp], .int .i64 x, .int .i64 y] w fun r w' => r = .returned (.int .i64 (bitsI a b c d n f x y)) ∧ Below w.heap.size w w')
    (ED : ∀ (a : Option Addr) (len cap : Nat) (w : World) (hl : len ≤ 1048576) (hin : InB w.heap.size w a len), Calls Try.prog 10 #[.slice a len cap] w fun r w' => TwoMasks w r w')
    (a0 : Option Addr) (len0 cap0 : Nat) (z0 : List Int) (w : World) (w0 : IsRow .u8 w a0 len0 cap0 z0) :
    Calls Try.prog 4 #[.slice a0 len0 cap0] w fun e w' => e = .returned (.bool true) ∧ Below w.heap.size w w' := by
  by_cases hl : len0 ≤ 1048576
  · have HI := hide (InB.of_row w0)
    clear w0
    replace EI := hide EI
    replace EO := hide EO
    replace EB := hide EB
    replace ED := hide ED
    go_enter Try.func4, Try.ntmps4
    go_wp2_with fail
    refine (big_no a0 len0 cap0 hl _).mono ?_
    rintro r w1 ⟨rfl, rfl⟩
    go_wp2_with fail
    refine (unhide ED a0 len0 cap0 _ hl (unhide HI)).mono ?_
    rintro r w2 ⟨a, b, c, d, ao, n, ca, F, e, f, g, h, bo, m, cb, G, rfl, hpA, okA, hpB, okB, hb2⟩
    have pa := hide hpA
    have pb := hide hpB
    have hn := hide (show n ≤ 1048576 from Nat.le_trans okA.le (by omega))
    have hm := hide (show m ≤ 1048576 from Nat.le_trans okB.le (by omega))
    have HB := hide hb2
    replace okA := hide okA
    replace okB := hide okB
    clear hpA hpB hb2 HI
    go_upto_region 4 with fail
    have RA := hide (al2_0 w2 (.cells #[.int .i64 a, .int .i64 b, .int .i64 c, .int .i64 d, .slice ao n ca] 28) (.cells #[.int .i64 e, .int .i64 f, .int .i64 g, .int .i64 h, .slice bo m cb] 28))
    have RB := hide (al2_1 w2 (.cells #[.int .i64 a, .int .i64 b, .int .i64 c, .int .i64 d, .slice ao n ca] 28) (.cells #[.int .i64 e, .int .i64 f, .int .i64 g, .int .i64 h, .slice bo m cb] 28))
    have hb := al2_below w2 (.cells #[.int .i64 a, .int .i64 b, .int .i64 c, .int .i64 d, .slice ao n ca] 28) (.cells #[.int .i64 e, .int .i64 f, .int .i64 g, .int .i64 h, .slice bo m cb] 28)
    replace pa := hide ((unhide pa).next hb)
    replace pb := hide ((unhide pb).next hb)
    replace HB := hide (below_two (unhide HB) hb)
    clear hb
    generalize (w2.alloc (.cells #[.int .i64 a, .int .i64 b, .int .i64 c, .int .i64 d, .slice ao n ca] 28)).alloc (.cells #[.int .i64 e, .int .i64 f, .int .i64 g, .int .i64 h, .slice bo m cb] 28) = W0 at *
    generalize w2.heap.size + 1 = b_RB at RB ⊢
    generalize w2.heap.size = b_RA at RA ⊢
    have CUR := hide (Nat.zero_le W0.heap.size)
    generalize w1.heap.size = B0 at pa pb
    have ORD := hide True.intro
    have I := hide (fun (u : World) (h1 : IntsV u B0 (.slice ao n ca) n F) (h2 : IntsV u B0 (.slice bo m cb) m G) => (unhide EI a b c d F ao n ca (unhide hn) h1.cap e f g h G bo m cb (unhide hm) h2.cap u h1.ints h2.ints).mono (fun r w' hr => meetTwo_res (unhide okA) (unhide okB) hr))
    have S := hide (fun (u : World) (h1 : IntsV u B0 (.slice ao n ca) n F) (h2 : IntsV u B0 (.slice bo m cb) m G) => (specMeetMask_any a b c d F ao n ca (unhide hn) e f g h G bo m cb (unhide hm) u h1.ints h2.ints).mono (fun r w' hr => meetTwo_res (unhide okA) (unhide okB) hr))
    have IS := hide (fun (u : World) (h1 : IntsV u B0 (.slice ao n ca) n F) => (unhide EI a b c d F ao n ca (unhide hn) h1.cap a b c d F ao n ca (unhide hn) h1.cap u h1.ints h1.ints).mono (fun r w' hr => meetSelf_res (unhide okA) hr))
    have okM := hide (meet_ok (unhide okA) (unhide okB))
    have AT := hide (meet_at (unhide okA) (unhide okB))
    generalize meetF (meet0 a b c d e f g h) (meet1 a b c d e f g h) (meet2 a b c d e f g h) a b c d F e f g h G = mf at I S okM AT
    generalize sqN (meet0 a b c d e f g h) (meet1 a b c d e f g h) (meet2 a b c d e f g h) (meet3 a b c d e f g h) = N at I S okM
    generalize meet0 a b c d e f g h = x0 at I S okM AT
    generalize meet1 a b c d e f g h = x1 at I S okM AT
    generalize meet2 a b c d e f g h = x2 at I S okM AT
    generalize meet3 a b c d e f g h = x3 at I S okM AT
    have hN := hide (show N ≤ 1048576 from Nat.le_trans (unhide okM).le (by omega))
    have OM := hide (fun (u : World) (z : Option Addr) (cz base : Nat) (h1 : IntsV u base (.slice z N cz) N mf) => unhide EO x0 x1 x2 x3 mf z N cz (unhide hN) u h1.ints)
    rw [maskOk_iff.2 (unhide okM)] at OM
    have SM := hide (fun (u : World) (z z' : Option Addr) (cz cz' base base' : Nat) (h1 : IntsV u base (.slice z N cz) N mf) (h2 : IntsV u base' (.slice z' N cz') N mf) => sameMask_any x0 x1 x2 x3 mf z z' N cz cz' (unhide hN) u h1.ints h2.ints)
    have SA := hide (fun (u : World) (z z' : Option Addr) (cz cz' base base' : Nat) (h1 : IntsV u base (.slice z n cz) n F) (h2 : IntsV u base' (.slice z' n cz') n F) => sameMask_any a b c d F z z' n cz cz' (unhide hn) u h1.ints h2.ints)
    have BA := hide (fun (x y : Int) (u : World) (h1 : IntsV u B0 (.slice ao n ca) n F) => unhide EB a b c d F ao n ca (unhide hn) h1.cap x y u h1.ints)
    simp only [bits_ok (unhide okA)] at BA
    have DBA := hide (at_bd (unhide okA))
    generalize atI a b c d F = fBA at BA DBA AT
    have BB := hide (fun (x y : Int) (u : World) (h1 : IntsV u B0 (.slice bo m cb) m G) => unhide EB e f g h G bo m cb (unhide hm) h1.cap x y u h1.ints)
    simp only [bits_ok (unhide okB)] at BB
    have DBB := hide (at_bd (unhide okB))
    generalize atI e f g h G = fBB at BB DBB AT
    have BM := hide (fun (x y : Int) (u : World) (z : Option Addr) (cz base : Nat) (h1 : IntsV u base (.slice z N cz) N mf) => unhide EB x0 x1 x2 x3 mf z N cz (unhide hN) h1.cap x y u h1.ints)
    simp only [bits_ok (unhide okM), unhide AT] at BM
    clear EI EO EB ED AT okA okB okM hn hm hN hl
    obtain ⟨q_RA_0, q_RA_1, q_RA_2, q_RA_3, q_RA_4⟩ := row5m (unhide RA)
    obtain ⟨q_RB_0, q_RB_1, q_RB_2, q_RB_3, q_RB_4⟩ := row5m (unhide RB)
    go_wp2_with fail
    clear q_RA_0 q_RA_1 q_RA_2 q_RA_3 q_RA_4 q_RB_0 q_RB_1 q_RB_2 q_RB_3 q_RB_4
    go_fit (unhide I _ (unhide pa) (unhide pb))
    intro r w3 hres
    obtain ⟨am, cm, rfl, hp, hb⟩ := MaskRes.open hres
    clear hres
    replace RA := hide (row_next hb (unhide RA))
    replace RB := hide (row_next hb (unhide RB))
    replace pa := hide ((unhide pa).next hb)
    replace pb := hide ((unhide pb).next hb)
    replace CUR := hide (Nat.le_trans (unhide CUR) (Below.size hb))
    replace HB := hide (below_two (unhide HB) hb)
    clear hb
    have pm := hide hp
    generalize W0.heap.size = B1 at pm
    clear hp
    go_upto_region 5 with fail
    have RM := hide (al1_0 w3 (.cells #[.int .i64 x0, .int .i64 x1, .int .i64 x2, .int .i64 x3, .slice am N cm] 28))
    have hb := al1_below w3 (.cells #[.int .i64 x0, .int .i64 x1, .int .i64 x2, .int .i64 x3, .slice am N cm] 28)
    replace RA := hide (row_next hb (unhide RA))
    replace RB := hide (row_next hb (unhide RB))
    replace pa := hide ((unhide pa).next hb)
    replace pb := hide ((unhide pb).next hb)
    replace pm := hide ((unhide pm).next hb)
    replace CUR := hide (Nat.le_trans (unhide CUR) (Below.size hb))
    replace HB := hide (below_two (unhide HB) hb)
    clear hb
    generalize w3.alloc (.cells #[.int .i64 x0, .int .i64 x1, .int .i64 x2, .int .i64 x3, .slice am N cm] 28) = W4 at *
    generalize w3.heap.size = b_RM at RM ⊢
    have k0 := hide (show ∀ u, Below W4.heap.size W4 u → (u.cell? ⟨b_RA, 0, none⟩ = some (.int .i64 a) ∧ u.cell? ⟨b_RA, 1, none⟩ = some (.int .i64 b) ∧ u.cell? ⟨b_RA, 2, none⟩ = some (.int .i64 c) ∧ u.cell? ⟨b_RA, 3, none⟩ = some (.int .i64 d) ∧ u.cell? ⟨b_RA, 4, none⟩ = some (.slice ao n ca) ∧ u.cell? ⟨b_RB, 0, none⟩ = some (.int .i64 e) ∧ u.cell? ⟨b_RB, 1, none⟩ = some (.int .i64 f) ∧ u.cell? ⟨b_RB, 2, none⟩ = some (.int .i64 g) ∧ u.cell? ⟨b_RB, 3, none⟩ = some (.int .i64 h) ∧ u.cell? ⟨b_RB, 4, none⟩ = some (.slice bo m cb) ∧ u.cell? ⟨b_RM, 0, none⟩ = some (.int .i64 x0) ∧ u.cell? ⟨b_RM, 1, none⟩ = some (.int .i64 x1) ∧ u.cell? ⟨b_RM, 2, none⟩ = some (.int .i64 x2) ∧ u.cell? ⟨b_RM, 3, none⟩ = some (.int .i64 x3) ∧ u.cell? ⟨b_RM, 4, none⟩ = some (.slice am N cm) ∧ Below W4.heap.size W4 u) from fun u h => ⟨(row5m (row_next h (unhide RA))).1, (row5m (row_next h (unhide RA))).2.1, (row5m (row_next h (unhide RA))).2.2.1, (row5m (row_next h (unhide RA))).2.2.2.1, (row5m (row_next h (unhide RA))).2.2.2.2, (row5m (row_next h (unhide RB))).1, (row5m (row_next h (unhide RB))).2.1, (row5m (row_next h (unhide RB))).2.2.1, (row5m (row_next h (unhide RB))).2.2.2.1, (row5m (row_next h (unhide RB))).2.2.2.2, (row5m (row_next h (unhide RM))).1, (row5m (row_next h (unhide RM))).2.1, (row5m (row_next h (unhide RM))).2.2.1, (row5m (row_next h (unhide RM))).2.2.2.1, (row5m (row_next h (unhide RM))).2.2.2.2, h⟩)
    have kS := hide (show ∀ u, (u.cell? ⟨b_RA, 0, none⟩ = some (.int .i64 a) ∧ u.cell? ⟨b_RA, 1, none⟩ = some (.int .i64 b) ∧ u.cell? ⟨b_RA, 2, none⟩ = some (.int .i64 c) ∧ u.cell? ⟨b_RA, 3, none⟩ = some (.int .i64 d) ∧ u.cell? ⟨b_RA, 4, none⟩ = some (.slice ao n ca) ∧ u.cell? ⟨b_RB, 0, none⟩ = some (.int .i64 e) ∧ u.cell? ⟨b_RB, 1, none⟩ = some (.int .i64 f) ∧ u.cell? ⟨b_RB, 2, none⟩ = some (.int .i64 g) ∧ u.cell? ⟨b_RB, 3, none⟩ = some (.int .i64 h) ∧ u.cell? ⟨b_RB, 4, none⟩ = some (.slice bo m cb) ∧ u.cell? ⟨b_RM, 0, none⟩ = some (.int .i64 x0) ∧ u.cell? ⟨b_RM, 1, none⟩ = some (.int .i64 x1) ∧ u.cell? ⟨b_RM, 2, none⟩ = some (.int .i64 x2) ∧ u.cell? ⟨b_RM, 3, none⟩ = some (.int .i64 x3) ∧ u.cell? ⟨b_RM, 4, none⟩ = some (.slice am N cm) ∧ Below W4.heap.size W4 u) → Below W4.heap.size W4 u from fun u h => h.2.2.2.2.2.2.2.2.2.2.2.2.2.2.2)
    have k00 := hide (unhide k0 _ (Below.refl _ _).drew)
    have hd : W4.drew.heap.size = W4.heap.size := rfl
    go_cut [32] (fun s u => s = .bool false ∧ Below W4.heap.size W4 u)
    case first =>
      go_region_held3 (fun u => u.cell? ⟨b_RA, 0, none⟩ = some (.int .i64 a) ∧ u.cell? ⟨b_RA, 1, none⟩ = some (.int .i64 b) ∧ u.cell? ⟨b_RA, 2, none⟩ = some (.int .i64 c) ∧ u.cell? ⟨b_RA, 3, none⟩ = some (.int .i64 d) ∧ u.cell? ⟨b_RA, 4, none⟩ = some (.slice ao n ca) ∧ u.cell? ⟨b_RB, 0, none⟩ = some (.int .i64 e) ∧ u.cell? ⟨b_RB, 1, none⟩ = some (.int .i64 f) ∧ u.cell? ⟨b_RB, 2, none⟩ = some (.int .i64 g) ∧ u.cell? ⟨b_RB, 3, none⟩ = some (.int .i64 h) ∧ u.cell? ⟨b_RB, 4, none⟩ = some (.slice bo m cb) ∧ u.cell? ⟨b_RM, 0, none⟩ = some (.int .i64 x0) ∧ u.cell? ⟨b_RM, 1, none⟩ = some (.int .i64 x1) ∧ u.cell? ⟨b_RM, 2, none⟩ = some (.int .i64 x2) ∧ u.cell? ⟨b_RM, 3, none⟩ = some (.int .i64 x3) ∧ u.cell? ⟨b_RM, 4, none⟩ = some (.slice am N cm) ∧ Below W4.heap.size W4 u) ((first | with_reducible exact unhide k00 | (refine unhide k0 _ ?_; first | with_reducible assumption | (with_reducible refine below_new _ ?_ (Nat.le_refl _); with_reducible assumption) | (with_reducible refine Below.drew ?_; with_reducible exact below_new _ (Below.refl _ _) (Nat.le_refl _)) | (with_reducible refine below_put5 ?_ ?_ _ _ _ _ _ <;> first | with_reducible assumption | omega)))) (first | (go_at_call 17; go_fit (unhide OM _ _ _ _ ((unhide pm).next (unhide kS _ (by with_reducible assumption)))); rintro r y1 ⟨rfl, hb1⟩; have hW1 := below_after hb1 (unhide kS _ (by with_reducible assumption)) (Nat.le_refl _); have hsz := hb1.size; have hge := hW1.size; (first | (replace pv := hide ((unhide pv).next hb1)) | skip)) | (go_at_call 19; go_fit (unhide S _ ((unhide pa).next (unhide kS _ (by with_reducible assumption))) ((unhide pb).next (unhide kS _ (by with_reducible assumption)))); intro r y1 hres; obtain ⟨a1, c1, rfl, hp1, hb1⟩ := MaskRes.open hres; clear hres; have pv := hide hp1; clear hp1; have hW1 := below_after hb1 (unhide kS _ (by with_reducible assumption)) (Nat.le_refl _); have hsz := hb1.size; have hge := hW1.size) | (go_at_call 16; go_fit (unhide SM _ _ _ _ _ _ _ ((unhide pm).next (unhide kS _ (by with_reducible assumption))) (unhide pv)); rintro r y1 ⟨rfl, hb1⟩; have hW1 := below_after hb1 (unhide kS _ (by with_reducible assumption)) (Nat.le_refl _); have hsz := hb1.size; have hge := hW1.size))
      all_goals
        go_wp2_with fail
        go_meet
        exact ⟨rfl, unhide kS _ (by with_reducible assumption)⟩
    case rest =>
      obtain ⟨rfl, hb⟩ := hcut
      replace RA := hide (row_next hb (unhide RA))
      replace RB := hide (row_next hb (unhide RB))
      replace RM := hide (row_next hb (unhide RM))
      replace pa := hide ((unhide pa).next hb)
      replace pb := hide ((unhide pb).next hb)
      replace pm := hide ((unhide pm).next hb)
      replace CUR := hide (Nat.le_trans (unhide CUR) (Below.size hb))
      replace HB := hide (below_two (unhide HB) hb)
      clear hb k0 kS k00 hd
      generalize wc = X5 at *
      clear SM S I OM
      go_wp2_with fail
      go_loopw [6] (fun y u => ∃ j : Nat, j ≤ 19 ∧ y = .int .i64 ((j : Int) - 3) ∧ Below X5.heap.size X5 u) (fun y _ => (16 - intOf y).toNat)
      case atStart => exact ⟨0, by omega, rfl, Below.refl _ _⟩
      case round =>
        obtain ⟨j, hj, rfl, hb⟩ := hrel
        by_cases hlt : j < 19
        · have hji : (j : Int) - 3 < 16 := by omega
          have wj : IntKind.i64.wrap ((j : Int) - 3 + 1) = (j : Int) - 3 + 1 := IntWalk.i64_in _ (by omega)
          replace hb := hide hb
          go_upto_region 11 with fail
          go_loopw [7] (fun x u => ∃ t : Nat, t ≤ 19 ∧ x = .int .i64 ((t : Int) - 3) ∧ Below X5.heap.size X5 u) (fun x _ => (16 - intOf x).toNat)
          case atStart => exact ⟨0, by omega, rfl, unhide hb⟩
          case round =>
            clear hb
            obtain ⟨t, ht, rfl, hb⟩ := hrel
            by_cases hlt' : t < 19
            · have hti : (t : Int) - 3 < 16 := by omega
              have wt : IntKind.i64.wrap ((t : Int) - 3 + 1) = (t : Int) - 3 + 1 := IntWalk.i64_in _ (by omega)
              generalize hX : (t : Int) - 3 = X at hti wt ⊢
              generalize hY : (j : Int) - 3 = Y at hji wj ⊢
              replace hX := hide hX
              replace hY := hide hY
              replace hb := hide hb
              have dA := unhide DBA X Y
              have dB := unhide DBB X Y
              have EA := hide (unhide BA X Y)
              have EB := hide (unhide BB X Y)
              have EM := hide (unhide BM X Y)
              generalize fBA X Y = p at dA EA EM
              generalize fBB X Y = q at dB EB EM
              have dR := both_bd p q
              have BT := hide (both_bit dA dB)
              generalize bothI p q = s at dR BT EM
              obtain ⟨q_RA_0, q_RA_1, q_RA_2, q_RA_3, q_RA_4⟩ := row5m (row_next (unhide hb) (unhide RA))
              go_wp2_with fail
              go_fit (unhide EA _ ((unhide pa).next (unhide hb)))
              rintro r u1 ⟨rfl, hb'⟩
              replace hb := hide (below_after hb' (unhide hb) (Nat.le_refl _))
              clear hb' q_RA_0 q_RA_1 q_RA_2 q_RA_3 q_RA_4
              obtain ⟨q_RB_0, q_RB_1, q_RB_2, q_RB_3, q_RB_4⟩ := row5m (row_next (unhide hb) (unhide RB))
              go_wp2_with fail
              go_fit (unhide EB _ ((unhide pb).next (unhide hb)))
              rintro r u2 ⟨rfl, hb'⟩
              replace hb := hide (below_after hb' (unhide hb) (Nat.le_refl _))
              clear hb' q_RB_0 q_RB_1 q_RB_2 q_RB_3 q_RB_4
              obtain ⟨q_RM_0, q_RM_1, q_RM_2, q_RM_3, q_RM_4⟩ := row5m (row_next (unhide hb) (unhide RM))
              go_wp2_with fail
              go_fit (unhide EM _ _ _ _ ((unhide pm).next (unhide hb)))
              rintro r u3 ⟨rfl, hb'⟩
              replace hb := hide (below_after hb' (unhide hb) (Nat.le_refl _))
              clear hb' q_RM_0 q_RM_1 q_RM_2 q_RM_3 q_RM_4
              clear EA EB EM
              go_upto_region 17 with fail
              go_loopw [11] (fun z u => ∃ i : Nat, i ≤ 4 ∧ z = .int .i64 (2 ^ i) ∧ Below X5.heap.size X5 u) (fun z _ => (16 - intOf z).toNat)
              case atStart => exact ⟨0, by omega, rfl, unhide hb⟩
              case round =>
                clear hb
                obtain ⟨i, hi, rfl, hb⟩ := hrel
                replace hb := hide hb
                by_cases h4 : i = 4
                · subst h4
                  go_wp2_with fail
                  go_roundw
                  case rel => exact ⟨t + 1, by omega, congrArg (Value.int .i64) (by have := unhide hX; push_cast; omega), unhide hb⟩
                  case measure => have := unhide hX; simp [intOf]; omega
                · have h5 : i = 0 ∨ i = 1 ∨ i = 2 ∨ i = 3 := by omega
                  clear h4
                  rcases h5 with rfl | rfl | rfl | rfl
                  · have bt := hide (show s % 2 = 1 ↔ (p % 2 = 1 ∧ q % 2 = 1) from by have h := unhide BT 0 (by omega); rw [show (2 : Int) ^ 0 = 1 from rfl, Int.ediv_one, Int.ediv_one, Int.ediv_one] at h; exact h)
                    have f1 : p.tmod 2 = p % 2 := Int.tmod_eq_emod_of_nonneg (by omega)
                    have v1 : IntKind.i64.wrap p = p := IntWalk.i64_in _ (by omega)
                    have f2 : q.tmod 2 = q % 2 := Int.tmod_eq_emod_of_nonneg (by omega)
                    have v2 : IntKind.i64.wrap q = q := IntWalk.i64_in _ (by omega)
                    have f3 : s.tmod 2 = s % 2 := Int.tmod_eq_emod_of_nonneg (by omega)
                    have v3 : IntKind.i64.wrap s = s := IntWalk.i64_in _ (by omega)
                    by_cases cp : p % 2 = 1
                    · have dp : ((p % 2) == 1) = true := beq_iff_eq.2 cp
                      by_cases cq : q % 2 = 1
                      · have dq : ((q % 2) == 1) = true := beq_iff_eq.2 cq
                        have ds : ((s % 2) == 1) = true := beq_iff_eq.2 ((unhide bt).2 ⟨cp, cq⟩)
                        go_wp2_with fail
                        obtain ⟨J, FW, hJ, F1, F2⟩ := kept_worlds wr
                        replace F1 := hide F1
                        replace F2 := hide F2
                        refine wp_region_quiet_in (unhide F1) (by kernel_rfl) (by kernel_rfl) ?_
                        repeat (go_big_quiet_step (fail))
                        refine wpQuiet_nil ?_
                        rintro _ ⟨y, rfl⟩
                        have hF := unhide F2 y
                        clear F1
                        go_wp2_with fail
                        go_roundw
                        case rel => exact ⟨1, by omega, by go_num, below_after hF (unhide hb) (Nat.le_refl _)⟩
                        case measure => simp [intOf]
                      · have dq : ((q % 2) == 1) = false := beq_eq_false_iff_ne.2 cq
                        have ds : ((s % 2) == 1) = false := beq_eq_false_iff_ne.2 (fun hh => cq ((unhide bt).1 hh).2)
                        go_wp2_with fail
                        obtain ⟨J, FW, hJ, F1, F2⟩ := kept_worlds wr
                        replace F1 := hide F1
                        replace F2 := hide F2
                        refine wp_region_quiet_in (unhide F1) (by kernel_rfl) (by kernel_rfl) ?_
                        repeat (go_big_quiet_step (fail))
                        refine wpQuiet_nil ?_
                        rintro _ ⟨y, rfl⟩
                        have hF := unhide F2 y
                        clear F1
                        go_wp2_with fail
                        go_roundw
                        case rel => exact ⟨1, by omega, by go_num, below_after hF (unhide hb) (Nat.le_refl _)⟩
                        case measure => simp [intOf]
                    · have dp : ((p % 2) == 1) = false := beq_eq_false_iff_ne.2 cp
                      have ds : ((s % 2) == 1) = false := beq_eq_false_iff_ne.2 (fun hh => cp ((unhide bt).1 hh).1)
                      go_wp2_with fail
                      obtain ⟨J, FW, hJ, F1, F2⟩ := kept_worlds wr
                      replace F1 := hide F1
                      replace F2 := hide F2
                      refine wp_region_quiet_in (unhide F1) (by kernel_rfl) (by kernel_rfl) ?_
                      repeat (go_big_quiet_step (fail))
                      refine wpQuiet_nil ?_
                      rintro _ ⟨y, rfl⟩
                      have hF := unhide F2 y
                      clear F1
                      go_wp2_with fail
                      go_roundw
                      case rel => exact ⟨1, by omega, by go_num, below_after hF (unhide hb) (Nat.le_refl _)⟩
                      case measure => simp [intOf]
                  · have bt := hide (show s / 2 % 2 = 1 ↔ (p / 2 % 2 = 1 ∧ q / 2 % 2 = 1) from unhide BT 1 (by omega))
                    have e1 : p.tdiv 2 = p / 2 := Int.tdiv_eq_ediv_of_nonneg (by omega)
                    have f1 : (p / 2).tmod 2 = p / 2 % 2 := Int.tmod_eq_emod_of_nonneg (by omega)
                    have v1 : IntKind.i64.wrap (p / 2) = p / 2 := IntWalk.i64_in _ (by omega)
                    have e2 : q.tdiv 2 = q / 2 := Int.tdiv_eq_ediv_of_nonneg (by omega)
                    have f2 : (q / 2).tmod 2 = q / 2 % 2 := Int.tmod_eq_emod_of_nonneg (by omega)
                    have v2 : IntKind.i64.wrap (q / 2) = q / 2 := IntWalk.i64_in _ (by omega)
                    have e3 : s.tdiv 2 = s / 2 := Int.tdiv_eq_ediv_of_nonneg (by omega)
                    have f3 : (s / 2).tmod 2 = s / 2 % 2 := Int.tmod_eq_emod_of_nonneg (by omega)
                    have v3 : IntKind.i64.wrap (s / 2) = s / 2 := IntWalk.i64_in _ (by omega)
                    by_cases cp : p / 2 % 2 = 1
                    · have dp : ((p / 2 % 2) == 1) = true := beq_iff_eq.2 cp
                      by_cases cq : q / 2 % 2 = 1
                      · have dq : ((q / 2 % 2) == 1) = true := beq_iff_eq.2 cq
                        have ds : ((s / 2 % 2) == 1) = true := beq_iff_eq.2 ((unhide bt).2 ⟨cp, cq⟩)
                        go_wp2_with fail
                        obtain ⟨J, FW, hJ, F1, F2⟩ := kept_worlds wr
                        replace F1 := hide F1
                        replace F2 := hide F2
                        refine wp_region_quiet_in (unhide F1) (by kernel_rfl) (by kernel_rfl) ?_
                        repeat (go_big_quiet_step (fail))
                        refine wpQuiet_nil ?_
                        rintro _ ⟨y, rfl⟩
                        have hF := unhide F2 y
                        clear F1
                        go_wp2_with fail
                        go_roundw
                        case rel => exact ⟨2, by omega, by go_num, below_after hF (unhide hb) (Nat.le_refl _)⟩
                        case measure => simp [intOf]
                      · have dq : ((q / 2 % 2) == 1) = false := beq_eq_false_iff_ne.2 cq
                        have ds : ((s / 2 % 2) == 1) = false := beq_eq_false_iff_ne.2 (fun hh => cq ((unhide bt).1 hh).2)
                        go_wp2_with fail
                        obtain ⟨J, FW, hJ, F1, F2⟩ := kept_worlds wr
                        replace F1 := hide F1
                        replace F2 := hide F2
                        refine wp_region_quiet_in (unhide F1) (by kernel_rfl) (by kernel_rfl) ?_
                        repeat (go_big_quiet_step (fail))
                        refine wpQuiet_nil ?_
                        rintro _ ⟨y, rfl⟩
                        have hF := unhide F2 y
                        clear F1
                        go_wp2_with fail
                        go_roundw
                        case rel => exact ⟨2, by omega, by go_num, below_after hF (unhide hb) (Nat.le_refl _)⟩
                        case measure => simp [intOf]
                    · have dp : ((p / 2 % 2) == 1) = false := beq_eq_false_iff_ne.2 cp
                      have ds : ((s / 2 % 2) == 1) = false := beq_eq_false_iff_ne.2 (fun hh => cp ((unhide bt).1 hh).1)
                      go_wp2_with fail
                      obtain ⟨J, FW, hJ, F1, F2⟩ := kept_worlds wr
                      replace F1 := hide F1
                      replace F2 := hide F2
                      refine wp_region_quiet_in (unhide F1) (by kernel_rfl) (by kernel_rfl) ?_
                      repeat (go_big_quiet_step (fail))
                      refine wpQuiet_nil ?_
                      rintro _ ⟨y, rfl⟩
                      have hF := unhide F2 y
                      clear F1
                      go_wp2_with fail
                      go_roundw
                      case rel => exact ⟨2, by omega, by go_num, below_after hF (unhide hb) (Nat.le_refl _)⟩
                      case measure => simp [intOf]
                  · have bt := hide (show s / 4 % 2 = 1 ↔ (p / 4 % 2 = 1 ∧ q / 4 % 2 = 1) from unhide BT 2 (by omega))
                    have e1 : p.tdiv 4 = p / 4 := Int.tdiv_eq_ediv_of_nonneg (by omega)
                    have f1 : (p / 4).tmod 2 = p / 4 % 2 := Int.tmod_eq_emod_of_nonneg (by omega)
                    have v1 : IntKind.i64.wrap (p / 4) = p / 4 := IntWalk.i64_in _ (by omega)
                    have e2 : q.tdiv 4 = q / 4 := Int.tdiv_eq_ediv_of_nonneg (by omega)
                    have f2 : (q / 4).tmod 2 = q / 4 % 2 := Int.tmod_eq_emod_of_nonneg (by omega)
                    have v2 : IntKind.i64.wrap (q / 4) = q / 4 := IntWalk.i64_in _ (by omega)
                    have e3 : s.tdiv 4 = s / 4 := Int.tdiv_eq_ediv_of_nonneg (by omega)
                    have f3 : (s / 4).tmod 2 = s / 4 % 2 := Int.tmod_eq_emod_of_nonneg (by omega)
                    have v3 : IntKind.i64.wrap (s / 4) = s / 4 := IntWalk.i64_in _ (by omega)
                    by_cases cp : p / 4 % 2 = 1
                    · have dp : ((p / 4 % 2) == 1) = true := beq_iff_eq.2 cp
                      by_cases cq : q / 4 % 2 = 1
                      · have dq : ((q / 4 % 2) == 1) = true := beq_iff_eq.2 cq
                        have ds : ((s / 4 % 2) == 1) = true := beq_iff_eq.2 ((unhide bt).2 ⟨cp, cq⟩)
                        go_wp2_with fail
                        obtain ⟨J, FW, hJ, F1, F2⟩ := kept_worlds wr
                        replace F1 := hide F1
                        replace F2 := hide F2
                        refine wp_region_quiet_in (unhide F1) (by kernel_rfl) (by kernel_rfl) ?_
                        repeat (go_big_quiet_step (fail))
                        refine wpQuiet_nil ?_
                        rintro _ ⟨y, rfl⟩
                        have hF := unhide F2 y
                        clear F1
                        go_wp2_with fail
                        go_roundw
                        case rel => exact ⟨3, by omega, by go_num, below_after hF (unhide hb) (Nat.le_refl _)⟩
                        case measure => simp [intOf]
                      · have dq : ((q / 4 % 2) == 1) = false := beq_eq_false_iff_ne.2 cq
                        have ds : ((s / 4 % 2) == 1) = false := beq_eq_false_iff_ne.2 (fun hh => cq ((unhide bt).1 hh).2)
                        go_wp2_with fail
                        obtain ⟨J, FW, hJ, F1, F2⟩ := kept_worlds wr
                        replace F1 := hide F1
                        replace F2 := hide F2
                        refine wp_region_quiet_in (unhide F1) (by kernel_rfl) (by kernel_rfl) ?_
                        repeat (go_big_quiet_step (fail))
                        refine wpQuiet_nil ?_
                        rintro _ ⟨y, rfl⟩
                        have hF := unhide F2 y
                        clear F1
                        go_wp2_with fail
                        go_roundw
                        case rel => exact ⟨3, by omega, by go_num, below_after hF (unhide hb) (Nat.le_refl _)⟩
                        case measure => simp [intOf]
                    · have dp : ((p / 4 % 2) == 1) = false := beq_eq_false_iff_ne.2 cp
                      have ds : ((s / 4 % 2) == 1) = false := beq_eq_false_iff_ne.2 (fun hh => cp ((unhide bt).1 hh).1)
                      go_wp2_with fail
                      obtain ⟨J, FW, hJ, F1, F2⟩ := kept_worlds wr
                      replace F1 := hide F1
                      replace F2 := hide F2
                      refine wp_region_quiet_in (unhide F1) (by kernel_rfl) (by kernel_rfl) ?_
                      repeat (go_big_quiet_step (fail))
                      refine wpQuiet_nil ?_
                      rintro _ ⟨y, rfl⟩
                      have hF := unhide F2 y
                      clear F1
                      go_wp2_with fail
                      go_roundw
                      case rel => exact ⟨3, by omega, by go_num, below_after hF (unhide hb) (Nat.le_refl _)⟩
                      case measure => simp [intOf]
                  · have bt := hide (show s / 8 % 2 = 1 ↔ (p / 8 % 2 = 1 ∧ q / 8 % 2 = 1) from unhide BT 3 (by omega))
                    have e1 : p.tdiv 8 = p / 8 := Int.tdiv_eq_ediv_of_nonneg (by omega)
                    have f1 : (p / 8).tmod 2 = p / 8 % 2 := Int.tmod_eq_emod_of_nonneg (by omega)
                    have v1 : IntKind.i64.wrap (p / 8) = p / 8 := IntWalk.i64_in _ (by omega)
                    have e2 : q.tdiv 8 = q / 8 := Int.tdiv_eq_ediv_of_nonneg (by omega)
                    have f2 : (q / 8).tmod 2 = q / 8 % 2 := Int.tmod_eq_emod_of_nonneg (by omega)
                    have v2 : IntKind.i64.wrap (q / 8) = q / 8 := IntWalk.i64_in _ (by omega)
                    have e3 : s.tdiv 8 = s / 8 := Int.tdiv_eq_ediv_of_nonneg (by omega)
                    have f3 : (s / 8).tmod 2 = s / 8 % 2 := Int.tmod_eq_emod_of_nonneg (by omega)
                    have v3 : IntKind.i64.wrap (s / 8) = s / 8 := IntWalk.i64_in _ (by omega)
                    by_cases cp : p / 8 % 2 = 1
                    · have dp : ((p / 8 % 2) == 1) = true := beq_iff_eq.2 cp
                      by_cases cq : q / 8 % 2 = 1
                      · have dq : ((q / 8 % 2) == 1) = true := beq_iff_eq.2 cq
                        have ds : ((s / 8 % 2) == 1) = true := beq_iff_eq.2 ((unhide bt).2 ⟨cp, cq⟩)
                        go_wp2_with fail
                        obtain ⟨J, FW, hJ, F1, F2⟩ := kept_worlds wr
                        replace F1 := hide F1
                        replace F2 := hide F2
                        refine wp_region_quiet_in (unhide F1) (by kernel_rfl) (by kernel_rfl) ?_
                        repeat (go_big_quiet_step (fail))
                        refine wpQuiet_nil ?_
                        rintro _ ⟨y, rfl⟩
                        have hF := unhide F2 y
                        clear F1
                        go_wp2_with fail
                        go_roundw
                        case rel => exact ⟨4, by omega, by go_num, below_after hF (unhide hb) (Nat.le_refl _)⟩
                        case measure => simp [intOf]
                      · have dq : ((q / 8 % 2) == 1) = false := beq_eq_false_iff_ne.2 cq
                        have ds : ((s / 8 % 2) == 1) = false := beq_eq_false_iff_ne.2 (fun hh => cq ((unhide bt).1 hh).2)
                        go_wp2_with fail
                        obtain ⟨J, FW, hJ, F1, F2⟩ := kept_worlds wr
                        replace F1 := hide F1
                        replace F2 := hide F2
                        refine wp_region_quiet_in (unhide F1) (by kernel_rfl) (by kernel_rfl) ?_
                        repeat (go_big_quiet_step (fail))
                        refine wpQuiet_nil ?_
                        rintro _ ⟨y, rfl⟩
                        have hF := unhide F2 y
                        clear F1
                        go_wp2_with fail
                        go_roundw
                        case rel => exact ⟨4, by omega, by go_num, below_after hF (unhide hb) (Nat.le_refl _)⟩
                        case measure => simp [intOf]
                    · have dp : ((p / 8 % 2) == 1) = false := beq_eq_false_iff_ne.2 cp
                      have ds : ((s / 8 % 2) == 1) = false := beq_eq_false_iff_ne.2 (fun hh => cp ((unhide bt).1 hh).1)
                      go_wp2_with fail
                      obtain ⟨J, FW, hJ, F1, F2⟩ := kept_worlds wr
                      replace F1 := hide F1
                      replace F2 := hide F2
                      refine wp_region_quiet_in (unhide F1) (by kernel_rfl) (by kernel_rfl) ?_
                      repeat (go_big_quiet_step (fail))
                      refine wpQuiet_nil ?_
                      rintro _ ⟨y, rfl⟩
                      have hF := unhide F2 y
                      clear F1
                      go_wp2_with fail
                      go_roundw
                      case rel => exact ⟨4, by omega, by go_num, below_after hF (unhide hb) (Nat.le_refl _)⟩
                      case measure => simp [intOf]
            · have hte : t = 19 := by omega
              subst hte
              replace hb := hide hb
              go_wp2_with fail
              go_roundw
              case rel => exact ⟨j + 1, by omega, congrArg (Value.int .i64) (by push_cast; omega), unhide hb⟩
              case measure => simp [intOf]; omega
        · have hje : j = 19 := by omega
          subst hje
          replace RA := hide (row_next hb (unhide RA))
          replace RB := hide (row_next hb (unhide RB))
          replace RM := hide (row_next hb (unhide RM))
          replace pa := hide ((unhide pa).next hb)
          replace pb := hide ((unhide pb).next hb)
          replace pm := hide ((unhide pm).next hb)
          replace CUR := hide (Nat.le_trans (unhide CUR) (Below.size hb))
          replace HB := hide (below_two (unhide HB) hb)
          clear hb
          clear BA BB BM DBA DBB
          go_upto_region 21 with fail
          have k0 := hide (show ∀ u, Below wr.heap.size wr u → (u.cell? ⟨b_RA, 0, none⟩ = some (.int .i64 a) ∧ u.cell? ⟨b_RA, 1, none⟩ = some (.int .i64 b) ∧ u.cell? ⟨b_RA, 2, none⟩ = some (.int .i64 c) ∧ u.cell? ⟨b_RA, 3, none⟩ = some (.int .i64 d) ∧ u.cell? ⟨b_RA, 4, none⟩ = some (.slice ao n ca) ∧ Below wr.heap.size wr u) from fun u h => ⟨(row5m (row_next h (unhide RA))).1, (row5m (row_next h (unhide RA))).2.1, (row5m (row_next h (unhide RA))).2.2.1, (row5m (row_next h (unhide RA))).2.2.2.1, (row5m (row_next h (unhide RA))).2.2.2.2, h⟩)
          have kS := hide (show ∀ u, (u.cell? ⟨b_RA, 0, none⟩ = some (.int .i64 a) ∧ u.cell? ⟨b_RA, 1, none⟩ = some (.int .i64 b) ∧ u.cell? ⟨b_RA, 2, none⟩ = some (.int .i64 c) ∧ u.cell? ⟨b_RA, 3, none⟩ = some (.int .i64 d) ∧ u.cell? ⟨b_RA, 4, none⟩ = some (.slice ao n ca) ∧ Below wr.heap.size wr u) → Below wr.heap.size wr u from fun u h => h.2.2.2.2.2)
          have k00 := hide (unhide k0 _ (Below.refl _ _).drew)
          have hd : wr.drew.heap.size = wr.heap.size := rfl
          go_cut [2] (fun s u => s = .bool true ∧ Below wr.heap.size wr u)
          case first =>
            go_region_held3 (fun u => u.cell? ⟨b_RA, 0, none⟩ = some (.int .i64 a) ∧ u.cell? ⟨b_RA, 1, none⟩ = some (.int .i64 b) ∧ u.cell? ⟨b_RA, 2, none⟩ = some (.int .i64 c) ∧ u.cell? ⟨b_RA, 3, none⟩ = some (.int .i64 d) ∧ u.cell? ⟨b_RA, 4, none⟩ = some (.slice ao n ca) ∧ Below wr.heap.size wr u) ((first | with_reducible exact unhide k00 | (refine unhide k0 _ ?_; first | with_reducible assumption | (with_reducible refine below_new _ ?_ (Nat.le_refl _); with_reducible assumption) | (with_reducible refine Below.drew ?_; with_reducible exact below_new _ (Below.refl _ _) (Nat.le_refl _)) | (with_reducible refine below_put5 ?_ ?_ _ _ _ _ _ <;> first | with_reducible assumption | omega)))) (first | (go_at_call 18; go_fit (unhide IS _ ((unhide pa).next (unhide kS _ (by with_reducible assumption)))); intro r y1 hres; obtain ⟨a1, c1, rfl, hp1, hb1⟩ := MaskRes.open hres; clear hres; have pv := hide hp1; clear hp1; have hW1 := below_after hb1 (unhide kS _ (by with_reducible assumption)) (Nat.le_refl _); have hsz := hb1.size; have hge := hW1.size) | (go_at_call 16; go_fit (unhide SA _ _ _ _ _ _ _ (unhide pv) ((unhide pa).next (unhide kS _ (by with_reducible assumption)))); rintro r y1 ⟨rfl, hb1⟩; have hW1 := below_after hb1 (unhide kS _ (by with_reducible assumption)) (Nat.le_refl _); have hsz := hb1.size; have hge := hW1.size))
            all_goals
              go_wp2_with fail
              go_meet
              exact ⟨rfl, unhide kS _ (by with_reducible assumption)⟩
          case rest =>
            obtain ⟨rfl, hb⟩ := hcut
            replace RA := hide (row_next hb (unhide RA))
            replace RB := hide (row_next hb (unhide RB))
            replace RM := hide (row_next hb (unhide RM))
            replace pa := hide ((unhide pa).next hb)
            replace pb := hide ((unhide pb).next hb)
            replace pm := hide ((unhide pm).next hb)
            replace CUR := hide (Nat.le_trans (unhide CUR) (Below.size hb))
            replace HB := hide (below_two (unhide HB) hb)
            clear hb k0 kS k00 hd
            generalize wc = X9 at *
            go_wp2_with fail
            go_ret
            exact ⟨rfl, unhide HB⟩
  · clear EI EO EB ED
    go_enter Try.func4, Try.ntmps4
    go_wp2_with (go_at_call 9; go_must (refine (big_yes a0 len0 cap0 hl _).mono ?_); rintro e w1 ⟨rfl, rfl⟩)
    go_ret
    exact ⟨rfl, Below.refl _ _⟩
end Go.Proofs.Ytjnnaaafehndpaa

/-
  Rows of runs: how they lie in memory, and how one more is laid behind them.
-/
namespace Go.Proofs.Ytjnnaaafehndpaa
open Go.RowKit

theorem infoRun : (Try.prog.info? 36).map (fun i => (i.zero, i.size, i.bytes)) = some (some (.agg #[.int .i64 0, .int .i64 0, .int .i64 0, .int .i64 0]), 4, 32) := by kernel_rfl

/-- A run: Y, X0, X1, Bits. -/
def rnV (p : B4) : List Value := [.int .i64 p.x0, .int .i64 p.y0, .int .i64 p.x1, .int .i64 p.y1]
def rsV (l : List B4) : List Value := l.flatMap rnV
theorem rsV_len (l : List B4) : (rsV l).length = l.length * 4 := by
  induction l with
  | nil => rfl
  | cons p l ih => change (rnV p ++ rsV l).length = _; rw [List.length_append, ih]; simp [rnV]; omega
theorem rsV_app (l m : List B4) : rsV (l ++ m) = rsV l ++ rsV m := by unfold rsV; rw [List.flatMap_append]
theorem rsV_get (l : List B4) (i : Nat) (h : i < l.length) : (rsV l)[i * 4]? = some (.int .i64 l[i].x0) ∧ (rsV l)[i * 4 + 1]? = some (.int .i64 l[i].y0) ∧ (rsV l)[i * 4 + 2]? = some (.int .i64 l[i].x1) ∧ (rsV l)[i * 4 + 3]? = some (.int .i64 l[i].y1) := by
  induction l generalizing i with
  | nil => exact absurd h (by simp)
  | cons p l ih =>
    change (rnV p ++ rsV l)[i * 4]? = _ ∧ (rnV p ++ rsV l)[i * 4 + 1]? = _ ∧ (rnV p ++ rsV l)[i * 4 + 2]? = _ ∧ (rnV p ++ rsV l)[i * 4 + 3]? = _
    cases i with
    | zero => exact ⟨rfl, rfl, rfl, rfl⟩
    | succ i =>
      have hi : i < l.length := by simpa using h
      obtain ⟨h1, h2, h3, h4⟩ := ih i hi
      rw [List.getElem?_append_right (by simp [rnV]; omega), List.getElem?_append_right (by simp [rnV]; omega), List.getElem?_append_right (by simp [rnV]; omega), List.getElem?_append_right (by simp [rnV]; omega)]
      refine ⟨?_, ?_, ?_, ?_⟩
      · rw [show (i + 1) * 4 - (rnV p).length = i * 4 by simp [rnV]; omega]; exact h1
      · rw [show (i + 1) * 4 + 1 - (rnV p).length = i * 4 + 1 by simp [rnV]; omega]; exact h2
      · rw [show (i + 1) * 4 + 2 - (rnV p).length = i * 4 + 2 by simp [rnV]; omega]; exact h3
      · rw [show (i + 1) * 4 + 3 - (rnV p).length = i * 4 + 3 by simp [rnV]; omega]; exact h4
/-- Number i of a row of runs, wherever it begins. -/
def RnAt (w : World) (a : Option Addr) (i : Nat) (p : B4) : Prop :=
  ∃ s o, a = some ⟨s, o, none⟩ ∧ w.cell? ⟨s, o + i * 4, none⟩ = some (.int .i64 p.x0) ∧ w.cell? ⟨s, o + i * 4 + 1, none⟩ = some (.int .i64 p.y0) ∧ w.cell? ⟨s, o + i * 4 + 2, none⟩ = some (.int .i64 p.x1) ∧ w.cell? ⟨s, o + i * 4 + 3, none⟩ = some (.int .i64 p.y1)
theorem RnAt.next {w w1 : World} {a : Option Addr} {i : Nat} {p : B4} (h : RnAt w a i p) (hb : Below w.heap.size w w1) : RnAt w1 a i p :=
  let ⟨s, o, h1, h2, h3, h4, h5⟩ := h; ⟨s, o, h1, kc hb h2, kc hb h3, kc hb h4, kc hb h5⟩
theorem own_rn {w : World} {base t : Nat} {v : Value} {l : List B4} (h : w.ownsRow base t 4 v l.length (rsV l)) :
    ∃ a cap, v = .slice a l.length cap ∧ l.length ≤ cap ∧ ∀ i (hi : i < l.length), RnAt w a i l[i] := by
  rcases h.2 with ⟨rfl, h0⟩ | ⟨g, cap, cur, rfl, h3, h4, h5, h6, _⟩
  · exact ⟨none, 0, by rw [h0], by omega, fun i hi => absurd hi (by omega)⟩
  · refine ⟨some ⟨g, 0, none⟩, cap, rfl, h5, fun i hi => ⟨g, 0, rfl, ?_, ?_, ?_, ?_⟩⟩
    · rw [Nat.zero_add, h.cellAt _ (by omega)]; exact (rsV_get l i hi).1
    · rw [Nat.zero_add, h.cellAt _ (by omega)]; exact (rsV_get l i hi).2.1
    · rw [Nat.zero_add, h.cellAt _ (by omega)]; exact (rsV_get l i hi).2.2.1
    · rw [Nat.zero_add, h.cellAt _ (by omega)]; exact (rsV_get l i hi).2.2.2
/-- 'append' of one run onto a row of the call's own. -/
theorem wpList_append_rn {P : Program} {ops : Array Oper} {rest : List Oper} {o : Oper} {a : Act} {Q : Exit → Act → World → Prop} (wr : World) (hgd : o.guard = none) (s x : Operand) (t : TypeId)
    (ho : o.op = .call { callee := .builtin .append, args := #[s, x], argTypes := #[t, t] })
    (base : Nat) (i : TypeInfo) (z : Value) (ht : P.underlying t = some (.slice 36)) (hi : P.info? 36 = some i) (hz : i.zero = some z) (hsize : i.size = 4) (hby : i.bytes = 32) (hz1 : z.cells.size = 4)
    (v : Value) (l : List B4) (hs : a.eval s = v) (hown : wr.ownsRow base 36 4 v l.length (rsV l))
    (p q u k : Int) (c : Nat) (hx : a.eval x = .slice (some ⟨wr.heap.size, 0, none⟩) 1 c)
    (hn : l.length ≤ 1048576) (hbase : base ≤ wr.heap.size)
    (h : ∀ v' w', w'.ownsRow base 36 4 v' (l ++ [(⟨p, q, u, k⟩ : B4)]).length (rsV (l ++ [(⟨p, q, u, k⟩ : B4)])) → Below base wr w' → wpList P ops Q rest (a.put o.dst v') w') :
    wpList P ops Q (o :: rest) a (wr.alloc (.cells #[.int .i64 p, .int .i64 q, .int .i64 u, .int .i64 k] 36)) := by
  refine wpList_append_own (wr.alloc (.cells #[.int .i64 p, .int .i64 q, .int .i64 u, .int .i64 k] 36)) hgd s x t ho base 36 i z 4 32 ht hi hz hsize hby hz1 (by decide) v l.length (rsV l) hs (hown.alloc _) ⟨wr.heap.size, 0, none⟩ 1 c (rnV ⟨p, q, u, k⟩) hx (by simp [rnV]) ?_ (by intro x hx; simp [rnV] at hx; rcases hx with rfl | rfl | rfl | rfl <;> rfl) (by unfold maxLen; omega) (by omega) (by simp; omega) ?_
  · intro j x hj
    have hadd : (⟨wr.heap.size, 0, none⟩ : Addr).add j = ⟨wr.heap.size, j, none⟩ := by unfold Addr.add; split <;> simp_all
    rw [hadd, World.cell?_alloc_mark wr #[.int .i64 p, .int .i64 q, .int .i64 u, .int .i64 k] 36 (0, 0) j, ← hj]
    simp [rnV]
  · intro v' w' ho' hg _
    refine h v' w' ?_ ?_
    · have e1 : (l ++ [(⟨p, q, u, k⟩ : B4)]).length = l.length + 1 := by simp
      have e2 : rsV (l ++ [(⟨p, q, u, k⟩ : B4)]) = rsV l ++ rnV ⟨p, q, u, k⟩ := by rw [rsV_app]; simp [rsV]
      rw [e1, e2]; exact ho'
    · exact ((Below.refl base wr).alloc hbase _).grown hg (by simp; omega) (fun k hk => (hown.lt k hk).1)
/-- A call hands back a list of runs of its own. -/
def RunsRes (w : World) (r : Ending) (w' : World) (l : List B4) : Prop :=
  ∃ v, r = .returned v ∧ w'.ownsRow w.heap.size 36 4 v l.length (rsV l) ∧ Below w.heap.size w w'
end Go.Proofs.Ytjnnaaafehndpaa

/-
  The specification's RunsOf.
-/
namespace Go.Proofs.Ytjnnaaafehndpaa
open Go.RowKit
set_option linter.unusedVariables false

theorem at_row {a b c d : Int} {f : Nat → Int} {W0 H0 : Nat} (hW : (W0 : Int) = c - a) (hH : (H0 : Int) = d - b) {j t : Nat} (hj : j < H0) (ht : t < W0) : atI a b c d f (a + (t : Int)) (b + (j : Int)) = f (j * W0 + t) := by
  have hin : inBoxB a b c d (a + (t : Int)) (b + (j : Int)) = true := by
    unfold inBoxB
    rw [decide_eq_true (by omega), decide_eq_true (by omega), decide_eq_true (by omega), decide_eq_true (by omega)]; rfl
  unfold atI
  rw [if_pos hin]
  congr 1
  unfold placeI
  rw [← hW]
  have p3 : b + (j : Int) - b = (j : Int) := by omega
  have p4 : (j : Int) * (W0 : Int) = ((j * W0 : Nat) : Int) := (Int.natCast_mul _ _).symm
  rw [p3, p4]; omega

set_option maxHeartbeats 8000000 in
set_option maxRecDepth 100000 in
theorem specRunsOf_any (a b c d : Int) (f : Nat → Int) (ao : Option Addr) (n cp : Nat) (hn : n ≤ 1048576) (w : World) (P : ∀ i, i < n → IntAt w ao i (f i)) :
    Calls Try.prog 46 #[.agg #[.int .i64 a, .int .i64 b, .int .i64 c, .int .i64 d, .slice ao n cp]] w fun r w' => RunsRes w r w' (runsM a b c d n f) := by
  obtain ⟨i1, hi1, hz1, hs1, hb1⟩ := info_parts infoRun
  have EM := hide (fun u P => specMaskOk_any a b c d f ao n cp hn u P)
  have EL := hide (fun (h : maskOkB a b c d n f = true) (x y : Int) u P => specL11Bits_any a b c d f ao n cp hn x y u P (maskOk_iff.1 h))
  have hR : Hid (runsM a b c d n f = if maskOkB a b c d n f = true then runsL a b c d f else []) := rfl
  have hbx : Hid (maskOkB a b c d n f = true → a ≤ c ∧ b ≤ d ∧ -2000 ≤ a ∧ -2000 ≤ b ∧ c ≤ 2000 ∧ d ≤ 2000 ∧ c - a ≤ 60 ∧ d - b ≤ 60) := fun h => by
    rcases maskOk_iff.1 h with ⟨_, rfl, rfl, rfl, rfl⟩ | ⟨_, h, _⟩
    · omega
    · rw [boxIn_iff] at h; omega
  generalize maskOkB a b c d n f = mo at EM EL hR hbx
  obtain ⟨L, hL⟩ : ∃ L, Hid (runsM a b c d n f = L) := ⟨_, rfl⟩
  rw [unhide hL] at hR ⊢
  replace P := hide P
  go_enter Try.func46, Try.ntmps46
  go_upto_region 2 with fail
  have R1 := hide (al2_0 w (.cells #[.int .i64 a, .int .i64 b, .int .i64 c, .int .i64 d, .slice ao n cp] 28) (.cells #[] 36))
  have HB := hide (al2_below w (.cells #[.int .i64 a, .int .i64 b, .int .i64 c, .int .i64 d, .slice ao n cp] 28) (.cells #[] 36))
  have O := hide (show ((w.alloc (.cells #[.int .i64 a, .int .i64 b, .int .i64 c, .int .i64 d, .slice ao n cp] 28)).alloc (.cells #[] 36)).ownsRow (w.heap.size + 1) 36 4 (.slice (some ⟨w.heap.size + 1, 0, none⟩) 0 0) 0 [] by
    have h := World.ownsRow_lit (base := w.heap.size + 1) (e := 36) (size := 4) (w.alloc (.cells #[.int .i64 a, .int .i64 b, .int .i64 c, .int .i64 d, .slice ao n cp] 28)) #[] 0 (by rw [al1_size]; exact Nat.le_refl _) (by decide) rfl
    rw [al1_size] at h
    exact h)
  obtain ⟨b3, hb3⟩ : ∃ b, Hid (b = w.heap.size + 1) := ⟨_, rfl⟩
  obtain ⟨b1, hb1'⟩ : ∃ b, Hid (b = w.heap.size) := ⟨_, rfl⟩
  rw [← unhide hb3] at O
  rw [← unhide hb1'] at R1
  rw [← unhide hb3, ← unhide hb1']
  generalize (w.alloc (.cells #[.int .i64 a, .int .i64 b, .int .i64 c, .int .i64 d, .slice ao n cp] 28)).alloc (.cells #[] 36) = W at R1 HB O ⊢
  have lb : Hid (w.heap.size ≤ b3 ∧ b1 < b3) := by unfold Hid; rw [unhide hb3, unhide hb1']; omega
  obtain ⟨q0, q1, q2, q3, q4⟩ := row5m (unhide R1)
  have EM1 := hide (unhide EM W (fun i hi => (unhide P i hi).next (unhide HB)))
  clear EM
  go_wp2_with fail
  go_fit (unhide EM1)
  rintro r w1 ⟨rfl, hb⟩
  replace R1 := hide (row_next hb (unhide R1))
  replace O := hide (own_below (unhide O) hb)
  replace HB := hide (below_two (unhide HB) hb)
  clear hb q0 q1 q2 q3 q4 EM1
  cases mo with
  | false =>
    have hL0 : Hid (L = []) := by unfold Hid; rw [unhide hR]; simp
    go_wp2_with fail
    go_ret
    rw [unhide hL0]
    exact ⟨_, rfl, own_low (unhide O) (unhide lb).1, unhide HB⟩
  | true =>
  have hbx' := unhide hbx (by trivial)
  obtain ⟨W0, hW0⟩ : ∃ W0, W0 = wideN a c := ⟨_, rfl⟩
  obtain ⟨H0, hH0⟩ : ∃ H0, H0 = wideN b d := ⟨_, rfl⟩
  have hWi : (W0 : Int) = c - a := by rw [hW0]; unfold wideN; omega
  have hHi : (H0 : Int) = d - b := by rw [hH0]; unfold wideN; omega
  have hL1 : Hid (L = runsN a b W0 f H0) := by
    unfold Hid; rw [unhide hR, hW0, hH0]; simp [runsL]
  have hWl : W0 ≤ 60 := by omega
  have hHl : H0 ≤ 60 := by omega
  clear hR hW0 hH0 hbx hL
  obtain ⟨q0, q1, q2, q3, q4⟩ := row5m (unhide R1)
  go_upto_region 5 with fail
  clear q0 q1 q2 q3 q4
  have O2 : Hid (w1.ownsRow b3 36 4 (.slice (some ⟨b3, 0, none⟩) 0 0) ([] : List B4).length (rsV [])) := unhide O
  clear O
  go_loopw [3, 4] (fun v y u => ∃ (j : Nat) (pp : Option Addr) (cq : Nat), j ≤ H0 ∧ y = .int .i64 (b + (j : Int)) ∧ v = .slice pp (runsN a b W0 f j).length cq ∧ Hid (u.ownsRow b3 36 4 (.slice pp (runsN a b W0 f j).length cq) (runsN a b W0 f j).length (rsV (runsN a b W0 f j))) ∧ Hid (u.heap[b1]? = some (.cells #[.int .i64 a, .int .i64 b, .int .i64 c, .int .i64 d, .slice ao n cp] 28 (0, 0))) ∧ Hid (Below w.heap.size w u)) (fun _ y _ => (d - intOf y).toNat)
  case atStart => exact ⟨0, _, _, Nat.zero_le _, by simp, rfl, O2, R1, HB⟩
  case round =>
    clear O2 R1 HB
    obtain ⟨j, pp, cq, hj, rfl, rfl, O, R1, HB⟩ := hrel
    obtain ⟨q0, q1, q2, q3, q4⟩ := row5m (unhide R1)
    by_cases hlt : j < H0
    · have hji : b + (j : Int) < d := by omega
      have wj : IntKind.i64.wrap (b + (j : Int) + 1) = b + (j : Int) + 1 := IntWalk.i64_in _ (by omega)
      obtain ⟨gg, hgg⟩ : ∃ gg : Nat → Int, gg = fun i => f (j * W0 + i) := ⟨_, rfl⟩
      have hnx : Hid (runsN a b W0 f (j + 1) = runsN a b W0 f j ++ (rowR gg W0 0).map (runOf a (b + (j : Int)))) := by rw [hgg]; rfl
      have hat : Hid (∀ t : Nat, t < W0 → atI a b c d f (a + (t : Int)) (b + (j : Int)) = gg t) := fun t ht => by rw [hgg]; exact at_row hWi hHi hlt ht
      have hlen : Hid ((runsN a b W0 f (j + 1)).length ≤ 3600) := by
        have := runsN_len a b W0 f (j + 1)
        have : W0 * (j + 1) ≤ 60 * 60 := Nat.mul_le_mul hWl (by omega)
        unfold Hid; omega
      obtain ⟨NX, hNX⟩ : ∃ NX, Hid (NX = runsN a b W0 f (j + 1)) := ⟨_, rfl⟩
      rw [← unhide hNX] at hnx hlen
      clear hgg
      go_upto_region 8 with fail
      clear q0 q1 q2 q3 q4
      go_loopw [3, 5] (fun v x u => ∃ (t : Nat) (M : List B4) (pp : Option Addr) (cq : Nat), t ≤ W0 ∧ x = .int .i64 (a + (t : Int)) ∧ v = .slice pp M.length cq ∧ Hid (NX = M ++ (rowR gg W0 t).map (runOf a (b + (j : Int)))) ∧ Hid (u.ownsRow b3 36 4 (.slice pp M.length cq) M.length (rsV M)) ∧ Hid (u.heap[b1]? = some (.cells #[.int .i64 a, .int .i64 b, .int .i64 c, .int .i64 d, .slice ao n cp] 28 (0, 0))) ∧ Hid (Below w.heap.size w u)) (fun _ x _ => (c - intOf x).toNat)
      case atStart => exact ⟨0, _, pp, cq, Nat.zero_le _, by simp, rfl, hnx, O, R1, HB⟩
      case round =>
        clear O R1 HB hnx
        obtain ⟨t, M, pp, cq, ht, rfl, rfl, hM, O, R1, HB⟩ := hrel
        obtain ⟨q0, q1, q2, q3, q4⟩ := row5m (unhide R1)
        by_cases hlt' : t < W0
        · have hti : a + (t : Int) < c := by omega
          have wt : IntKind.i64.wrap (a + (t : Int) + 1) = a + (t : Int) + 1 := IntWalk.i64_in _ (by omega)
          have EL1 := hide (unhide EL (by trivial) (a + (t : Int)) (b + (j : Int)) wr (fun i hi => (unhide P i hi).next (unhide HB)))
          rw [unhide hat t hlt'] at EL1
          go_wp2_with fail
          go_fit (unhide EL1)
          rintro r w2 ⟨rfl, hb⟩
          replace R1 := hide (row_next hb (unhide R1))
          replace O := hide (own_below (unhide O) hb)
          replace HB := hide (below_two (unhide HB) hb)
          clear hb q0 q1 q2 q3 q4 EL1
          by_cases hz : gg t = 0
          · have hM2 : Hid (NX = M ++ (rowR gg W0 (t + 1)).map (runOf a (b + (j : Int)))) := by unfold Hid; rw [← rowR_zero hlt' hz]; exact unhide hM
            have hzb : (gg t == 0) = true := beq_iff_eq.2 hz
            obtain ⟨z, hzz⟩ : ∃ z, z = gg t := ⟨_, rfl⟩
            rw [← hzz] at hz hzb ⊢
            subst hz
            go_wp2_with fail
            go_roundw
            case rel => exact ⟨t + 1, M, pp, cq, by omega, congrArg (Value.int .i64) (by push_cast; omega), rfl, hM2, O, R1, HB⟩
            case measure => simp [intOf]; omega
          · have hzb : (gg t == 0) = false := beq_eq_false_iff_ne.2 hz
            obtain ⟨z, hzz⟩ : ∃ z, Hid (gg t = z) := ⟨_, rfl⟩
            rw [unhide hzz] at hz hzb ⊢
            go_upto_region 13 with fail
            go_loopw [7] (fun x u => ∃ (e : Nat), t < e ∧ e ≤ W0 ∧ x = .int .i64 (a + (e : Int)) ∧ Hid (∀ i, t ≤ i → i < e → gg i = z) ∧ Hid (u.ownsRow b3 36 4 (.slice pp M.length cq) M.length (rsV M)) ∧ Hid (u.heap[b1]? = some (.cells #[.int .i64 a, .int .i64 b, .int .i64 c, .int .i64 d, .slice ao n cp] 28 (0, 0))) ∧ Hid (Below w.heap.size w u)) (fun x _ => (c - intOf x).toNat)
            case atStart => exact ⟨t + 1, by omega, by omega, congrArg (Value.int .i64) (by push_cast; omega), fun i h1 h2 => by rw [show i = t by omega]; exact unhide hzz, O, R1, HB⟩
            case round =>
              clear O R1 HB
              obtain ⟨e, he1, he2, rfl, hE, O, R1, HB⟩ := hrel
              obtain ⟨q0, q1, q2, q3, q4⟩ := row5m (unhide R1)
              by_cases hlt2 : e < W0
              · have hei : a + (e : Int) < c := by omega
                have we : IntKind.i64.wrap (a + (e : Int) + 1) = a + (e : Int) + 1 := IntWalk.i64_in _ (by omega)
                have EL2 := hide (unhide EL (by trivial) (a + (e : Int)) (b + (j : Int)) wr (fun i hi => (unhide P i hi).next (unhide HB)))
                rw [unhide hat e hlt2] at EL2
                by_cases hgz : gg e = z
                · have hgb : (gg e == z) = true := beq_iff_eq.2 hgz
                  have hE2 : Hid (∀ i, t ≤ i → i < e + 1 → gg i = z) := fun i h1 h2 => by
                    by_cases hie : i = e
                    · rw [hie]; exact hgz
                    · exact unhide hE i h1 (by omega)
                  replace hgz := hide hgz
                  go_wp2_with fail
                  go_fit (unhide EL2)
                  rintro r w3 ⟨rfl, hb⟩
                  replace R1 := hide (row_next hb (unhide R1))
                  replace O := hide (own_below (unhide O) hb)
                  replace HB := hide (below_two (unhide HB) hb)
                  clear hb q0 q1 q2 q3 q4 EL2
                  go_wp2_with fail
                  go_roundw
                  case rel => exact ⟨e + 1, by omega, by omega, congrArg (Value.int .i64) (by push_cast; omega), hE2, O, R1, HB⟩
                  case measure => simp [intOf]; omega
                · have hgb : (gg e == z) = false := beq_eq_false_iff_ne.2 hgz
                  have hMM : Hid (NX = (M ++ [(⟨b + (j : Int), a + (t : Int), a + (e : Int), z⟩ : B4)]) ++ (rowR gg W0 e).map (runOf a (b + (j : Int)))) := by
                    unfold Hid; rw [unhide hM, rowR_run he1 he2 hz (unhide hE) (.inr hgz)]; simp [runOf]
                  replace hgz := hide hgz
                  go_wp2_with fail
                  go_fit (unhide EL2)
                  rintro r w3 ⟨rfl, hb⟩
                  replace R1 := hide (row_next hb (unhide R1))
                  replace O := hide (own_below (unhide O) hb)
                  replace HB := hide (below_two (unhide HB) hb)
                  clear hb q0 q1 q2 q3 q4 EL2
                  have hlm : Hid (M.length ≤ 1048576) := by
                    have h1 := unhide hlen
                    rw [unhide hMM] at h1
                    simp only [List.length_append, List.length_cons, List.length_nil] at h1
                    unfold Hid; omega
                  have we0 : IntKind.i64.wrap (a + (e : Int) - 1) = a + (e : Int) - 1 := IntWalk.i64_in _ (by omega)
                  have we2 : IntKind.i64.wrap (a + (e : Int)) = a + (e : Int) := IntWalk.i64_in _ (by omega)
                  have we1 : IntKind.i64.wrap (a + (e : Int) - 1 + 1) = a + (e : Int) := by rw [Int.sub_add_cancel]; exact we2
                  have hsz := hide (show b3 ≤ w3.heap.size by have h1 := heap_lt (unhide R1); rw [unhide hb1'] at h1; rw [unhide hb3]; omega)
                  go_wp2_with (at_builtin; go_must (refine wpList_append_rn w3 rfl _ _ 31 rfl b3 i1 (.agg #[.int .i64 0, .int .i64 0, .int .i64 0, .int .i64 0]) Try.underlying31 hi1 hz1 hs1 hb1 rfl _ M (by rfl) (unhide O) (b + (j : Int)) (a + (t : Int)) (a + (e : Int)) z 1 rfl (unhide hlm) (unhide hsz) ?_); intro v4 w4 hown4 hb4)
                  have R4 := hide ((hb4.block b1 (unhide lb).2).trans (unhide R1))
                  have B4 := hide ((unhide HB).trans (hb4.mono (unhide lb).1))
                  obtain ⟨pp4, cq4, rfl⟩ := own_form hown4
                  replace hown4 := hide hown4
                  clear hb4
                  go_wp2_with fail
                  go_roundw
                  case rel => exact ⟨e, _, pp4, cq4, he2, congrArg (Value.int .i64) (by omega), rfl, hMM, hown4, R4, B4⟩
                  case measure => simp [intOf]; omega
              · have hee : e = W0 := by omega
                have hei : ¬ a + (e : Int) < c := by omega
                have hMM : Hid (NX = (M ++ [(⟨b + (j : Int), a + (t : Int), a + (e : Int), z⟩ : B4)]) ++ (rowR gg W0 e).map (runOf a (b + (j : Int)))) := by
                  unfold Hid; rw [unhide hM, rowR_run he1 he2 hz (unhide hE) (.inl hee)]; simp [runOf]
                clear hee
                have hlm : Hid (M.length ≤ 1048576) := by
                  have h1 := unhide hlen
                  rw [unhide hMM] at h1
                  simp only [List.length_append, List.length_cons, List.length_nil] at h1
                  unfold Hid; omega
                have we0 : IntKind.i64.wrap (a + (e : Int) - 1) = a + (e : Int) - 1 := IntWalk.i64_in _ (by omega)
                have we2 : IntKind.i64.wrap (a + (e : Int)) = a + (e : Int) := IntWalk.i64_in _ (by omega)
                have we1 : IntKind.i64.wrap (a + (e : Int) - 1 + 1) = a + (e : Int) := by rw [Int.sub_add_cancel]; exact we2
                have hsz := hide (show b3 ≤ wr.heap.size by have h1 := heap_lt (unhide R1); rw [unhide hb1'] at h1; rw [unhide hb3]; omega)
                go_wp2_with (at_builtin; go_must (refine wpList_append_rn wr rfl _ _ 31 rfl b3 i1 (.agg #[.int .i64 0, .int .i64 0, .int .i64 0, .int .i64 0]) Try.underlying31 hi1 hz1 hs1 hb1 rfl _ M (by rfl) (unhide O) (b + (j : Int)) (a + (t : Int)) (a + (e : Int)) z 1 rfl (unhide hlm) (unhide hsz) ?_); intro v4 w4 hown4 hb4)
                have R4 := hide ((hb4.block b1 (unhide lb).2).trans (unhide R1))
                have B4 := hide ((unhide HB).trans (hb4.mono (unhide lb).1))
                obtain ⟨pp4, cq4, rfl⟩ := own_form hown4
                replace hown4 := hide hown4
                clear hb4
                go_wp2_with fail
                go_roundw
                case rel => exact ⟨e, _, pp4, cq4, he2, congrArg (Value.int .i64) (by omega), rfl, hMM, hown4, R4, B4⟩
                case measure => simp [intOf]; omega
        · have hte : t = W0 := by omega
          subst hte
          have hti : ¬ a + (t : Int) < c := by omega
          have hM2 : Hid (M = runsN a b t f (j + 1)) := by
            unfold Hid; rw [← unhide hNX, unhide hM, rowR_end (Nat.le_refl _)]; simp
          go_wp2_with fail
          go_roundw
          case rel => exact ⟨j + 1, pp, cq, by omega, congrArg (Value.int .i64) (by push_cast; omega), by rw [← unhide hM2], by rw [← unhide hM2]; exact O, R1, HB⟩
          case measure => simp [intOf]; omega
    · have hje : j = H0 := by omega
      subst hje
      have hji : ¬ b + (j : Int) < d := by omega
      go_wp2_with fail
      go_ret
      rw [unhide hL1]
      exact ⟨_, rfl, own_low (unhide O) (unhide lb).1, unhide HB⟩
end Go.Proofs.Ytjnnaaafehndpaa

/-
  Rows of boxes that are made and written one by one.
-/
namespace Go.Proofs.Ytjnnaaafehndpaa
open Go.RowKit

theorem infoBox : (Try.prog.info? 25).map (fun i => (i.zero, i.size, i.bytes)) = some (some (.agg #[.int .i64 0, .int .i64 0, .int .i64 0, .int .i64 0]), 4, 32) := by kernel_rfl

/-- The first k boxes of a row are those of G. -/
def BxAt (xs : List Value) (G : Nat → B4) (k : Nat) : Prop := ∀ j, j < k → xs[j * 4]? = some (.int .i64 (G j).x0) ∧ xs[j * 4 + 1]? = some (.int .i64 (G j).y0) ∧ xs[j * 4 + 2]? = some (.int .i64 (G j).x1) ∧ xs[j * 4 + 3]? = some (.int .i64 (G j).y1)
theorem BxAt.step {xs : List Value} {G : Nat → B4} {k : Nat} (h : BxAt xs G k) (hk : k * 4 + 4 ≤ xs.length) :
    BxAt ((((xs.set (k * 4) (.int .i64 (G k).x0)).set (k * 4 + 1) (.int .i64 (G k).y0)).set (k * 4 + 2) (.int .i64 (G k).x1)).set (k * 4 + 3) (.int .i64 (G k).y1)) G (k + 1) := by
  intro j hj
  by_cases hjk : j = k
  · subst hjk
    refine ⟨?_, ?_, ?_, ?_⟩ <;> simp [List.getElem?_set] <;> omega
  · obtain ⟨h0, h1, h2, h3⟩ := h j (by omega)
    refine ⟨?_, ?_, ?_, ?_⟩
    · rw [List.getElem?_set_ne (by omega), List.getElem?_set_ne (by omega), List.getElem?_set_ne (by omega), List.getElem?_set_ne (by omega)]; exact h0
    · rw [List.getElem?_set_ne (by omega), List.getElem?_set_ne (by omega), List.getElem?_set_ne (by omega), List.getElem?_set_ne (by omega)]; exact h1
    · rw [List.getElem?_set_ne (by omega), List.getElem?_set_ne (by omega), List.getElem?_set_ne (by omega), List.getElem?_set_ne (by omega)]; exact h2
    · rw [List.getElem?_set_ne (by omega), List.getElem?_set_ne (by omega), List.getElem?_set_ne (by omega), List.getElem?_set_ne (by omega)]; exact h3

theorem own_cell4 {w : World} {base t g n cap k : Nat} {xs : List Value} (h : w.ownsRow base t 4 (.slice (some ⟨g, 0, none⟩) n cap) n xs) (hk : k < n) :
    ∃ v0 v1 v2 v3, w.cell? ⟨g, k * 4, none⟩ = some v0 ∧ w.cell? ⟨g, k * 4 + 1, none⟩ = some v1 ∧ w.cell? ⟨g, k * 4 + 2, none⟩ = some v2 ∧ w.cell? ⟨g, k * 4 + 3, none⟩ = some v3 := by
  have hl := h.1
  refine ⟨xs[k * 4]'(by omega), xs[k * 4 + 1]'(by omega), xs[k * 4 + 2]'(by omega), xs[k * 4 + 3]'(by omega), ?_, ?_, ?_, ?_⟩
  all_goals rw [h.cellAt _ (by omega)]; exact List.getElem?_eq_getElem _
theorem own_put4 {w : World} {base t g n cap k : Nat} {xs : List Value} (h : w.ownsRow base t 4 (.slice (some ⟨g, 0, none⟩) n cap) n xs) (x y z u : Value) :
    ((((w.setCell ⟨g, k * 4, none⟩ x).setCell ⟨g, k * 4 + 1, none⟩ y).setCell ⟨g, k * 4 + 2, none⟩ z).setCell ⟨g, k * 4 + 3, none⟩ u).ownsRow base t 4 (.slice (some ⟨g, 0, none⟩) n cap) n ((((xs.set (k * 4) x).set (k * 4 + 1) y).set (k * 4 + 2) z).set (k * 4 + 3) u) :=
  ((((h.stored _ _).1.stored _ _).1.stored _ _).1.stored _ _).1
theorem below_at4 {B : Nat} {a w : World} (h : Below B a w) {b : Nat} (hb : B ≤ b) (o0 o1 o2 o3 : Nat) (x y z u : Value) : Below B a ((((w.setCell ⟨b, o0, none⟩ x).setCell ⟨b, o1, none⟩ y).setCell ⟨b, o2, none⟩ z).setCell ⟨b, o3, none⟩ u) :=
  (((h.setCell (p := ⟨b, o0, none⟩) hb x).setCell (p := ⟨b, o1, none⟩) hb y).setCell (p := ⟨b, o2, none⟩) hb z).setCell (p := ⟨b, o3, none⟩) hb u
theorem own_boxes {w : World} {base t g n cap : Nat} {xs : List Value} {G : Nat → B4} (h : w.ownsRow base t 4 (.slice (some ⟨g, 0, none⟩) n cap) n xs) (hx : BxAt xs G n) : ∀ i, i < n → HasBox w g i (G i) := by
  intro i hi
  obtain ⟨h0, h1, h2, h3⟩ := hx i hi
  refine ⟨?_, ?_, ?_, ?_⟩
  · rw [h.cellAt _ (by omega)]; exact h0
  · rw [h.cellAt _ (by omega)]; exact h1
  · rw [h.cellAt _ (by omega)]; exact h2
  · rw [h.cellAt _ (by omega)]; exact h3
end Go.Proofs.Ytjnnaaafehndpaa

/-
  The laws' own words on lists of runs: handed over, measured, held against each other, marked and held.
-/
namespace Go.Proofs.Ytjnnaaafehndpaa
open Go.RowKit
set_option linter.unusedVariables false

theorem own_bxa {w : World} {base t n cap : Nat} {a : Option Addr} {xs : List Value} {G : Nat → B4} (h : w.ownsRow base t 4 (.slice a n cap) n xs) (hx : BxAt xs G n) : ∀ i, i < n → RnAt w a i (G i) := by
  intro i hi
  obtain ⟨g, c, e, _, _⟩ := own_at h (by omega)
  cases e
  obtain ⟨h0, h1, h2, h3⟩ := hx i hi
  refine ⟨g, 0, rfl, ?_, ?_, ?_, ?_⟩
  · rw [Nat.zero_add, h.cellAt _ (by omega)]; exact h0
  · rw [Nat.zero_add, h.cellAt _ (by omega)]; exact h1
  · rw [Nat.zero_add, h.cellAt _ (by omega)]; exact h2
  · rw [Nat.zero_add, h.cellAt _ (by omega)]; exact h3

end Go.Proofs.Ytjnnaaafehndpaa
