/-
  Small laws that know nothing of the program: bytes that a call has gathered in a slice of its own, and what 'string(b)' makes of them.
-/
import Derived.WalkKit
namespace Go.Proofs.Ytngnleoggblinaa
open Go.RowKit

theorem hide {p : Prop} (h : p) : Hid p := h
theorem unhide {p : Prop} (h : Hid p) : p := h

/-- A byte as a value. -/
def Bv (b : UInt8) : Value := .int .u8 (b.toNat : Int)

theorem Bv_one (l : List UInt8) : ∀ u ∈ l.map Bv, u.oneCell' = true := by
  intro u hu
  obtain ⟨b, _, rfl⟩ := List.mem_map.1 hu
  rfl

theorem one_byte {q : Int} {b : UInt8} (h : q = (b.toNat : Int)) : #[Value.int .u8 q].toList = [b].map Bv := by subst h; rfl
theorem two_bytes {q r : Int} {b c : UInt8} (h : q = (b.toNat : Int)) (k : r = (c.toNat : Int)) : #[Value.int .u8 q, Value.int .u8 r].toList = [b, c].map Bv := by subst h; subst k; rfl

theorem ret_str {a b : List UInt8} (h : a = b) : Ending.returned (.string ⟨a.toArray⟩) = .returned (.string ⟨b.toArray⟩) := by rw [h]
theorem ret_str_ok {a b : List UInt8} {c d : Bool} (h : a = b) (k : c = d) : Ending.returned (.tuple #[.string ⟨a.toArray⟩, .bool c]) = .returned (.tuple #[.string ⟨b.toArray⟩, .bool d]) := by rw [h, k]

/-- 'string(b)' where b owns the bytes l. -/
theorem run_string_owned {P : Program} {w : World} {base n : Nat} {src dst e : TypeId} {v : Value} {l : List UInt8}
    (hs : P.underlying src = some (.slice e)) (he : P.underlying e = some (.int .u8)) (hd : P.underlying dst = some .string)
    (h : w.ownsRow base e 1 v n (l.map Bv)) : (convert src dst v).run P w = .ok (.string ⟨l.toArray⟩) w := by
  have hn : l.length = n := by have := h.1; simpa using this
  subst hn
  rcases h.2 with ⟨rfl, h0⟩ | ⟨g, cap, cur, rfl, _, hg, _, _, _, _⟩
  · have : l = [] := List.eq_nil_of_length_eq_zero h0
    subst this
    rw [run_convert_bytes_nil w src e hs he 0 0 dst hd]
    rfl
  · refine run_convert_bytes_back w src dst e ⟨g, 0, none⟩ cap l hs he hd fun j hj => ?_
    exact h.cells (g := g) rfl j _ (by simp [Bv, hj])

/-- An append's own row is above the old heap. -/
theorem grown_below {B base : Nat} {e : TypeId} {size n : Nat} {v : Value} {xs : List Value} {w0 w w' : World} (hb : Below B w0 w) (hB : B ≤ base) (h : w.ownsRow base e size v n xs) (hg : w.grownBy w' v.ownBlock) (hs : B ≤ w.heap.size) : Below B w0 w' :=
  hb.grown hg hs fun k hk => Nat.le_trans hB (h.lt k hk).1

/-- 'out = append(out, x, ..)' of bytes onto a slice of the call's own: the bytes that are appended lie in a new block. -/
theorem wpList_append_bytes {P : Program} {ops : Array Oper} {rest : List Oper} {o : Oper} {a : Act} {Q : Exit → Act → World → Prop} (wr : World) (hgd : o.guard = none) (s x : Operand) (t e : TypeId)
    (ho : o.op = .call { callee := .builtin .append, args := #[s, x], argTypes := #[t, t] })
    (base : Nat) (i : TypeInfo) (ht : P.underlying t = some (.slice e)) (hi : P.info? e = some i) (hz : i.zero = some (.int .u8 0)) (hsize : i.size = 1) (hby : i.bytes = 1)
    (v : Value) (l : List UInt8) (hs : a.eval s = v) (hown : wr.ownsRow base e 1 v l.length (l.map Bv))
    (cs : Array Value) (bs : List UInt8) (hcs : cs.toList = bs.map Bv) (m c : Nat) (hm : m = bs.length) (hx : a.eval x = .slice (some ⟨wr.heap.size, 0, none⟩) m c)
    (hlen : l.length + bs.length ≤ 140737488355328) (w0 : World) (B : Nat) (hB : B ≤ base) (hbase : base ≤ wr.heap.size) (hnx : Below B w0 wr)
    (h : ∀ v' w', w'.ownsRow base e 1 v' (l ++ bs).length ((l ++ bs).map Bv) → Below B w0 w' → wpList P ops Q rest (a.put o.dst v') w') :
    wpList P ops Q (o :: rest) a (wr.alloc (.cells cs e)) := by
  subst hm
  refine wpList_append_own (wr.alloc (.cells cs e)) hgd s x t ho base e i (.int .u8 0) 1 1 ht hi hz hsize hby rfl (by decide) v l.length (l.map Bv) hs (hown.alloc _) ⟨wr.heap.size, 0, none⟩ bs.length c (bs.map Bv) hx (by simp) ?_ (Bv_one bs) (by unfold maxLen; omega) (by omega) (by simp; omega) ?_
  · intro j u hj
    have hadd : (⟨wr.heap.size, 0, none⟩ : Addr).add j = ⟨wr.heap.size, j, none⟩ := by unfold Addr.add; split <;> simp_all
    rw [hadd]
    have := World.cell?_alloc_mark wr cs e (0, 0) j
    rw [this, ← hj, ← hcs]
    simp
  · intro v' w' ho' hg _
    refine h v' w' (by simpa using ho') ?_
    exact grown_below (hnx.alloc (by omega) _) hB (hown.alloc _) hg (by simp; omega)

/-- The same as one step of a region that draws its order. -/
theorem step_append_bytes {P : Program} {ops : Array Oper} {o : Oper} {a : Act} {w : World} {K : Act → World → Prop} {Q : Exit → Act → World → Prop} {E : Prop} (hg : o.guard = none) (s x : Operand) (t e : TypeId)
    (hop : o.op = .call { callee := .builtin .append, args := #[s, x], argTypes := #[t, t] })
    (base : Nat) (i : TypeInfo) (ht : P.underlying t = some (.slice e)) (hi : P.info? e = some i) (hz : i.zero = some (.int .u8 0)) (hsize : i.size = 1) (hby : i.bytes = 1)
    (v : Value) (l : List UInt8) (hs : a.eval s = v) (hown : w.ownsRow base e 1 v l.length (l.map Bv))
    (ad : Addr) (bs : List UInt8) (m c : Nat) (hm : m = bs.length) (hx : a.eval x = .slice (some ad) m c) (hc : ∀ j u, (bs.map Bv)[j]? = some u → w.cell? (ad.add j) = some u)
    (hlen : l.length + bs.length ≤ 140737488355328) (w0 : World) (B : Nat) (hB : B ≤ base) (hbase : base ≤ w.heap.size) (hnx : Below B w0 w)
    (hK : ∀ v' w', w'.ownsRow base e 1 v' (l ++ bs).length ((l ++ bs).map Bv) → Below B w0 w' → K (a.put o.dst v') w') :
    if Region.wanted o (yielded ops a.tmps) = true then Oper.wp P o a w K Q else E := by
  have hw : Region.wanted o (yielded ops a.tmps) = true := by simp [Region.wanted, hg]
  rw [if_pos hw]
  subst hm
  refine wp_append_own w s x t hop base e i (.int .u8 0) 1 1 ht hi hz hsize hby rfl (by decide) v l.length (l.map Bv) hs hown ad bs.length c (bs.map Bv) hx (by simp) hc (Bv_one bs) (by unfold maxLen; omega) (by omega) hbase ?_
  intro v' w' ho' hg' _
  exact hK v' w' (by simpa using ho') (grown_below hnx hB hown hg' (by omega))

theorem cells_new2 {w : World} {e : TypeId} {p q : Value} : ∀ j u, ([p, q] : List Value)[j]? = some u → (w.alloc (.cells #[p, q] e)).cell? ((⟨w.heap.size, 0, none⟩ : Addr).add j) = some u := by
  intro j u hj
  have hadd : (⟨w.heap.size, 0, none⟩ : Addr).add j = ⟨w.heap.size, j, none⟩ := by unfold Addr.add; split <;> simp_all
  rw [hadd, World.cell?_alloc_mark, ← hj]
  simp

theorem cells_new2' {w : World} {e : TypeId} {p q : Value} {bs : List UInt8} (h : bs.map Bv = [p, q]) : ∀ j u, (bs.map Bv)[j]? = some u → (w.alloc (.cells #[p, q] e)).cell? ((⟨w.heap.size, 0, none⟩ : Addr).add j) = some u := by
  rw [h]
  exact cells_new2

theorem below_undrew {w w' : World} (h : Below w.drew.heap.size w.drew w') : Below w.heap.size w w' := (Below.drew (Below.refl w.heap.size w)).trans h

end Go.Proofs.Ytngnleoggblinaa
