/-
  Kit · Words · Base · Fixed · FixS · Kit2 · PlaceS · Agg · BoxS · JoinS · RowSet · JoinN · PaintP · PaintS · PaintT · ToAgg · PaintL · PathP · PtRow · QuietIn · ToPts · PathL: texts of one claim, in one.
-/
import Derived.WalkKit
import Derived.Test.YtdbphpekhmlmdaaRows
import Derived.WalkSpells
import Derived.Deep.QuietTactic
import Derived.WalkSmall
import Derived.Laws.Rows
import Derived.BigQuiet
import Derived.Deep.DeepFit
import Derived.Deep.RegionHeld3
import Derived.Deep.DeepCutAuto

/-
  Small laws that know nothing of the program: bytes that a call has gathered in a slice of its own, and what 'string(b)' makes of them.
-/
namespace Go.Proofs.Ytdbphpekhmlmdaa
open Go.RowKit

theorem hide {p : Prop} (h : p) : Hid p := h
theorem unhide {p : Prop} (h : Hid p) : p := h

/-- A byte as a value. -/
def Bv (b : UInt8) : Value := .int .u8 (b.toNat : Int)

theorem Bv_one (l : List UInt8) : ∀ u ∈ l.map Bv, u.oneCell' = true := by
  intro u hu
  obtain ⟨b, _, rfl⟩ := List.mem_map.1 hu
  rfl

theorem one_byte {q : Int} {b : UInt8} (h : q = (b.toNat : Int)) : #[Value.int .u8 q].toList = [b].map Bv := by subst h; rfl
theorem two_bytes {q r : Int} {b c : UInt8} (h : q = (b.toNat : Int)) (k : r = (c.toNat : Int)) : #[Value.int .u8 q, Value.int .u8 r].toList = [b, c].map Bv := by subst h; subst k; rfl

theorem ret_str {a b : List UInt8} (h : a = b) : Ending.returned (.string ⟨a.toArray⟩) = .returned (.string ⟨b.toArray⟩) := by rw [h]
theorem ret_str_ok {a b : List UInt8} {c d : Bool} (h : a = b) (k : c = d) : Ending.returned (.tuple #[.string ⟨a.toArray⟩, .bool c]) = .returned (.tuple #[.string ⟨b.toArray⟩, .bool d]) := by rw [h, k]

/-- 'string(b)' where b owns the bytes l. -/
theorem run_string_owned {P : Program} {w : World} {base n : Nat} {src dst e : TypeId} {v : Value} {l : List UInt8}
    (hs : P.underlying src = some (.slice e)) (he : P.underlying e = some (.int .u8)) (hd : P.underlying dst = some .string)
    (h : w.ownsRow base e 1 v n (l.map Bv)) : (convert src dst v).run P w = .ok (.string ⟨l.toArray⟩) w := by
  have hn : l.length = n := by have := h.1; simpa using this
  subst hn
  rcases h.2 with ⟨rfl, h0⟩ | ⟨g, cap, cur, rfl, _, hg, _, _, _, _⟩
  · have : l = [] := List.eq_nil_of_length_eq_zero h0
    subst this
    rw [run_convert_bytes_nil w src e hs he 0 0 dst hd]
    rfl
  · refine run_convert_bytes_back w src dst e ⟨g, 0, none⟩ cap l hs he hd fun j hj => ?_
    exact h.cells (g := g) rfl j _ (by simp [Bv, hj])

/-- An append's own row is above the old heap. -/
theorem grown_below {B base : Nat} {e : TypeId} {size n : Nat} {v : Value} {xs : List Value} {w0 w w' : World} (hb : Below B w0 w) (hB : B ≤ base) (h : w.ownsRow base e size v n xs) (hg : w.grownBy w' v.ownBlock) (hs : B ≤ w.heap.size) : Below B w0 w' :=
  hb.grown hg hs fun k hk => Nat.le_trans hB (h.lt k hk).1

/-- 'out = append(out, x, ..)' of bytes onto a slice of the call's own: the bytes that are appended lie in a new block. -/
theorem wpList_append_bytes {P : Program} {ops : Array Oper} {rest : List Oper} {o : Oper} {a : Act} {Q : Exit → Act → World → Prop} (wr : World) (hgd : o.guard = none) (s x : Operand) (t e : TypeId)
    (ho : o.op = .call { callee := .builtin .append, args := #[s, x], argTypes := #[t, t] })
    (base : Nat) (i : TypeInfo) (ht : P.underlying t = some (.slice e)) (hi : P.info? e = some i) (hz : i.zero = some (.int .u8 0)) (hsize : i.size = 1) (hby : i.bytes = 1)
    (v : Value) (l : List UInt8) (hs : a.eval s = v) (hown : wr.ownsRow base e 1 v l.length (l.map Bv))
    (cs : Array Value) (bs : List UInt8) (hcs : cs.toList = bs.map Bv) (m c : Nat) (hm : m = bs.length) (hx : a.eval x = .slice (some ⟨wr.heap.size, 0, none⟩) m c)
    (hlen : l.length + bs.length ≤ 140737488355328) (w0 : World) (B : Nat) (hB : B ≤ base) (hbase : base ≤ wr.heap.size) (hnx : Below B w0 wr)
    (h : ∀ v' w', w'.ownsRow base e 1 v' (l ++ bs).length ((l ++ bs).map Bv) → Below B w0 w' → wpList P ops Q rest (a.put o.dst v') w') :
    wpList P ops Q (o :: rest) a (wr.alloc (.cells cs e)) := by
  subst hm
  refine wpList_append_own (wr.alloc (.cells cs e)) hgd s x t ho base e i (.int .u8 0) 1 1 ht hi hz hsize hby rfl (by decide) v l.length (l.map Bv) hs (hown.alloc _) ⟨wr.heap.size, 0, none⟩ bs.length c (bs.map Bv) hx (by simp) ?_ (Bv_one bs) (by unfold maxLen; omega) (by omega) (by simp; omega) ?_
  · intro j u hj
    have hadd : (⟨wr.heap.size, 0, none⟩ : Addr).add j = ⟨wr.heap.size, j, none⟩ := by unfold Addr.add; split <;> simp_all
    rw [hadd]
    have := World.cell?_alloc_mark wr cs e (0, 0) j
    rw [this, ← hj, ← hcs]
    simp
  · intro v' w' ho' hg _
    refine h v' w' (by simpa using ho') ?_
    exact grown_below (hnx.alloc (by omega) _) hB (hown.alloc _) hg (by simp; omega)

/-- The same as one step of a region that draws its order. -/
theorem step_append_bytes {P : Program} {ops : Array Oper} {o : Oper} {a : Act} {w : World} {K : Act → World → Prop} {Q : Exit → Act → World → Prop} {E : Prop} (hg : o.guard = none) (s x : Operand) (t e : TypeId)
    (hop : o.op = .call { callee := .builtin .append, args := #[s, x], argTypes := #[t, t] })
    (base : Nat) (i : TypeInfo) (ht : P.underlying t = some (.slice e)) (hi : P.info? e = some i) (hz : i.zero = some (.int .u8 0)) (hsize : i.size = 1) (hby : i.bytes = 1)
    (v : Value) (l : List UInt8) (hs : a.eval s = v) (hown : w.ownsRow base e 1 v l.length (l.map Bv))
    (ad : Addr) (bs : List UInt8) (m c : Nat) (hm : m = bs.length) (hx : a.eval x = .slice (some ad) m c) (hc : ∀ j u, (bs.map Bv)[j]? = some u → w.cell? (ad.add j) = some u)
    (hlen : l.length + bs.length ≤ 140737488355328) (w0 : World) (B : Nat) (hB : B ≤ base) (hbase : base ≤ w.heap.size) (hnx : Below B w0 w)
    (hK : ∀ v' w', w'.ownsRow base e 1 v' (l ++ bs).length ((l ++ bs).map Bv) → Below B w0 w' → K (a.put o.dst v') w') :
    if Region.wanted o (yielded ops a.tmps) = true then Oper.wp P o a w K Q else E := by
  have hw : Region.wanted o (yielded ops a.tmps) = true := by simp [Region.wanted, hg]
  rw [if_pos hw]
  subst hm
  refine wp_append_own w s x t hop base e i (.int .u8 0) 1 1 ht hi hz hsize hby rfl (by decide) v l.length (l.map Bv) hs hown ad bs.length c (bs.map Bv) hx (by simp) hc (Bv_one bs) (by unfold maxLen; omega) (by omega) hbase ?_
  intro v' w' ho' hg' _
  exact hK v' w' (by simpa using ho') (grown_below hnx hB hown hg' (by omega))

theorem cells_new2 {w : World} {e : TypeId} {p q : Value} : ∀ j u, ([p, q] : List Value)[j]? = some u → (w.alloc (.cells #[p, q] e)).cell? ((⟨w.heap.size, 0, none⟩ : Addr).add j) = some u := by
  intro j u hj
  have hadd : (⟨w.heap.size, 0, none⟩ : Addr).add j = ⟨w.heap.size, j, none⟩ := by unfold Addr.add; split <;> simp_all
  rw [hadd, World.cell?_alloc_mark, ← hj]
  simp

theorem cells_new2' {w : World} {e : TypeId} {p q : Value} {bs : List UInt8} (h : bs.map Bv = [p, q]) : ∀ j u, (bs.map Bv)[j]? = some u → (w.alloc (.cells #[p, q] e)).cell? ((⟨w.heap.size, 0, none⟩ : Addr).add j) = some u := by
  rw [h]
  exact cells_new2

theorem below_undrew {w w' : World} (h : Below w.drew.heap.size w.drew w') : Below w.heap.size w w' := (Below.drew (Below.refl w.heap.size w)).trans h

end Go.Proofs.Ytdbphpekhmlmdaa

/-
  The plain side of chapter 1: numbers as bytes, no Go in sight.
-/
namespace Go.Proofs.Ytdbphpekhmlmdaa

theorem ofNat_toNat (k : Nat) (h : k < 256) : (UInt8.ofNat k).toNat = k := by
  rw [UInt8.toNat_ofNat']
  exact Nat.mod_eq_of_lt h

/-- A number in groups of seven bits, at most f + 1 of them. -/
def varF : Nat → Nat → List UInt8
  | 0, n => [UInt8.ofNat n]
  | f + 1, n => if n ≤ 127 then [UInt8.ofNat n] else UInt8.ofNat (n % 128 + 128) :: varF f (n / 128)

def lim : Nat → Nat
  | 0 => 128
  | f + 1 => 128 * lim f

theorem varF_small (f n : Nat) (h : n ≤ 127) : varF f n = [UInt8.ofNat n] := by
  cases f with
  | zero => rfl
  | succ f => simp [varF, h]

theorem varF_step (f n : Nat) (h : ¬ n ≤ 127) : varF (f + 1) n = UInt8.ofNat (n % 128 + 128) :: varF f (n / 128) := by
  simp [varF, h]

theorem varF_len (f n : Nat) : (varF f n).length ≤ f + 1 := by
  induction f generalizing n with
  | zero => simp [varF]
  | succ f ih => unfold varF; split <;> simp; exact ih _

/-- What bytes read as, seven bits a byte, the least first. -/
def val : List UInt8 → Nat
  | [] => 0
  | b :: l => b.toNat % 128 + 128 * val l

def pw : Nat → Nat
  | 0 => 1
  | k + 1 => 128 * pw k

theorem val_snoc (l : List UInt8) (b : UInt8) : val (l ++ [b]) = val l + b.toNat % 128 * pw l.length := by
  induction l with
  | nil => simp [val, pw]
  | cons c l ih =>
    simp only [List.cons_append, val, ih, List.length_cons, pw]
    have e : b.toNat % 128 * (128 * pw l.length) = 128 * (b.toNat % 128 * pw l.length) := by
      rw [← Nat.mul_assoc, ← Nat.mul_assoc, Nat.mul_comm (b.toNat % 128) 128]
    rw [e]
    omega

theorem val_lt (l : List UInt8) : val l < pw l.length := by
  induction l with
  | nil => simp [val, pw]
  | cons c l ih => simp only [val, List.length_cons, pw]; omega

/-- What a number's bytes are when its last is none that could be left out. -/
theorem varF_val (l : List UInt8) (b : UInt8) (f : Nat) (hl : ∀ c ∈ l, 128 ≤ c.toNat) (hb : b.toNat ≤ 127) (hz : l = [] ∨ b.toNat ≠ 0) (hf : l.length ≤ f) :
    varF f (val (l ++ [b])) = l ++ [b] := by
  induction l generalizing f with
  | nil =>
    have : val ([] ++ [b]) = b.toNat := by simp [val]; omega
    rw [this, varF_small f _ hb]
    simp
  | cons c l ih =>
    have hc := hl c (by simp)
    have hc2 : c.toNat < 256 := c.toNat_lt
    cases f with
    | zero => simp at hf
    | succ f =>
      have hpos : 0 < val (l ++ [b]) := by
        have hb0 : b.toNat ≠ 0 := by rcases hz with h | h; · cases h
                                     · exact h
        rw [val_snoc]
        have : 0 < pw l.length := by have := val_lt l; omega
        have : 0 < b.toNat % 128 * pw l.length := Nat.mul_pos (by omega) this
        omega
      have hb0 : b.toNat ≠ 0 := by rcases hz with h | h; · cases h
                                   · exact h
      show varF (f + 1) (c.toNat % 128 + 128 * val (l ++ [b])) = _
      rw [varF_step f _ (by omega)]
      have e1 : (c.toNat % 128 + 128 * val (l ++ [b])) % 128 + 128 = c.toNat := by omega
      have e2 : (c.toNat % 128 + 128 * val (l ++ [b])) / 128 = val (l ++ [b]) := by omega
      rw [e1, e2, ih f (fun d hd => hl d (by simp [hd])) (.inr hb0) (by simpa using hf)]
      simp

theorem varF_nval (l : List UInt8) (f : Nat) (h0 : l ≠ []) (b : UInt8) (hb : b.toNat = 0) : varF f (val (l ++ [b])) ≠ l ++ [b] := by
  induction l generalizing f with
  | nil => exact absurd rfl h0
  | cons c l ih =>
    intro he
    show False
    have hv : val (c :: l ++ [b]) = c.toNat % 128 + 128 * val (l ++ [b]) := rfl
    rw [hv] at he
    by_cases hs : c.toNat % 128 + 128 * val (l ++ [b]) ≤ 127
    · rw [varF_small f _ hs] at he
      have := congrArg List.length he
      simp at this
    · cases f with
      | zero =>
        have := congrArg List.length he
        simp [varF] at this
      | succ f =>
        rw [varF_step f _ hs] at he
        have e2 : (c.toNat % 128 + 128 * val (l ++ [b])) / 128 = val (l ++ [b]) := by omega
        rw [e2] at he
        have ht : varF f (val (l ++ [b])) = l ++ [b] := by
          have := congrArg List.tail he
          simpa using this
        by_cases hl : l = []
        · subst hl
          apply hs
          simp [val, hb]
          omega
        · exact ih f hl ht

/-- A number is read: fuel, what is read so far, how many bytes, what is left: the number and how many bytes it took. -/
def rdF : Nat → Nat → Nat → List UInt8 → Option (Nat × Nat)
  | 0, _, _, _ => none
  | _ + 1, _, _, [] => none
  | f + 1, n, k, b :: l =>
    if 127 < b.toNat then rdF f (n + b.toNat % 128 * pw k) (k + 1) l
    else if (b.toNat = 0 ∧ 0 < k) ∨ 1000000000 < n + b.toNat % 128 * pw k then none
    else some (n + b.toNat % 128 * pw k, k + 1)

def rdV (s : ByteArray) (a : Nat) : Option (Nat × Nat) := rdF 5 0 0 (s.data.toList.drop a)

theorem drop_at (s : ByteArray) (j : Nat) (h : j < s.size) : s.data.toList.drop j = s[j] :: s.data.toList.drop (j + 1) := by
  rw [List.drop_eq_getElem_cons (by simpa using h)]
  rfl

theorem pw_le (k : Nat) (h : k ≤ 4) : pw k ≤ 268435456 := by
  match k, h with
  | 0, _ => decide
  | 1, _ => decide
  | 2, _ => decide
  | 3, _ => decide
  | 4, _ => decide

/-- Where a reading stands behind k bytes. -/
structure RdAt (s : ByteArray) (a j k nn uu : Nat) : Prop where
  le : k ≤ 5
  at_ : j = a + k
  in_ : j ≤ s.size
  unit : uu = pw k
  num : nn = val ((s.data.toList.drop a).take k)
  high : ∀ b ∈ (s.data.toList.drop a).take k, 128 ≤ b.toNat
  rest : rdF (5 - k) nn k (s.data.toList.drop j) = rdV s a

theorem RdAt.start {s : ByteArray} {a : Nat} (h : a ≤ s.size) : RdAt s a a 0 0 1 :=
  ⟨by omega, rfl, h, rfl, by simp [val], by simp, rfl⟩

theorem RdAt.len {s : ByteArray} {a j k nn uu : Nat} (h : RdAt s a j k nn uu) : ((s.data.toList.drop a).take k).length = k := by
  have h1 := h.at_; have h2 := h.in_
  have : s.data.toList.length = s.size := rfl
  rw [List.length_take, List.length_drop, this]
  omega

theorem RdAt.bd {s : ByteArray} {a j k nn uu : Nat} (h : RdAt s a j k nn uu) (hk : k < 5) : nn < 268435456 ∧ uu ≤ 268435456 ∧ 1 ≤ uu := by
  have h1 := val_lt ((s.data.toList.drop a).take k)
  rw [h.len, ← h.num, ← h.unit] at h1
  have h2 := pw_le k (by omega)
  rw [← h.unit] at h2
  omega

theorem RdAt.big {s : ByteArray} {a j k nn uu : Nat} (h : RdAt s a j k nn uu) : (k < 5 ↔ uu ≤ 1000000000) := by
  constructor
  · intro hk; have := (h.bd hk).2.1; omega
  · intro hu
    have h5 := h.le
    by_cases hk : k = 5
    · have hp : pw 5 = 34359738368 := by decide
      have hu5 := h.unit
      rw [hk, hp] at hu5
      omega
    · omega

theorem take_snoc' (l : List UInt8) (k : Nat) (h : k < l.length) : l.take (k + 1) = l.take k ++ [l[k]] := by
  rw [List.take_succ_eq_append_getElem h]

theorem RdAt.take {s : ByteArray} {a j k nn uu : Nat} (h : RdAt s a j k nn uu) (hj : j < s.size) : (s.data.toList.drop a).take (k + 1) = (s.data.toList.drop a).take k ++ [s[j]] := by
  have hl : k < (s.data.toList.drop a).length := by
    have h1 := h.at_
    have : s.data.toList.length = s.size := rfl
    rw [List.length_drop, this]; omega
  rw [take_snoc' _ k hl]
  congr 2
  rw [List.getElem_drop]
  have h1 := h.at_
  subst h1
  rfl

theorem RdAt.num' {s : ByteArray} {a j k nn uu : Nat} (h : RdAt s a j k nn uu) (hj : j < s.size) : nn + s[j].toNat % 128 * uu = val ((s.data.toList.drop a).take k ++ [s[j]]) := by
  rw [val_snoc, h.len, ← h.num, ← h.unit]

theorem RdAt.step {s : ByteArray} {a j k nn uu : Nat} (h : RdAt s a j k nn uu) (hj : j < s.size) (hk : k < 5) (hb : 127 < s[j].toNat) :
    RdAt s a (j + 1) (k + 1) (nn + s[j].toNat % 128 * uu) (uu * 128) := by
  refine ⟨by omega, by have := h.at_; omega, by omega, by rw [h.unit, Nat.mul_comm]; rfl, ?_, ?_, ?_⟩
  · rw [h.take hj]; exact h.num' hj
  · rw [h.take hj]
    intro b hb'
    rcases List.mem_append.1 hb' with h1 | h1
    · exact h.high b h1
    · simp at h1; subst h1; omega
  · have hr := h.rest
    rw [drop_at s j hj] at hr
    obtain ⟨f, hf⟩ : ∃ f, 5 - k = f + 1 := ⟨5 - k - 1, by omega⟩
    rw [hf] at hr
    have hf' : 5 - (k + 1) = f := by omega
    rw [hf', ← hr]
    simp only [rdF, if_pos hb, h.unit]

theorem RdAt.none_end {s : ByteArray} {a j k nn uu : Nat} (h : RdAt s a j k nn uu) (he : s.size ≤ j ∨ ¬ k < 5) : rdV s a = none := by
  rw [← h.rest]
  by_cases hk : k < 5
  · have hj : s.size ≤ j := by rcases he with h | h; · exact h
                               · exact absurd hk h
    have : s.data.toList.length = s.size := rfl
    rw [List.drop_of_length_le (by omega)]
    obtain ⟨f, hf⟩ : ∃ f, 5 - k = f + 1 := ⟨5 - k - 1, by omega⟩
    rw [hf]
    rfl
  · have := h.le
    have : 5 - k = 0 := by omega
    rw [this]
    rfl

theorem RdAt.last {s : ByteArray} {a j k nn uu : Nat} (h : RdAt s a j k nn uu) (hj : j < s.size) (hk : k < 5) (hb : ¬ 127 < s[j].toNat) :
    rdV s a = if (s[j].toNat = 0 ∧ 0 < k) ∨ 1000000000 < nn + s[j].toNat % 128 * uu then none else some (nn + s[j].toNat % 128 * uu, k + 1) := by
  have hr := h.rest
  rw [drop_at s j hj] at hr
  obtain ⟨f, hf⟩ : ∃ f, 5 - k = f + 1 := ⟨5 - k - 1, by omega⟩
  rw [hf] at hr
  rw [← hr]
  simp only [rdF, if_neg hb, h.unit]

/-- What is written of the number is what was read: just where no byte could be left out. -/
theorem RdAt.back {s : ByteArray} {a j k nn uu : Nat} (h : RdAt s a j k nn uu) (hj : j < s.size) (hk : k < 5) (hb : ¬ 127 < s[j].toNat) :
    (varF 4 (nn + s[j].toNat % 128 * uu) = (s.data.toList.drop a).take (k + 1)) ↔ ¬ (s[j].toNat = 0 ∧ 0 < k) := by
  rw [h.num' hj, h.take hj]
  have hl := h.len
  constructor
  · intro he hn
    refine varF_nval _ 4 ?_ _ hn.1 he
    intro h0
    rw [h0] at hl
    simp at hl
    omega
  · intro hn
    refine varF_val _ _ 4 h.high (by omega) ?_ (by omega)
    by_cases h0 : s[j].toNat = 0
    · left
      have : k = 0 := by
        by_cases hk0 : 0 < k
        · exact absurd ⟨h0, hk0⟩ hn
        · omega
      exact List.eq_nil_of_length_eq_zero (by omega)
    · exact .inr h0

theorem rdF_bd (f n k : Nat) (l : List UInt8) (m q : Nat) (h : rdF f n k l = some (m, q)) : m ≤ 1000000000 ∧ k < q ∧ q ≤ k + l.length := by
  induction f generalizing n k l with
  | zero => simp [rdF] at h
  | succ f ih =>
    cases l with
    | nil => simp [rdF] at h
    | cons b l =>
      simp only [rdF] at h
      split at h
      · have := ih _ _ _ h
        simp only [List.length_cons]
        omega
      · split at h
        · cases h
        · rename_i hn
          simp only [Option.some.injEq, Prod.mk.injEq] at h
          simp only [List.length_cons]
          omega

theorem rdV_bd {s : ByteArray} {a m q : Nat} (ha : a ≤ s.size) (h : rdV s a = some (m, q)) : m ≤ 1000000000 ∧ 0 < q ∧ a + q ≤ s.size := by
  have := rdF_bd _ _ _ _ _ _ h
  have hl : s.data.toList.length = s.size := rfl
  rw [List.length_drop, hl] at this
  omega

end Go.Proofs.Ytdbphpekhmlmdaa

/-
  What every walk of this seat leans on: the row of the type of bytes.
-/
namespace Go.Proofs.Ytdbphpekhmlmdaa
open Go.RowKit

theorem Try.info5 : (Try.prog.info? 5).map (fun i => (i.zero, i.size, i.bytes)) = some (some (.int .u8 0), 1, 1) := by kernel_rfl

theorem ret_u8 {a b : Int} (h : a = b) : Ending.returned (.int .u8 a) = .returned (.int .u8 b) := by rw [h]
theorem ret_i64 {a b : Int} (h : a = b) : Ending.returned (.int .i64 a) = .returned (.int .i64 b) := by rw [h]
end Go.Proofs.Ytdbphpekhmlmdaa

/-
  The plain side of chapter 3: quotients, roots, numbers between two; no Go in sight.
-/
namespace Go.Proofs.Ytdbphpekhmlmdaa

def fdivI (a b : Int) : Int := if b < 1 then 0 else a / b
def rdivI (a b : Int) : Int := if b < 1 then 0 else if b - a % b ≤ a % b then a / b + 1 else a / b
def clampI (x low high : Int) : Int := if x < low then low else if high < x then high else x
def t255I (a b : Int) : Int := rdivI (clampI a 0 255 * clampI b 0 255) 255

theorem tmod_bd (a b : Int) (hb : 1 ≤ b) : -b < a.tmod b ∧ a.tmod b < b := by
  have h1 := Int.lt_tmod_of_pos a (by omega : 0 < b)
  have h2 := Int.tmod_lt_of_pos a (by omega : 0 < b)
  exact ⟨h1, h2⟩

theorem floor_neg (a b : Int) (hb : 1 ≤ b) (h : a.tmod b < 0) : a / b = a.tdiv b - 1 := by
  have e := Int.mul_tdiv_add_tmod a b
  have bd := tmod_bd a b hb
  have := (Int.ediv_emod_unique (a := a) (b := b) (r := a.tmod b + b) (q := a.tdiv b - 1) (by omega)).2 ⟨by rw [Int.mul_sub]; omega, by omega, by omega⟩
  exact this.1
theorem floor_pos (a b : Int) (hb : 1 ≤ b) (h : ¬ a.tmod b < 0) : a / b = a.tdiv b := by
  have e := Int.mul_tdiv_add_tmod a b
  have bd := tmod_bd a b hb
  have := (Int.ediv_emod_unique (a := a) (b := b) (r := a.tmod b) (q := a.tdiv b) (by omega)).2 ⟨by omega, by omega, by omega⟩
  exact this.1

theorem floor_fit {a b : Int} (hb : 1 ≤ b) (h0 : -9223372036854775808 ≤ a) (h1 : a ≤ 9223372036854775807) : -9223372036854775808 ≤ a / b ∧ a / b ≤ 9223372036854775807 := by
  constructor
  · have h := Int.ediv_le_ediv (by omega : 0 < b) h0
    have k : -9223372036854775808 ≤ (-9223372036854775808 : Int) / b := by
      rw [Int.le_ediv_iff_mul_le (by omega)]
      have : (1 : Int) * 9223372036854775808 ≤ b * 9223372036854775808 := Int.mul_le_mul_of_nonneg_right hb (by decide)
      rw [Int.mul_comm]
      omega
    omega
  · have h := Int.ediv_le_ediv (by omega : 0 < b) h1
    have k : (9223372036854775807 : Int) / b ≤ 9223372036854775807 := Int.ediv_le_self _ (by decide)
    omega

theorem emod_bd (a b : Int) (hb : 1 ≤ b) : 0 ≤ a % b ∧ a % b < b := ⟨Int.emod_nonneg _ (by omega), Int.emod_lt_of_pos _ (by omega)⟩

/-- What is left of a division, though the product may pass what an int holds. -/
theorem rest_wrap (a b : Int) (hb : 1 ≤ b) (hb2 : b ≤ 9223372036854775807) : RowKit.wrap64 (a - RowKit.wrap64 (a / b * b)) = a % b := by
  have e := Int.mul_ediv_add_emod a b
  have bd := emod_bd a b hb
  have e2 : a / b * b = a - a % b := by rw [Int.mul_comm]; omega
  rw [e2]
  unfold RowKit.wrap64
  omega

/-- The root of n. -/
structure IsRoot (n s : Int) : Prop where
  pos : 0 ≤ s
  le : s ≤ 3037000499
  sq : s * s ≤ n
  next : n < (s + 1) * (s + 1)

theorem sq_mono {a b : Int} (h0 : 0 ≤ a) (h : a ≤ b) : a * a ≤ b * b := Int.mul_le_mul h h h0 (by omega)

theorem IsRoot.unique {n s t : Int} (h : IsRoot n s) (k : IsRoot n t) : s = t := by
  by_cases h1 : s < t
  · have := sq_mono (a := s + 1) (b := t) (by have := h.pos; omega) (by omega)
    have a := h.next; have b := k.sq; omega
  · by_cases h2 : t < s
    · have := sq_mono (a := t + 1) (b := s) (by have := k.pos; omega) (by omega)
      have a := k.next; have b := h.sq; omega
    · omega

theorem rdiv_fit {a b : Int} (hb : 1 ≤ b) (h0 : -9223372036854775808 ≤ a) (h1 : a ≤ 9223372036854775807) (hr : b - a % b ≤ a % b) : a / b + 1 ≤ 9223372036854775807 := by
  have hf := floor_fit hb h0 h1
  by_cases h2 : b = 1
  · subst h2
    have := emod_bd a 1 (by omega)
    omega
  · have e := Int.mul_ediv_add_emod a b
    have bd := emod_bd a b hb
    by_cases hp : a / b ≤ 9223372036854775806
    · omega
    · have : (2 : Int) * (a / b) ≤ b * (a / b) := Int.mul_le_mul_of_nonneg_right (by omega) (by omega)
      omega

end Go.Proofs.Ytdbphpekhmlmdaa

/-
  The walks of the specification's chapter 3.
-/
namespace Go.Proofs.Ytdbphpekhmlmdaa
open Go.RowKit

theorem specFloorDiv_any (a b : Int) (a0 : -9223372036854775808 ≤ a) (a1 : a ≤ 9223372036854775807) (w : World) :
    Calls Try.prog 62 #[.int .i64 a, .int .i64 b] w fun e w' => e = .returned (.int .i64 (fdivI a b)) ∧ w' = w := by
  by_cases hb : b < 1
  · have H : Hid (0 = fdivI a b) := by unfold Hid fdivI; rw [if_pos hb]
    go_enter Try.func62, Try.ntmps62
    go_wp2
    go_ret
    exact ⟨ret_i64 (unhide H), rfl⟩
  · have hb1 : 1 ≤ b := by omega
    have hb2 : (b == 0) = false := beq_eq_false_iff_ne.2 (by omega)
    by_cases hr : a.tmod b < 0
    · have H : Hid (a.tdiv b - 1 = fdivI a b) := by unfold Hid fdivI; rw [if_neg hb, floor_neg a b hb1 hr]
      have hf := floor_fit hb1 a0 a1
      rw [floor_neg a b hb1 hr] at hf
      obtain ⟨f1, f2⟩ := hf
      go_enter Try.func62, Try.ntmps62
      go_wp2
      go_ret
      exact ⟨ret_i64 (unhide H), rfl⟩
    · have H : Hid (a.tdiv b = fdivI a b) := by unfold Hid fdivI; rw [if_neg hb, floor_pos a b hb1 hr]
      go_enter Try.func62, Try.ntmps62
      go_wp2
      go_ret
      exact ⟨ret_i64 (unhide H), rfl⟩

set_option maxHeartbeats 1000000 in
theorem specRoundDiv_any (a b : Int) (a0 : -9223372036854775808 ≤ a) (a1 : a ≤ 9223372036854775807) (b1 : b ≤ 9223372036854775807) (w : World) :
    Calls Try.prog 39 #[.int .i64 a, .int .i64 b] w fun e w' => e = .returned (.int .i64 (rdivI a b)) ∧ w' = w := by
  by_cases hb : b < 1
  · have H : Hid (0 = rdivI a b) := by unfold Hid rdivI; rw [if_pos hb]
    go_enter Try.func39, Try.ntmps39
    go_wp2
    go_ret
    exact ⟨ret_i64 (unhide H), rfl⟩
  · have hb1 : 1 ≤ b := by omega
    have hF := specFloorDiv_any a b a0 a1
    have e1 : fdivI a b = a / b := by unfold fdivI; rw [if_neg hb]
    rw [e1] at hF
    have hf := floor_fit hb1 a0 a1
    have hw := rest_wrap a b hb1 b1
    have bd := emod_bd a b hb1
    have hfit := @rdiv_fit a b hb1 a0 a1
    have e2 : rdivI a b = if b - a % b ≤ a % b then a / b + 1 else a / b := by unfold rdivI; rw [if_neg hb]
    obtain ⟨q, hq⟩ : ∃ q, q = a / b := ⟨_, rfl⟩
    obtain ⟨r, hr⟩ : ∃ r, r = a % b := ⟨_, rfl⟩
    rw [← hq] at hF hf hw hfit e2
    rw [← hr] at hw bd hfit e2
    have HE := hide e2
    have HF := hide hF
    obtain ⟨f1, f2⟩ := hf
    obtain ⟨r1, r2⟩ := bd
    clear hF e1 e2 hq hr hb
    by_cases hc : b - r ≤ r
    · have H : Hid (q + 1 = rdivI a b) := by unfold Hid; rw [unhide HE, if_pos hc]
      have f3 := hfit hc
      clear hfit
      go_enter Try.func39, Try.ntmps39
      go_wp2_with (go_at_call 62; go_must (refine (unhide HF _).mono ?_); rintro e w1 ⟨rfl, rfl⟩)
      go_ret
      exact ⟨ret_i64 (unhide H), rfl⟩
    · have H : Hid (q = rdivI a b) := by unfold Hid; rw [unhide HE, if_neg hc]
      clear hfit
      go_enter Try.func39, Try.ntmps39
      go_wp2_with (go_at_call 62; go_must (refine (unhide HF _).mono ?_); rintro e w1 ⟨rfl, rfl⟩)
      go_ret
      exact ⟨ret_i64 (unhide H), rfl⟩

theorem clamp255 (x : Int) : 0 ≤ clampI x 0 255 ∧ clampI x 0 255 ≤ 255 := by unfold clampI; split <;> (try split) <;> omega
theorem prod255 {x y : Int} (h1 : 0 ≤ x ∧ x ≤ 255) (h2 : 0 ≤ y ∧ y ≤ 255) : 0 ≤ x * y ∧ x * y ≤ 65025 := ⟨Int.mul_nonneg h1.1 h2.1, by have := Int.mul_le_mul h1.2 h2.2 h2.1 (by decide); omega⟩

end Go.Proofs.Ytdbphpekhmlmdaa

/-
  Small laws that know nothing of the program: slices of one-cell elements that a call owns, carried over what other calls do.
-/
namespace Go.Proofs.Ytdbphpekhmlmdaa
open Go.RowKit

theorem grown_of_below {w w' : World} (h : Below w.heap.size w w') (row : Option Nat) : w.grownBy w' row := ⟨h.os, h.tape, h.output, h.size, fun k hk _ => h.block k hk⟩
theorem below_of_grown {B : Nat} {w w' : World} {row : Option Nat} (h : w.grownBy w' row) (hB : B ≤ w.heap.size) (hr : ∀ k, row = some k → B ≤ k) : Below B w w' := (Below.refl B w).grown h hB hr
theorem grown_trans {w a b : World} {row : Option Nat} (h : w.grownBy a row) (k : a.grownBy b row) : w.grownBy b row :=
  ⟨k.os.trans h.os, k.tape.trans h.tape, k.output.trans h.output, Nat.le_trans h.size k.size, fun i hi hn => (k.block i (Nat.lt_of_lt_of_le hi h.size) hn).trans (h.block i hi hn)⟩

/-- An owned row while other calls make memory of their own. -/
theorem own_below {w w' : World} {base e size n : Nat} {v : Value} {xs : List Value} (h : w.ownsRow base e size v n xs) (hb : Below w.heap.size w w') : w'.ownsRow base e size v n xs :=
  h.kept (grown_of_below hb none) (by cases v.ownBlock <;> simp)
theorem own_low {w : World} {base base' e size n : Nat} {v : Value} {xs : List Value} (h : w.ownsRow base e size v n xs) (hb : base' ≤ base) : w.ownsRow base' e size v n xs := by
  refine ⟨h.1, ?_⟩
  rcases h.2 with h2 | ⟨g, cap, cur, rfl, h3, h4⟩
  · exact .inl h2
  · exact .inr ⟨g, cap, cur, rfl, Nat.le_trans hb h3, h4⟩

/-- The form of an owned row of one-cell elements. -/
theorem row_form {w : World} {base e n : Nat} {v : Value} {xs : List Value} (h : w.ownsRow base e 1 v n xs) : ∃ p cap, v = .slice p n cap ∧ n ≤ cap ∧ cap ≤ maxLen ∧ xs.length = n ∧
    (0 < n → ∃ g, p = some ⟨g, 0, none⟩ ∧ base ≤ g ∧ g < w.heap.size) := by
  have hl : xs.length = n := by have := h.1; omega
  rcases h.2 with ⟨rfl, rfl⟩ | ⟨g, cap, cur, rfl, h3, h4, h5, h6, _⟩
  · exact ⟨none, 0, rfl, Nat.le_refl _, Nat.zero_le _, hl, fun h => absurd h (by omega)⟩
  · exact ⟨_, cap, rfl, h5, h6, hl, fun _ => ⟨g, rfl, h3, (Array.getElem?_eq_some_iff.1 h4).1⟩⟩

/-- 'out = append(out, x, ..)' of one-cell elements onto a slice of the call's own. -/
theorem wpList_append_vals {P : Program} {ops : Array Oper} {rest : List Oper} {o : Oper} {a : Act} {Q : Exit → Act → World → Prop} (wr : World) (hgd : o.guard = none) (s x : Operand) (t e : TypeId)
    (ho : o.op = .call { callee := .builtin .append, args := #[s, x], argTypes := #[t, t] })
    (base : Nat) (i : TypeInfo) (z : Value) (bytes : Nat) (ht : P.underlying t = some (.slice e)) (hi : P.info? e = some i) (hz : i.zero = some z) (hsize : i.size = 1) (hby : i.bytes = bytes) (hz1 : z.cells.size = 1)
    (v : Value) (xs : List Value) (hs : a.eval s = v) (hown : wr.ownsRow base e 1 v xs.length xs)
    (cs : Array Value) (h1 : ∀ u ∈ cs.toList, u.oneCell' = true) (m c : Nat) (hm : m = cs.size) (hx : a.eval x = .slice (some ⟨wr.heap.size, 0, none⟩) m c)
    (h63 : xs.length + cs.size ≤ maxLen) (hlen : (xs.length + cs.size) * bytes ≤ 140737488355328) (w0 : World) (B : Nat) (hB : B ≤ base) (hbase : base ≤ wr.heap.size) (hnx : Below B w0 wr)
    (h : ∀ v' w', w'.ownsRow base e 1 v' (xs ++ cs.toList).length (xs ++ cs.toList) → Below B w0 w' → wpList P ops Q rest (a.put o.dst v') w') :
    wpList P ops Q (o :: rest) a (wr.alloc (.cells cs e)) := by
  subst hm
  refine wpList_append_own (wr.alloc (.cells cs e)) hgd s x t ho base e i z 1 bytes ht hi hz hsize hby hz1 (by decide) v xs.length xs hs (hown.alloc _) ⟨wr.heap.size, 0, none⟩ cs.size c cs.toList hx (by simp) ?_ h1 h63 hlen (by simp; omega) ?_
  · intro j u hj
    have hadd : (⟨wr.heap.size, 0, none⟩ : Addr).add j = ⟨wr.heap.size, j, none⟩ := by unfold Addr.add; split <;> simp_all
    rw [hadd, World.cell?_alloc_mark wr cs e (0, 0) j, ← hj]
    simp
  · intro v' w' ho' hg _
    refine h v' w' (by simpa using ho') ?_
    exact grown_below (hnx.alloc (by omega) _) hB (hown.alloc _) hg (by simp; omega)

theorem own_drews {w : World} {base e size n : Nat} {v : Value} {xs : List Value} (h : w.ownsRow base e size v n xs) (k : Nat) : (w.drewN k).ownsRow base e size v n xs := h
theorem below_drews {B : Nat} {a w : World} (h : Below B a w) (n : Nat) : Below B a (w.drewN n) := h.trans ⟨rfl, rfl, rfl, Nat.le_refl _, fun _ _ => rfl⟩
/-- What one call owned, and what a later call owns, lie apart. -/
theorem own_apart {w1 w2 : World} {b0 e0 s0 n0 e1 s1 n1 : Nat} {v0 v1 : Value} {xs ys : List Value} (h0 : w1.ownsRow b0 e0 s0 v0 n0 xs) (h1 : w2.ownsRow w1.heap.size e1 s1 v1 n1 ys) : v0.ownBlock = none ∨ v0.ownBlock ≠ v1.ownBlock := by
  cases hk : v0.ownBlock with
  | none => exact .inl rfl
  | some k =>
    refine .inr fun he => ?_
    have a := (h0.lt k hk).2
    have b := (h1.lt k he.symm).1
    omega

/-- A text as a value. -/
def Sv (l : List UInt8) : Value := .string ⟨l.toArray⟩
theorem Sv_one (l : List (List UInt8)) : ∀ u ∈ l.map Sv, u.oneCell' = true := by
  intro u hu
  obtain ⟨b, _, rfl⟩ := List.mem_map.1 hu
  rfl

theorem below_two {w a b : World} (h : Below w.heap.size w a) (k : Below a.heap.size a b) : Below w.heap.size w b := h.trans (k.mono h.size)

end Go.Proofs.Ytdbphpekhmlmdaa

/-
  The walks of the specification's chapter 4: points and mats.
-/
namespace Go.Proofs.Ytdbphpekhmlmdaa
open Go.RowKit

def inB (x a b : Int) : Bool := decide (a ≤ x) && decide (x ≤ b)
def pointOkB (x y : Int) : Bool := inB x (-8388608) 8388608 && inB y (-8388608) 8388608
def matOkB (a b c d e f : Int) : Bool := inB a (-1048576) 1048576 && (inB b (-1048576) 1048576 && (inB c (-1048576) 1048576 && (inB d (-1048576) 1048576 && (inB e (-8388608) 8388608 && inB f (-8388608) 8388608))))

theorem inB_true {x a b : Int} : inB x a b = true ↔ a ≤ x ∧ x ≤ b := by simp [inB]

theorem ret_bool {a b : Bool} (h : a = b) : Ending.returned (.bool a) = .returned (.bool b) := by rw [h]

theorem l01In_any (x a b : Int) (w : World) :
    Calls Try.prog 37 #[.int .i64 x, .int .i64 a, .int .i64 b] w fun e w' => e = .returned (.bool (inB x a b)) ∧ w' = w := by
  by_cases h1 : a ≤ x
  · by_cases h2 : x ≤ b
    · have H : Hid (true = inB x a b) := by unfold Hid; rw [inB_true.2 ⟨h1, h2⟩]
      have d1 : decide (a ≤ x) = true := decide_eq_true h1
      have d2 : decide (x ≤ b) = true := decide_eq_true h2
      go_enter Try.func37, Try.ntmps37
      go_wp2
      go_ret
      exact ⟨ret_bool (unhide H), rfl⟩
    · have H : Hid (false = inB x a b) := by unfold Hid; simp [inB, h2]
      have d1 : decide (a ≤ x) = true := decide_eq_true h1
      have d2 : decide (x ≤ b) = false := decide_eq_false h2
      go_enter Try.func37, Try.ntmps37
      go_wp2
      go_ret
      exact ⟨ret_bool (unhide H), rfl⟩
  · have H : Hid (false = inB x a b) := by unfold Hid; simp [inB, h1]
    have d1 : decide (a ≤ x) = false := decide_eq_false h1
    go_enter Try.func37, Try.ntmps37
    go_wp2
    go_ret
    exact ⟨ret_bool (unhide H), rfl⟩

set_option maxHeartbeats 1000000 in
theorem specPointOk_any (x y : Int) (w : World) :
    Calls Try.prog 83 #[.agg #[.int .i64 x, .int .i64 y]] w fun e w' => e = .returned (.bool (pointOkB x y)) ∧ Below w.heap.size w w' := by
  have HX := hide (l01In_any x (-8388608) 8388608)
  have HY := hide (l01In_any y (-8388608) 8388608)
  have H : Hid ((inB x (-8388608) 8388608 && inB y (-8388608) 8388608) = pointOkB x y) := rfl
  obtain ⟨p, hp⟩ : ∃ p, p = inB x (-8388608) 8388608 := ⟨_, rfl⟩
  obtain ⟨q, hq⟩ : ∃ q, q = inB y (-8388608) 8388608 := ⟨_, rfl⟩
  rw [← hp] at HX H
  rw [← hq] at HY H
  clear hp hq
  cases p
  · go_enter Try.func83, Try.ntmps83
    go_wp2_with fail
    refine (unhide HX _).mono ?_
    rintro e w1 ⟨rfl, rfl⟩
    go_wp2_with fail
    go_ret
    exact ⟨ret_bool (unhide H), (Below.refl _ _).alloc (Nat.le_refl _) _⟩
  · go_enter Try.func83, Try.ntmps83
    go_wp2_with fail
    refine (unhide HX _).mono ?_
    rintro e w1 ⟨rfl, rfl⟩
    go_wp2_with fail
    refine (unhide HY _).mono ?_
    rintro e w2 ⟨rfl, rfl⟩
    go_wp2_with fail
    go_ret
    exact ⟨ret_bool (unhide H), (Below.refl _ _).alloc (Nat.le_refl _) _⟩

set_option maxHeartbeats 1000000 in
set_option maxRecDepth 100000 in
theorem specMatOk_any (a b c d e f : Int) (w : World) :
    Calls Try.prog 38 #[.agg #[.int .i64 a, .int .i64 b, .int .i64 c, .int .i64 d, .int .i64 e, .int .i64 f]] w fun r w' => r = .returned (.bool (matOkB a b c d e f)) ∧ Below w.heap.size w w' := by
  have HA := hide (l01In_any a (-1048576) 1048576)
  have HB := hide (l01In_any b (-1048576) 1048576)
  have HC := hide (l01In_any c (-1048576) 1048576)
  have HD := hide (l01In_any d (-1048576) 1048576)
  have HE := hide (l01In_any e (-8388608) 8388608)
  have HF := hide (l01In_any f (-8388608) 8388608)
  have H : Hid ((inB a (-1048576) 1048576 && (inB b (-1048576) 1048576 && (inB c (-1048576) 1048576 && (inB d (-1048576) 1048576 && (inB e (-8388608) 8388608 && inB f (-8388608) 8388608))))) = matOkB a b c d e f) := rfl
  generalize inB a (-1048576) 1048576 = pa at HA H
  generalize inB b (-1048576) 1048576 = pb at HB H
  generalize inB c (-1048576) 1048576 = pc at HC H
  generalize inB d (-1048576) 1048576 = pd at HD H
  generalize inB e (-8388608) 8388608 = pe at HE H
  generalize inB f (-8388608) 8388608 = pf at HF H
  go_enter Try.func38, Try.ntmps38
  go_wp2_with fail
  refine (unhide HA _).mono ?_
  rintro r w1 ⟨rfl, rfl⟩
  cases pa
  · go_wp2_with fail
    go_ret
    exact ⟨ret_bool (unhide H), (Below.refl _ _).alloc (Nat.le_refl _) _⟩
  go_wp2_with fail
  refine (unhide HB _).mono ?_
  rintro r w1 ⟨rfl, rfl⟩
  cases pb
  · go_wp2_with fail
    go_ret
    exact ⟨ret_bool (unhide H), (Below.refl _ _).alloc (Nat.le_refl _) _⟩
  go_wp2_with fail
  refine (unhide HC _).mono ?_
  rintro r w1 ⟨rfl, rfl⟩
  cases pc
  · go_wp2_with fail
    go_ret
    exact ⟨ret_bool (unhide H), (Below.refl _ _).alloc (Nat.le_refl _) _⟩
  go_wp2_with fail
  refine (unhide HD _).mono ?_
  rintro r w1 ⟨rfl, rfl⟩
  cases pd
  · go_wp2_with fail
    go_ret
    exact ⟨ret_bool (unhide H), (Below.refl _ _).alloc (Nat.le_refl _) _⟩
  go_wp2_with fail
  refine (unhide HE _).mono ?_
  rintro r w1 ⟨rfl, rfl⟩
  cases pe
  · go_wp2_with fail
    go_ret
    exact ⟨ret_bool (unhide H), (Below.refl _ _).alloc (Nat.le_refl _) _⟩
  go_wp2_with fail
  refine (unhide HF _).mono ?_
  rintro r w1 ⟨rfl, rfl⟩
  go_wp2_with fail
  go_ret
  exact ⟨ret_bool (unhide H), (Below.refl _ _).alloc (Nat.le_refl _) _⟩

theorem specShift_any (x y : Int) (w : World) :
    Calls Try.prog 78 #[.int .i64 x, .int .i64 y] w fun r w' => r = .returned (.agg #[.int .i64 65536, .int .i64 0, .int .i64 0, .int .i64 65536, .int .i64 x, .int .i64 y]) ∧ Below w.heap.size w w' := by
  go_enter Try.func78, Try.ntmps78
  go_wp2
  refine bodyPost_ret (v := .agg #[.int .i64 65536, .int .i64 0, .int .i64 0, .int .i64 65536, .int .i64 x, .int .i64 y]) (by simp [results, Try.results78, go_sem]) rfl ⟨rfl, ?_⟩
  exact (Below.refl _ _).alloc (Nat.le_refl _) _

theorem specStill_any (w : World) :
    Calls Try.prog 22 #[] w fun r w' => r = .returned (.agg #[.int .i64 65536, .int .i64 0, .int .i64 0, .int .i64 65536, .int .i64 0, .int .i64 0]) ∧ Below w.heap.size w w' := by
  go_enter Try.func22, Try.ntmps22
  go_wp2
  refine bodyPost_ret (v := .agg #[.int .i64 65536, .int .i64 0, .int .i64 0, .int .i64 65536, .int .i64 0, .int .i64 0]) (by simp [results, Try.results22, go_sem]) rfl ⟨rfl, ?_⟩
  exact (Below.refl _ _).alloc (Nat.le_refl _) _
end Go.Proofs.Ytdbphpekhmlmdaa

/-
  Structs that lie in a block of their own: what a call leaves of them.
-/
namespace Go.Proofs.Ytdbphpekhmlmdaa
open Go.RowKit

theorem cells2 {w w1 : World} {B b : Nat} {x0 x1 : Value} {t : TypeId} (hb : Below B w w1) (h : w.heap[b]? = some (.cells #[x0, x1] t (0, 0))) (hlt : b < B) :
    w1.cell? ⟨b, 0, none⟩ = some x0 ∧ w1.cell? ⟨b, 1, none⟩ = some x1 ∧ w1.heap[b]? = some (.cells #[x0, x1] t (0, 0)) := by
  have h1 : w1.heap[b]? = some (.cells #[x0, x1] t (0, 0)) := (hb.block b hlt).trans h
  refine ⟨?_, ?_, h1⟩ <;> exact cell_of_row _ _ _ _ _ _ h1

theorem free2 {w1 : World} {b : Nat} {x0 x1 : Value} {t : TypeId} (h : w1.heap[b]? = some (.cells #[x0, x1] t (0, 0))) : w1.frozen? ⟨b, 0, none⟩ = false ∧ w1.frozen? ⟨b, 1, none⟩ = false := by
  refine ⟨?_, ?_⟩ <;> simp [World.frozen?, h]

theorem cells4 {w w1 : World} {B b : Nat} {x0 x1 x2 x3 : Value} {t : TypeId} (hb : Below B w w1) (h : w.heap[b]? = some (.cells #[x0, x1, x2, x3] t (0, 0))) (hlt : b < B) :
    w1.cell? ⟨b, 0, none⟩ = some x0 ∧ w1.cell? ⟨b, 1, none⟩ = some x1 ∧ w1.cell? ⟨b, 2, none⟩ = some x2 ∧ w1.cell? ⟨b, 3, none⟩ = some x3 ∧ w1.heap[b]? = some (.cells #[x0, x1, x2, x3] t (0, 0)) := by
  have h1 : w1.heap[b]? = some (.cells #[x0, x1, x2, x3] t (0, 0)) := (hb.block b hlt).trans h
  refine ⟨?_, ?_, ?_, ?_, h1⟩ <;> exact cell_of_row _ _ _ _ _ _ h1

theorem free4 {w1 : World} {b : Nat} {x0 x1 x2 x3 : Value} {t : TypeId} (h : w1.heap[b]? = some (.cells #[x0, x1, x2, x3] t (0, 0))) : w1.frozen? ⟨b, 0, none⟩ = false ∧ w1.frozen? ⟨b, 1, none⟩ = false ∧ w1.frozen? ⟨b, 2, none⟩ = false ∧ w1.frozen? ⟨b, 3, none⟩ = false := by
  refine ⟨?_, ?_, ?_, ?_⟩ <;> simp [World.frozen?, h]

theorem cells6 {w w1 : World} {B b : Nat} {x0 x1 x2 x3 x4 x5 : Value} {t : TypeId} (hb : Below B w w1) (h : w.heap[b]? = some (.cells #[x0, x1, x2, x3, x4, x5] t (0, 0))) (hlt : b < B) :
    w1.cell? ⟨b, 0, none⟩ = some x0 ∧ w1.cell? ⟨b, 1, none⟩ = some x1 ∧ w1.cell? ⟨b, 2, none⟩ = some x2 ∧ w1.cell? ⟨b, 3, none⟩ = some x3 ∧ w1.cell? ⟨b, 4, none⟩ = some x4 ∧ w1.cell? ⟨b, 5, none⟩ = some x5 ∧ w1.heap[b]? = some (.cells #[x0, x1, x2, x3, x4, x5] t (0, 0)) := by
  have h1 : w1.heap[b]? = some (.cells #[x0, x1, x2, x3, x4, x5] t (0, 0)) := (hb.block b hlt).trans h
  refine ⟨?_, ?_, ?_, ?_, ?_, ?_, h1⟩ <;> exact cell_of_row _ _ _ _ _ _ h1

theorem free6 {w1 : World} {b : Nat} {x0 x1 x2 x3 x4 x5 : Value} {t : TypeId} (h : w1.heap[b]? = some (.cells #[x0, x1, x2, x3, x4, x5] t (0, 0))) : w1.frozen? ⟨b, 0, none⟩ = false ∧ w1.frozen? ⟨b, 1, none⟩ = false ∧ w1.frozen? ⟨b, 2, none⟩ = false ∧ w1.frozen? ⟨b, 3, none⟩ = false ∧ w1.frozen? ⟨b, 4, none⟩ = false ∧ w1.frozen? ⟨b, 5, none⟩ = false := by
  refine ⟨?_, ?_, ?_, ?_, ?_, ?_⟩ <;> simp [World.frozen?, h]

theorem al1_size (w : World) (A : Obj) : (w.alloc A).heap.size = w.heap.size + 1 := by simp
theorem al1_0 (w : World) (A : Obj) : (w.alloc A).heap[w.heap.size]? = some A := heap_alloc_new _ _

theorem al2_size (w : World) (A B : Obj) : ((w.alloc A).alloc B).heap.size = w.heap.size + 2 := by simp
theorem al2_0 (w : World) (A B : Obj) : ((w.alloc A).alloc B).heap[w.heap.size]? = some A := (heap_alloc_old _ _ (by rw [al1_size]; omega)).trans (al1_0 w A)
theorem al2_1 (w : World) (A B : Obj) : ((w.alloc A).alloc B).heap[w.heap.size + 1]? = some B := by have h := heap_alloc_new (w.alloc A) B; rw [al1_size] at h; exact h

theorem al3_size (w : World) (A B C : Obj) : (((w.alloc A).alloc B).alloc C).heap.size = w.heap.size + 3 := by simp
theorem al3_0 (w : World) (A B C : Obj) : (((w.alloc A).alloc B).alloc C).heap[w.heap.size]? = some A := (heap_alloc_old _ _ (by rw [al2_size]; omega)).trans (al2_0 w A B)
theorem al3_1 (w : World) (A B C : Obj) : (((w.alloc A).alloc B).alloc C).heap[w.heap.size + 1]? = some B := (heap_alloc_old _ _ (by rw [al2_size]; omega)).trans (al2_1 w A B)
theorem al3_2 (w : World) (A B C : Obj) : (((w.alloc A).alloc B).alloc C).heap[w.heap.size + 1 + 1]? = some C := by have h := heap_alloc_new ((w.alloc A).alloc B) C; rw [al2_size] at h; exact h

theorem al4_size (w : World) (A B C D : Obj) : ((((w.alloc A).alloc B).alloc C).alloc D).heap.size = w.heap.size + 4 := by simp
theorem al4_0 (w : World) (A B C D : Obj) : ((((w.alloc A).alloc B).alloc C).alloc D).heap[w.heap.size]? = some A := (heap_alloc_old _ _ (by rw [al3_size]; omega)).trans (al3_0 w A B C)
theorem al4_1 (w : World) (A B C D : Obj) : ((((w.alloc A).alloc B).alloc C).alloc D).heap[w.heap.size + 1]? = some B := (heap_alloc_old _ _ (by rw [al3_size]; omega)).trans (al3_1 w A B C)
theorem al4_2 (w : World) (A B C D : Obj) : ((((w.alloc A).alloc B).alloc C).alloc D).heap[w.heap.size + 1 + 1]? = some C := (heap_alloc_old _ _ (by rw [al3_size]; omega)).trans (al3_2 w A B C)
theorem al4_3 (w : World) (A B C D : Obj) : ((((w.alloc A).alloc B).alloc C).alloc D).heap[w.heap.size + 1 + 1 + 1]? = some D := by have h := heap_alloc_new (((w.alloc A).alloc B).alloc C) D; rw [al3_size] at h; exact h

theorem al1_below (w : World) (A : Obj) : Below w.heap.size w (w.alloc A) := (Below.refl w.heap.size w).alloc (by exact Nat.le_refl _) _
theorem al2_below (w : World) (A B : Obj) : Below w.heap.size w ((w.alloc A).alloc B) := ((Below.refl w.heap.size w).alloc (by exact Nat.le_refl _) _).alloc (by rw [al1_size]; omega) _
theorem al3_below (w : World) (A B C : Obj) : Below w.heap.size w (((w.alloc A).alloc B).alloc C) := (((Below.refl w.heap.size w).alloc (by exact Nat.le_refl _) _).alloc (by rw [al1_size]; omega) _).alloc (by rw [al2_size]; omega) _
theorem al4_below (w : World) (A B C D : Obj) : Below w.heap.size w ((((w.alloc A).alloc B).alloc C).alloc D) := ((((Below.refl w.heap.size w).alloc (by exact Nat.le_refl _) _).alloc (by rw [al1_size]; omega) _).alloc (by rw [al2_size]; omega) _).alloc (by rw [al3_size]; omega) _

theorem below_ends {B : Nat} {a w w' : World} (h : Below B a w) (hb : Below w.heap.size w w') (hB : B ≤ w.heap.size) : Below B a w' := h.trans (hb.mono hB)
theorem below_put2 {B : Nat} {a w : World} (h : Below B a w) {b : Nat} (hb : B ≤ b) (x y : Value) : Below B a ((w.setCell ⟨b, 0, none⟩ x).setCell ⟨b, 1, none⟩ y) := (h.setCell (p := ⟨b, 0, none⟩) hb x).setCell (p := ⟨b, 1, none⟩) hb y
theorem below_put4 {B : Nat} {a w : World} (h : Below B a w) {b : Nat} (hb : B ≤ b) (x y z u : Value) : Below B a ((((w.setCell ⟨b, 0, none⟩ x).setCell ⟨b, 1, none⟩ y).setCell ⟨b, 2, none⟩ z).setCell ⟨b, 3, none⟩ u) := ((below_put2 h hb x y).setCell (p := ⟨b, 2, none⟩) hb z).setCell (p := ⟨b, 3, none⟩) hb u
theorem below_put6 {B : Nat} {a w : World} (h : Below B a w) {b : Nat} (hb : B ≤ b) (x y z u v t : Value) : Below B a ((((((w.setCell ⟨b, 0, none⟩ x).setCell ⟨b, 1, none⟩ y).setCell ⟨b, 2, none⟩ z).setCell ⟨b, 3, none⟩ u).setCell ⟨b, 4, none⟩ v).setCell ⟨b, 5, none⟩ t) := ((below_put4 h hb x y z u).setCell (p := ⟨b, 4, none⟩) hb v).setCell (p := ⟨b, 5, none⟩) hb t
/-- As 'Calls.quiet_of_same', behind regions that drew already. -/
theorem quiet_more {P : Program} {f : FuncId} {args : Array Value} {w : World} {q n : Nat} {v : Value}
    (h : Calls P f args (w.drewN (q + n)) fun e w' => e = .returned v ∧ w' = w.drewN (q + n)) : Calls P f args (w.drewN (q + n)) fun e w'' => e = .returned v ∧ ∃ m, w'' = w.drewN (q + m) :=
  h.mono fun _ _ ⟨he, hm⟩ => ⟨he, n, hm⟩
theorem past2 {w : World} {b : Nat} {x0 x1 : Option Value} (hlt : b < w.heap.size) (h0 : w.cell? ⟨b, 0, none⟩ = x0) (h1 : w.cell? ⟨b, 1, none⟩ = x1) :
    (∀ o, (w.alloc o).cell? ⟨b, 0, none⟩ = x0) ∧ (∀ o, (w.alloc o).cell? ⟨b, 1, none⟩ = x1) :=
  ⟨fun o => (World.cell?_alloc_past o b 0 hlt).trans h0, fun o => (World.cell?_alloc_past o b 1 hlt).trans h1⟩
theorem past4 {w : World} {b : Nat} {x0 x1 x2 x3 : Option Value} (hlt : b < w.heap.size) (h0 : w.cell? ⟨b, 0, none⟩ = x0) (h1 : w.cell? ⟨b, 1, none⟩ = x1) (h2 : w.cell? ⟨b, 2, none⟩ = x2) (h3 : w.cell? ⟨b, 3, none⟩ = x3) :
    (∀ o, (w.alloc o).cell? ⟨b, 0, none⟩ = x0) ∧ (∀ o, (w.alloc o).cell? ⟨b, 1, none⟩ = x1) ∧ (∀ o, (w.alloc o).cell? ⟨b, 2, none⟩ = x2) ∧ (∀ o, (w.alloc o).cell? ⟨b, 3, none⟩ = x3) :=
  ⟨fun o => (World.cell?_alloc_past o b 0 hlt).trans h0, fun o => (World.cell?_alloc_past o b 1 hlt).trans h1, fun o => (World.cell?_alloc_past o b 2 hlt).trans h2, fun o => (World.cell?_alloc_past o b 3 hlt).trans h3⟩
theorem past6 {w : World} {b : Nat} {x0 x1 x2 x3 x4 x5 : Option Value} (hlt : b < w.heap.size) (h0 : w.cell? ⟨b, 0, none⟩ = x0) (h1 : w.cell? ⟨b, 1, none⟩ = x1) (h2 : w.cell? ⟨b, 2, none⟩ = x2) (h3 : w.cell? ⟨b, 3, none⟩ = x3) (h4 : w.cell? ⟨b, 4, none⟩ = x4) (h5 : w.cell? ⟨b, 5, none⟩ = x5) :
    (∀ o, (w.alloc o).cell? ⟨b, 0, none⟩ = x0) ∧ (∀ o, (w.alloc o).cell? ⟨b, 1, none⟩ = x1) ∧ (∀ o, (w.alloc o).cell? ⟨b, 2, none⟩ = x2) ∧ (∀ o, (w.alloc o).cell? ⟨b, 3, none⟩ = x3) ∧ (∀ o, (w.alloc o).cell? ⟨b, 4, none⟩ = x4) ∧ (∀ o, (w.alloc o).cell? ⟨b, 5, none⟩ = x5) :=
  ⟨fun o => (World.cell?_alloc_past o b 0 hlt).trans h0, fun o => (World.cell?_alloc_past o b 1 hlt).trans h1, fun o => (World.cell?_alloc_past o b 2 hlt).trans h2, fun o => (World.cell?_alloc_past o b 3 hlt).trans h3, fun o => (World.cell?_alloc_past o b 4 hlt).trans h4, fun o => (World.cell?_alloc_past o b 5 hlt).trans h5⟩
theorem heap_lt {w : World} {b : Nat} {o : Obj} (h : w.heap[b]? = some o) : b < w.heap.size := (Array.getElem?_eq_some_iff.1 h).1
theorem new_lt (w : World) (o : Obj) : w.heap.size < (w.alloc o).heap.size := by rw [al1_size]; omega
theorem carry2 {w w1 : World} {b : Nat} (x0 x1 : Value) (t : TypeId) (hb : Below w.heap.size w w1) (h : w.heap[b]? = some (.cells #[x0, x1] t (0, 0))) :
    w1.cell? ⟨b, 0, none⟩ = some x0 ∧ w1.cell? ⟨b, 1, none⟩ = some x1 ∧ w1.frozen? ⟨b, 0, none⟩ = false ∧ w1.frozen? ⟨b, 1, none⟩ = false ∧ w1.heap[b]? = some (.cells #[x0, x1] t (0, 0)) ∧ b < w1.heap.size := by
  obtain ⟨c0, c1, h1⟩ := cells2 hb h (heap_lt h)
  obtain ⟨f0, f1⟩ := free2 h1
  exact ⟨c0, c1, f0, f1, h1, heap_lt h1⟩
theorem carry4 {w w1 : World} {b : Nat} (x0 x1 x2 x3 : Value) (t : TypeId) (hb : Below w.heap.size w w1) (h : w.heap[b]? = some (.cells #[x0, x1, x2, x3] t (0, 0))) :
    w1.cell? ⟨b, 0, none⟩ = some x0 ∧ w1.cell? ⟨b, 1, none⟩ = some x1 ∧ w1.cell? ⟨b, 2, none⟩ = some x2 ∧ w1.cell? ⟨b, 3, none⟩ = some x3 ∧ w1.frozen? ⟨b, 0, none⟩ = false ∧ w1.frozen? ⟨b, 1, none⟩ = false ∧ w1.frozen? ⟨b, 2, none⟩ = false ∧ w1.frozen? ⟨b, 3, none⟩ = false ∧ w1.heap[b]? = some (.cells #[x0, x1, x2, x3] t (0, 0)) ∧ b < w1.heap.size := by
  obtain ⟨c0, c1, c2, c3, h1⟩ := cells4 hb h (heap_lt h)
  obtain ⟨f0, f1, f2, f3⟩ := free4 h1
  exact ⟨c0, c1, c2, c3, f0, f1, f2, f3, h1, heap_lt h1⟩
theorem carry6 {w w1 : World} {b : Nat} (x0 x1 x2 x3 x4 x5 : Value) (t : TypeId) (hb : Below w.heap.size w w1) (h : w.heap[b]? = some (.cells #[x0, x1, x2, x3, x4, x5] t (0, 0))) :
    w1.cell? ⟨b, 0, none⟩ = some x0 ∧ w1.cell? ⟨b, 1, none⟩ = some x1 ∧ w1.cell? ⟨b, 2, none⟩ = some x2 ∧ w1.cell? ⟨b, 3, none⟩ = some x3 ∧ w1.cell? ⟨b, 4, none⟩ = some x4 ∧ w1.cell? ⟨b, 5, none⟩ = some x5 ∧ w1.frozen? ⟨b, 0, none⟩ = false ∧ w1.frozen? ⟨b, 1, none⟩ = false ∧ w1.frozen? ⟨b, 2, none⟩ = false ∧ w1.frozen? ⟨b, 3, none⟩ = false ∧ w1.frozen? ⟨b, 4, none⟩ = false ∧ w1.frozen? ⟨b, 5, none⟩ = false ∧ w1.heap[b]? = some (.cells #[x0, x1, x2, x3, x4, x5] t (0, 0)) ∧ b < w1.heap.size := by
  obtain ⟨c0, c1, c2, c3, c4, c5, h1⟩ := cells6 hb h (heap_lt h)
  obtain ⟨f0, f1, f2, f3, f4, f5⟩ := free6 h1
  exact ⟨c0, c1, c2, c3, c4, c5, f0, f1, f2, f3, f4, f5, h1, heap_lt h1⟩

theorem put2_0 {w : World} {b : Nat} {a0 : Value} (h0 : w.cell? ⟨b, 0, none⟩ = some a0) (x y : Value) : ((w.setCell ⟨b, 0, none⟩ x).setCell ⟨b, 1, none⟩ y).cell? ⟨b, 0, none⟩ = some x := by
  rw [World.cell?_setCell_other _ _ _ _ (fun e => by injection e with _ h; exact absurd h (by decide))]; exact World.cell?_setCell_same _ _ _ h0
theorem put2_1 {w : World} {b : Nat} {a1 : Value} (h1 : w.cell? ⟨b, 1, none⟩ = some a1) (x y : Value) : ((w.setCell ⟨b, 0, none⟩ x).setCell ⟨b, 1, none⟩ y).cell? ⟨b, 1, none⟩ = some y := by
  exact World.cell?_setCell_same _ _ _ (by rw [World.cell?_setCell_other _ _ _ _ (fun e => by injection e with _ h; exact absurd h (by decide))]; exact h1)
theorem put4_0 {w : World} {b : Nat} {a0 : Value} (h0 : w.cell? ⟨b, 0, none⟩ = some a0) (x y z u : Value) : ((((w.setCell ⟨b, 0, none⟩ x).setCell ⟨b, 1, none⟩ y).setCell ⟨b, 2, none⟩ z).setCell ⟨b, 3, none⟩ u).cell? ⟨b, 0, none⟩ = some x := by
  rw [World.cell?_setCell_other _ _ _ _ (fun e => by injection e with _ h; exact absurd h (by decide))]; rw [World.cell?_setCell_other _ _ _ _ (fun e => by injection e with _ h; exact absurd h (by decide))]; rw [World.cell?_setCell_other _ _ _ _ (fun e => by injection e with _ h; exact absurd h (by decide))]; exact World.cell?_setCell_same _ _ _ h0
theorem put4_1 {w : World} {b : Nat} {a1 : Value} (h1 : w.cell? ⟨b, 1, none⟩ = some a1) (x y z u : Value) : ((((w.setCell ⟨b, 0, none⟩ x).setCell ⟨b, 1, none⟩ y).setCell ⟨b, 2, none⟩ z).setCell ⟨b, 3, none⟩ u).cell? ⟨b, 1, none⟩ = some y := by
  rw [World.cell?_setCell_other _ _ _ _ (fun e => by injection e with _ h; exact absurd h (by decide))]; rw [World.cell?_setCell_other _ _ _ _ (fun e => by injection e with _ h; exact absurd h (by decide))]; exact World.cell?_setCell_same _ _ _ (by rw [World.cell?_setCell_other _ _ _ _ (fun e => by injection e with _ h; exact absurd h (by decide))]; exact h1)
theorem put4_2 {w : World} {b : Nat} {a2 : Value} (h2 : w.cell? ⟨b, 2, none⟩ = some a2) (x y z u : Value) : ((((w.setCell ⟨b, 0, none⟩ x).setCell ⟨b, 1, none⟩ y).setCell ⟨b, 2, none⟩ z).setCell ⟨b, 3, none⟩ u).cell? ⟨b, 2, none⟩ = some z := by
  rw [World.cell?_setCell_other _ _ _ _ (fun e => by injection e with _ h; exact absurd h (by decide))]; exact World.cell?_setCell_same _ _ _ (by rw [World.cell?_setCell_other _ _ _ _ (fun e => by injection e with _ h; exact absurd h (by decide))]; rw [World.cell?_setCell_other _ _ _ _ (fun e => by injection e with _ h; exact absurd h (by decide))]; exact h2)
theorem put4_3 {w : World} {b : Nat} {a3 : Value} (h3 : w.cell? ⟨b, 3, none⟩ = some a3) (x y z u : Value) : ((((w.setCell ⟨b, 0, none⟩ x).setCell ⟨b, 1, none⟩ y).setCell ⟨b, 2, none⟩ z).setCell ⟨b, 3, none⟩ u).cell? ⟨b, 3, none⟩ = some u := by
  exact World.cell?_setCell_same _ _ _ (by rw [World.cell?_setCell_other _ _ _ _ (fun e => by injection e with _ h; exact absurd h (by decide))]; rw [World.cell?_setCell_other _ _ _ _ (fun e => by injection e with _ h; exact absurd h (by decide))]; rw [World.cell?_setCell_other _ _ _ _ (fun e => by injection e with _ h; exact absurd h (by decide))]; exact h3)
theorem put6_0 {w : World} {b : Nat} {a0 : Value} (h0 : w.cell? ⟨b, 0, none⟩ = some a0) (x y z u v t : Value) : ((((((w.setCell ⟨b, 0, none⟩ x).setCell ⟨b, 1, none⟩ y).setCell ⟨b, 2, none⟩ z).setCell ⟨b, 3, none⟩ u).setCell ⟨b, 4, none⟩ v).setCell ⟨b, 5, none⟩ t).cell? ⟨b, 0, none⟩ = some x := by
  rw [World.cell?_setCell_other _ _ _ _ (fun e => by injection e with _ h; exact absurd h (by decide))]; rw [World.cell?_setCell_other _ _ _ _ (fun e => by injection e with _ h; exact absurd h (by decide))]; rw [World.cell?_setCell_other _ _ _ _ (fun e => by injection e with _ h; exact absurd h (by decide))]; rw [World.cell?_setCell_other _ _ _ _ (fun e => by injection e with _ h; exact absurd h (by decide))]; rw [World.cell?_setCell_other _ _ _ _ (fun e => by injection e with _ h; exact absurd h (by decide))]; exact World.cell?_setCell_same _ _ _ h0
theorem put6_1 {w : World} {b : Nat} {a1 : Value} (h1 : w.cell? ⟨b, 1, none⟩ = some a1) (x y z u v t : Value) : ((((((w.setCell ⟨b, 0, none⟩ x).setCell ⟨b, 1, none⟩ y).setCell ⟨b, 2, none⟩ z).setCell ⟨b, 3, none⟩ u).setCell ⟨b, 4, none⟩ v).setCell ⟨b, 5, none⟩ t).cell? ⟨b, 1, none⟩ = some y := by
  rw [World.cell?_setCell_other _ _ _ _ (fun e => by injection e with _ h; exact absurd h (by decide))]; rw [World.cell?_setCell_other _ _ _ _ (fun e => by injection e with _ h; exact absurd h (by decide))]; rw [World.cell?_setCell_other _ _ _ _ (fun e => by injection e with _ h; exact absurd h (by decide))]; rw [World.cell?_setCell_other _ _ _ _ (fun e => by injection e with _ h; exact absurd h (by decide))]; exact World.cell?_setCell_same _ _ _ (by rw [World.cell?_setCell_other _ _ _ _ (fun e => by injection e with _ h; exact absurd h (by decide))]; exact h1)
theorem put6_2 {w : World} {b : Nat} {a2 : Value} (h2 : w.cell? ⟨b, 2, none⟩ = some a2) (x y z u v t : Value) : ((((((w.setCell ⟨b, 0, none⟩ x).setCell ⟨b, 1, none⟩ y).setCell ⟨b, 2, none⟩ z).setCell ⟨b, 3, none⟩ u).setCell ⟨b, 4, none⟩ v).setCell ⟨b, 5, none⟩ t).cell? ⟨b, 2, none⟩ = some z := by
  rw [World.cell?_setCell_other _ _ _ _ (fun e => by injection e with _ h; exact absurd h (by decide))]; rw [World.cell?_setCell_other _ _ _ _ (fun e => by injection e with _ h; exact absurd h (by decide))]; rw [World.cell?_setCell_other _ _ _ _ (fun e => by injection e with _ h; exact absurd h (by decide))]; exact World.cell?_setCell_same _ _ _ (by rw [World.cell?_setCell_other _ _ _ _ (fun e => by injection e with _ h; exact absurd h (by decide))]; rw [World.cell?_setCell_other _ _ _ _ (fun e => by injection e with _ h; exact absurd h (by decide))]; exact h2)
theorem put6_3 {w : World} {b : Nat} {a3 : Value} (h3 : w.cell? ⟨b, 3, none⟩ = some a3) (x y z u v t : Value) : ((((((w.setCell ⟨b, 0, none⟩ x).setCell ⟨b, 1, none⟩ y).setCell ⟨b, 2, none⟩ z).setCell ⟨b, 3, none⟩ u).setCell ⟨b, 4, none⟩ v).setCell ⟨b, 5, none⟩ t).cell? ⟨b, 3, none⟩ = some u := by
  rw [World.cell?_setCell_other _ _ _ _ (fun e => by injection e with _ h; exact absurd h (by decide))]; rw [World.cell?_setCell_other _ _ _ _ (fun e => by injection e with _ h; exact absurd h (by decide))]; exact World.cell?_setCell_same _ _ _ (by rw [World.cell?_setCell_other _ _ _ _ (fun e => by injection e with _ h; exact absurd h (by decide))]; rw [World.cell?_setCell_other _ _ _ _ (fun e => by injection e with _ h; exact absurd h (by decide))]; rw [World.cell?_setCell_other _ _ _ _ (fun e => by injection e with _ h; exact absurd h (by decide))]; exact h3)
theorem put6_4 {w : World} {b : Nat} {a4 : Value} (h4 : w.cell? ⟨b, 4, none⟩ = some a4) (x y z u v t : Value) : ((((((w.setCell ⟨b, 0, none⟩ x).setCell ⟨b, 1, none⟩ y).setCell ⟨b, 2, none⟩ z).setCell ⟨b, 3, none⟩ u).setCell ⟨b, 4, none⟩ v).setCell ⟨b, 5, none⟩ t).cell? ⟨b, 4, none⟩ = some v := by
  rw [World.cell?_setCell_other _ _ _ _ (fun e => by injection e with _ h; exact absurd h (by decide))]; exact World.cell?_setCell_same _ _ _ (by rw [World.cell?_setCell_other _ _ _ _ (fun e => by injection e with _ h; exact absurd h (by decide))]; rw [World.cell?_setCell_other _ _ _ _ (fun e => by injection e with _ h; exact absurd h (by decide))]; rw [World.cell?_setCell_other _ _ _ _ (fun e => by injection e with _ h; exact absurd h (by decide))]; rw [World.cell?_setCell_other _ _ _ _ (fun e => by injection e with _ h; exact absurd h (by decide))]; exact h4)
theorem put6_5 {w : World} {b : Nat} {a5 : Value} (h5 : w.cell? ⟨b, 5, none⟩ = some a5) (x y z u v t : Value) : ((((((w.setCell ⟨b, 0, none⟩ x).setCell ⟨b, 1, none⟩ y).setCell ⟨b, 2, none⟩ z).setCell ⟨b, 3, none⟩ u).setCell ⟨b, 4, none⟩ v).setCell ⟨b, 5, none⟩ t).cell? ⟨b, 5, none⟩ = some t := by
  exact World.cell?_setCell_same _ _ _ (by rw [World.cell?_setCell_other _ _ _ _ (fun e => by injection e with _ h; exact absurd h (by decide))]; rw [World.cell?_setCell_other _ _ _ _ (fun e => by injection e with _ h; exact absurd h (by decide))]; rw [World.cell?_setCell_other _ _ _ _ (fun e => by injection e with _ h; exact absurd h (by decide))]; rw [World.cell?_setCell_other _ _ _ _ (fun e => by injection e with _ h; exact absurd h (by decide))]; rw [World.cell?_setCell_other _ _ _ _ (fun e => by injection e with _ h; exact absurd h (by decide))]; exact h5)

theorem row2 {w1 : World} {b : Nat} {x0 x1 : Value} {t : TypeId} (h : w1.heap[b]? = some (.cells #[x0, x1] t (0, 0))) : w1.cell? ⟨b, 0, none⟩ = some x0 ∧ w1.cell? ⟨b, 1, none⟩ = some x1 := by
  refine ⟨?_, ?_⟩ <;> exact cell_of_row _ _ _ _ _ _ h
theorem row4 {w1 : World} {b : Nat} {x0 x1 x2 x3 : Value} {t : TypeId} (h : w1.heap[b]? = some (.cells #[x0, x1, x2, x3] t (0, 0))) : w1.cell? ⟨b, 0, none⟩ = some x0 ∧ w1.cell? ⟨b, 1, none⟩ = some x1 ∧ w1.cell? ⟨b, 2, none⟩ = some x2 ∧ w1.cell? ⟨b, 3, none⟩ = some x3 := by
  refine ⟨?_, ?_, ?_, ?_⟩ <;> exact cell_of_row _ _ _ _ _ _ h
theorem row6 {w1 : World} {b : Nat} {x0 x1 x2 x3 x4 x5 : Value} {t : TypeId} (h : w1.heap[b]? = some (.cells #[x0, x1, x2, x3, x4, x5] t (0, 0))) : w1.cell? ⟨b, 0, none⟩ = some x0 ∧ w1.cell? ⟨b, 1, none⟩ = some x1 ∧ w1.cell? ⟨b, 2, none⟩ = some x2 ∧ w1.cell? ⟨b, 3, none⟩ = some x3 ∧ w1.cell? ⟨b, 4, none⟩ = some x4 ∧ w1.cell? ⟨b, 5, none⟩ = some x5 := by
  refine ⟨?_, ?_, ?_, ?_, ?_, ?_⟩ <;> exact cell_of_row _ _ _ _ _ _ h

/-- A cell stays as it was behind whatever writes new memory alone. -/
theorem kc {W u : World} {p : Addr} {v : Value} (h : Below W.heap.size W u) (c : W.cell? p = some v) : u.cell? p = some v := (h.cell (block_lt_of_cell c)).trans c
theorem kn {W : World} {p : Addr} {v : Value} (o : Obj) (c : W.cell? p = some v) : (W.alloc o).cell? p = some v := kc ((Below.refl _ _).alloc (Nat.le_refl _) o) c
theorem below_new {B : Nat} {a w : World} (o : Obj) (h : Below B a w) (hB : B ≤ a.heap.size) : Below B a (w.alloc o) := h.alloc (Nat.le_trans hB h.size) o
theorem below_after {B : Nat} {a w w' : World} (hb : Below w.heap.size w w') (h : Below B a w) (hB : B ≤ a.heap.size) : Below B a w' := h.trans (hb.mono (Nat.le_trans hB h.size))
theorem keep2 {B : Nat} {W u : World} {b0 : Nat} {t0 : TypeId} {x0_0 x0_1 : Value} (h0 : W.heap[b0]? = some (.cells #[x0_0, x0_1] t0 (0, 0))) (l0 : b0 < B) (h : Below B W u) :
    u.cell? ⟨b0, 0, none⟩ = some x0_0 ∧ u.cell? ⟨b0, 1, none⟩ = some x0_1 ∧ Below B W u := by
  have e0 := (h.block b0 l0).trans h0
  exact ⟨cell_of_row _ _ _ _ _ _ e0, cell_of_row _ _ _ _ _ _ e0, h⟩

theorem keep4 {B : Nat} {W u : World} {b0 : Nat} {t0 : TypeId} {x0_0 x0_1 x0_2 x0_3 : Value} (h0 : W.heap[b0]? = some (.cells #[x0_0, x0_1, x0_2, x0_3] t0 (0, 0))) (l0 : b0 < B) (h : Below B W u) :
    u.cell? ⟨b0, 0, none⟩ = some x0_0 ∧ u.cell? ⟨b0, 1, none⟩ = some x0_1 ∧ u.cell? ⟨b0, 2, none⟩ = some x0_2 ∧ u.cell? ⟨b0, 3, none⟩ = some x0_3 ∧ Below B W u := by
  have e0 := (h.block b0 l0).trans h0
  exact ⟨cell_of_row _ _ _ _ _ _ e0, cell_of_row _ _ _ _ _ _ e0, cell_of_row _ _ _ _ _ _ e0, cell_of_row _ _ _ _ _ _ e0, h⟩

theorem keep6 {B : Nat} {W u : World} {b0 : Nat} {t0 : TypeId} {x0_0 x0_1 x0_2 x0_3 x0_4 x0_5 : Value} (h0 : W.heap[b0]? = some (.cells #[x0_0, x0_1, x0_2, x0_3, x0_4, x0_5] t0 (0, 0))) (l0 : b0 < B) (h : Below B W u) :
    u.cell? ⟨b0, 0, none⟩ = some x0_0 ∧ u.cell? ⟨b0, 1, none⟩ = some x0_1 ∧ u.cell? ⟨b0, 2, none⟩ = some x0_2 ∧ u.cell? ⟨b0, 3, none⟩ = some x0_3 ∧ u.cell? ⟨b0, 4, none⟩ = some x0_4 ∧ u.cell? ⟨b0, 5, none⟩ = some x0_5 ∧ Below B W u := by
  have e0 := (h.block b0 l0).trans h0
  exact ⟨cell_of_row _ _ _ _ _ _ e0, cell_of_row _ _ _ _ _ _ e0, cell_of_row _ _ _ _ _ _ e0, cell_of_row _ _ _ _ _ _ e0, cell_of_row _ _ _ _ _ _ e0, cell_of_row _ _ _ _ _ _ e0, h⟩

theorem keep62 {B : Nat} {W u : World} {b0 b1 : Nat} {t0 t1 : TypeId} {x0_0 x0_1 x0_2 x0_3 x0_4 x0_5 x1_0 x1_1 : Value} (h0 : W.heap[b0]? = some (.cells #[x0_0, x0_1, x0_2, x0_3, x0_4, x0_5] t0 (0, 0))) (l0 : b0 < B) (h1 : W.heap[b1]? = some (.cells #[x1_0, x1_1] t1 (0, 0))) (l1 : b1 < B) (h : Below B W u) :
    u.cell? ⟨b0, 0, none⟩ = some x0_0 ∧ u.cell? ⟨b0, 1, none⟩ = some x0_1 ∧ u.cell? ⟨b0, 2, none⟩ = some x0_2 ∧ u.cell? ⟨b0, 3, none⟩ = some x0_3 ∧ u.cell? ⟨b0, 4, none⟩ = some x0_4 ∧ u.cell? ⟨b0, 5, none⟩ = some x0_5 ∧ u.cell? ⟨b1, 0, none⟩ = some x1_0 ∧ u.cell? ⟨b1, 1, none⟩ = some x1_1 ∧ Below B W u := by
  have e0 := (h.block b0 l0).trans h0
  have e1 := (h.block b1 l1).trans h1
  exact ⟨cell_of_row _ _ _ _ _ _ e0, cell_of_row _ _ _ _ _ _ e0, cell_of_row _ _ _ _ _ _ e0, cell_of_row _ _ _ _ _ _ e0, cell_of_row _ _ _ _ _ _ e0, cell_of_row _ _ _ _ _ _ e0, cell_of_row _ _ _ _ _ _ e1, cell_of_row _ _ _ _ _ _ e1, h⟩

theorem keep66 {B : Nat} {W u : World} {b0 b1 : Nat} {t0 t1 : TypeId} {x0_0 x0_1 x0_2 x0_3 x0_4 x0_5 x1_0 x1_1 x1_2 x1_3 x1_4 x1_5 : Value} (h0 : W.heap[b0]? = some (.cells #[x0_0, x0_1, x0_2, x0_3, x0_4, x0_5] t0 (0, 0))) (l0 : b0 < B) (h1 : W.heap[b1]? = some (.cells #[x1_0, x1_1, x1_2, x1_3, x1_4, x1_5] t1 (0, 0))) (l1 : b1 < B) (h : Below B W u) :
    u.cell? ⟨b0, 0, none⟩ = some x0_0 ∧ u.cell? ⟨b0, 1, none⟩ = some x0_1 ∧ u.cell? ⟨b0, 2, none⟩ = some x0_2 ∧ u.cell? ⟨b0, 3, none⟩ = some x0_3 ∧ u.cell? ⟨b0, 4, none⟩ = some x0_4 ∧ u.cell? ⟨b0, 5, none⟩ = some x0_5 ∧ u.cell? ⟨b1, 0, none⟩ = some x1_0 ∧ u.cell? ⟨b1, 1, none⟩ = some x1_1 ∧ u.cell? ⟨b1, 2, none⟩ = some x1_2 ∧ u.cell? ⟨b1, 3, none⟩ = some x1_3 ∧ u.cell? ⟨b1, 4, none⟩ = some x1_4 ∧ u.cell? ⟨b1, 5, none⟩ = some x1_5 ∧ Below B W u := by
  have e0 := (h.block b0 l0).trans h0
  have e1 := (h.block b1 l1).trans h1
  exact ⟨cell_of_row _ _ _ _ _ _ e0, cell_of_row _ _ _ _ _ _ e0, cell_of_row _ _ _ _ _ _ e0, cell_of_row _ _ _ _ _ _ e0, cell_of_row _ _ _ _ _ _ e0, cell_of_row _ _ _ _ _ _ e0, cell_of_row _ _ _ _ _ _ e1, cell_of_row _ _ _ _ _ _ e1, cell_of_row _ _ _ _ _ _ e1, cell_of_row _ _ _ _ _ _ e1, cell_of_row _ _ _ _ _ _ e1, cell_of_row _ _ _ _ _ _ e1, h⟩

theorem keep44 {B : Nat} {W u : World} {b0 b1 : Nat} {t0 t1 : TypeId} {x0_0 x0_1 x0_2 x0_3 x1_0 x1_1 x1_2 x1_3 : Value} (h0 : W.heap[b0]? = some (.cells #[x0_0, x0_1, x0_2, x0_3] t0 (0, 0))) (l0 : b0 < B) (h1 : W.heap[b1]? = some (.cells #[x1_0, x1_1, x1_2, x1_3] t1 (0, 0))) (l1 : b1 < B) (h : Below B W u) :
    u.cell? ⟨b0, 0, none⟩ = some x0_0 ∧ u.cell? ⟨b0, 1, none⟩ = some x0_1 ∧ u.cell? ⟨b0, 2, none⟩ = some x0_2 ∧ u.cell? ⟨b0, 3, none⟩ = some x0_3 ∧ u.cell? ⟨b1, 0, none⟩ = some x1_0 ∧ u.cell? ⟨b1, 1, none⟩ = some x1_1 ∧ u.cell? ⟨b1, 2, none⟩ = some x1_2 ∧ u.cell? ⟨b1, 3, none⟩ = some x1_3 ∧ Below B W u := by
  have e0 := (h.block b0 l0).trans h0
  have e1 := (h.block b1 l1).trans h1
  exact ⟨cell_of_row _ _ _ _ _ _ e0, cell_of_row _ _ _ _ _ _ e0, cell_of_row _ _ _ _ _ _ e0, cell_of_row _ _ _ _ _ _ e0, cell_of_row _ _ _ _ _ _ e1, cell_of_row _ _ _ _ _ _ e1, cell_of_row _ _ _ _ _ _ e1, cell_of_row _ _ _ _ _ _ e1, h⟩

theorem keep42 {B : Nat} {W u : World} {b0 b1 : Nat} {t0 t1 : TypeId} {x0_0 x0_1 x0_2 x0_3 x1_0 x1_1 : Value} (h0 : W.heap[b0]? = some (.cells #[x0_0, x0_1, x0_2, x0_3] t0 (0, 0))) (l0 : b0 < B) (h1 : W.heap[b1]? = some (.cells #[x1_0, x1_1] t1 (0, 0))) (l1 : b1 < B) (h : Below B W u) :
    u.cell? ⟨b0, 0, none⟩ = some x0_0 ∧ u.cell? ⟨b0, 1, none⟩ = some x0_1 ∧ u.cell? ⟨b0, 2, none⟩ = some x0_2 ∧ u.cell? ⟨b0, 3, none⟩ = some x0_3 ∧ u.cell? ⟨b1, 0, none⟩ = some x1_0 ∧ u.cell? ⟨b1, 1, none⟩ = some x1_1 ∧ Below B W u := by
  have e0 := (h.block b0 l0).trans h0
  have e1 := (h.block b1 l1).trans h1
  exact ⟨cell_of_row _ _ _ _ _ _ e0, cell_of_row _ _ _ _ _ _ e0, cell_of_row _ _ _ _ _ _ e0, cell_of_row _ _ _ _ _ _ e0, cell_of_row _ _ _ _ _ _ e1, cell_of_row _ _ _ _ _ _ e1, h⟩

end Go.Proofs.Ytdbphpekhmlmdaa

/-
  The walks of the specification's chapter 5: boxes.
-/
namespace Go.Proofs.Ytdbphpekhmlmdaa
open Go.RowKit

def emptyB (a b c d : Int) : Bool := decide (c ≤ a) || decide (d ≤ b)
def leastI (a b : Int) : Int := if a < b then a else b
def mostI (a b : Int) : Int := if b < a then a else b

def inBoxB (a b c d x y : Int) : Bool := decide (a ≤ x) && (decide (x < c) && (decide (b ≤ y) && decide (y < d)))

theorem ret_bool' {a b : Bool} (h : a = b) : Ending.returned (.bool a) = .returned (.bool b) := by rw [h]

set_option maxHeartbeats 1000000 in
theorem specEmpty_any (a b c d : Int) (w : World) :
    Calls Try.prog 94 #[.agg #[.int .i64 a, .int .i64 b, .int .i64 c, .int .i64 d]] w fun r w' => r = .returned (.bool (emptyB a b c d)) ∧ Below w.heap.size w w' := by
  by_cases h1 : c ≤ a
  · have H : Hid (true = emptyB a b c d) := by unfold Hid emptyB; simp [h1]
    have d1 : decide (c ≤ a) = true := decide_eq_true h1
    go_enter Try.func94, Try.ntmps94
    go_wp2
    go_ret
    exact ⟨ret_bool' (unhide H), al1_below _ _⟩
  · have d1 : decide (c ≤ a) = false := decide_eq_false h1
    by_cases h2 : d ≤ b
    · have H : Hid (true = emptyB a b c d) := by unfold Hid emptyB; simp [h2]
      have d2 : decide (d ≤ b) = true := decide_eq_true h2
      go_enter Try.func94, Try.ntmps94
      go_wp2
      go_ret
      exact ⟨ret_bool' (unhide H), al1_below _ _⟩
    · have H : Hid (false = emptyB a b c d) := by unfold Hid emptyB; simp [h1, h2]
      have d2 : decide (d ≤ b) = false := decide_eq_false h2
      go_enter Try.func94, Try.ntmps94
      go_wp2
      go_ret
      exact ⟨ret_bool' (unhide H), al1_below _ _⟩

end Go.Proofs.Ytdbphpekhmlmdaa

/-
  The walk of JoinBox (spec).
-/
namespace Go.Proofs.Ytdbphpekhmlmdaa
open Go.RowKit

def join0 (a b c d e f g h : Int) : Int := bif emptyB a b c d then (bif emptyB e f g h then 0 else e) else (bif emptyB e f g h then a else leastI a e)
def join1 (a b c d e f g h : Int) : Int := bif emptyB a b c d then (bif emptyB e f g h then 0 else f) else (bif emptyB e f g h then b else leastI b f)
def join2 (a b c d e f g h : Int) : Int := bif emptyB a b c d then (bif emptyB e f g h then 0 else g) else (bif emptyB e f g h then c else mostI c g)
def join3 (a b c d e f g h : Int) : Int := bif emptyB a b c d then (bif emptyB e f g h then 0 else h) else (bif emptyB e f g h then d else mostI d h)

end Go.Proofs.Ytdbphpekhmlmdaa

/-
  Rows of a struct: written as a whole, and rows beside it.
-/
namespace Go.Proofs.Ytdbphpekhmlmdaa
open Go.RowKit

theorem setc_other {u : World} {b r j : Nat} {v : Value} {o : Obj} (hne : r ≠ b) (h : u.heap[r]? = some o) : (u.setCell ⟨b, j, none⟩ v).heap[r]? = some o := by
  rw [← h]; simp [World.setCell, Array.getElem?_modify]; intro e; exact absurd e.symm hne
theorem put2_other {u : World} {b r : Nat} {x y : Value} {o : Obj} (hne : r ≠ b) (h : u.heap[r]? = some o) : ((u.setCell ⟨b, 0, none⟩ x).setCell ⟨b, 1, none⟩ y).heap[r]? = some o := setc_other hne (setc_other hne h)
theorem put4_other {u : World} {b r : Nat} {x y z t : Value} {o : Obj} (hne : r ≠ b) (h : u.heap[r]? = some o) : ((((u.setCell ⟨b, 0, none⟩ x).setCell ⟨b, 1, none⟩ y).setCell ⟨b, 2, none⟩ z).setCell ⟨b, 3, none⟩ t).heap[r]? = some o := setc_other hne (setc_other hne (put2_other hne h))
theorem put2_row {u : World} {b : Nat} {x0 x1 y0 y1 : Value} {t : TypeId} (h : u.heap[b]? = some (.cells #[x0, x1] t (0, 0))) : ((u.setCell ⟨b, 0, none⟩ y0).setCell ⟨b, 1, none⟩ y1).heap[b]? = some (.cells #[y0, y1] t (0, 0)) := by
  simp [World.setCell, Array.getElem?_modify, h]
theorem put4_row {u : World} {b : Nat} {x0 x1 x2 x3 y0 y1 y2 y3 : Value} {t : TypeId} (h : u.heap[b]? = some (.cells #[x0, x1, x2, x3] t (0, 0))) : ((((u.setCell ⟨b, 0, none⟩ y0).setCell ⟨b, 1, none⟩ y1).setCell ⟨b, 2, none⟩ y2).setCell ⟨b, 3, none⟩ y3).heap[b]? = some (.cells #[y0, y1, y2, y3] t (0, 0)) := by
  simp [World.setCell, Array.getElem?_modify, h]
theorem new_row (u : World) (o : Obj) : (u.alloc o).heap[u.heap.size]? = some o := heap_alloc_new u o
theorem old_row {u : World} {b : Nat} {o : Obj} (o' : Obj) (h : u.heap[b]? = some o) : (u.alloc o').heap[b]? = some o := (heap_alloc_old u o' (heap_lt h)).trans h
theorem row_next {u v : World} {b : Nat} {o : Obj} (hb : Below u.heap.size u v) (h : u.heap[b]? = some o) : v.heap[b]? = some o := (hb.block _ (heap_lt h)).trans h
theorem set4_0 {u : World} {b : Nat} {x0 x1 x2 x3 v : Value} {t : TypeId} (h : u.heap[b]? = some (.cells #[x0, x1, x2, x3] t (0, 0))) : (u.setCell ⟨b, 0, none⟩ v).heap[b]? = some (.cells #[v, x1, x2, x3] t (0, 0)) := by
  simp [World.setCell, Array.getElem?_modify, h]
theorem set4_1 {u : World} {b : Nat} {x0 x1 x2 x3 v : Value} {t : TypeId} (h : u.heap[b]? = some (.cells #[x0, x1, x2, x3] t (0, 0))) : (u.setCell ⟨b, 1, none⟩ v).heap[b]? = some (.cells #[x0, v, x2, x3] t (0, 0)) := by
  simp [World.setCell, Array.getElem?_modify, h]
theorem set4_2 {u : World} {b : Nat} {x0 x1 x2 x3 v : Value} {t : TypeId} (h : u.heap[b]? = some (.cells #[x0, x1, x2, x3] t (0, 0))) : (u.setCell ⟨b, 2, none⟩ v).heap[b]? = some (.cells #[x0, x1, v, x3] t (0, 0)) := by
  simp [World.setCell, Array.getElem?_modify, h]
theorem set4_3 {u : World} {b : Nat} {x0 x1 x2 x3 v : Value} {t : TypeId} (h : u.heap[b]? = some (.cells #[x0, x1, x2, x3] t (0, 0))) : (u.setCell ⟨b, 3, none⟩ v).heap[b]? = some (.cells #[x0, x1, x2, v] t (0, 0)) := by
  simp [World.setCell, Array.getElem?_modify, h]
theorem row_drew {u : World} {b : Nat} {o : Obj} (h : u.heap[b]? = some o) : u.drew.heap[b]? = some o := h
end Go.Proofs.Ytdbphpekhmlmdaa

/-
  Boxes joined one behind the other: the least box around all.
-/
namespace Go.Proofs.Ytdbphpekhmlmdaa
open Go.RowKit

structure B4 where
  x0 : Int
  y0 : Int
  x1 : Int
  y1 : Int

def B4.none : B4 := ⟨0, 0, 0, 0⟩
def B4.bare (p : B4) : Bool := emptyB p.x0 p.y0 p.x1 p.y1
def joinB (p q : B4) : B4 := ⟨join0 p.x0 p.y0 p.x1 p.y1 q.x0 q.y0 q.x1 q.y1, join1 p.x0 p.y0 p.x1 p.y1 q.x0 q.y0 q.x1 q.y1, join2 p.x0 p.y0 p.x1 p.y1 q.x0 q.y0 q.x1 q.y1, join3 p.x0 p.y0 p.x1 p.y1 q.x0 q.y0 q.x1 q.y1⟩
def joinN (F : Nat → B4) : Nat → B4
  | 0 => B4.none
  | n + 1 => joinB (joinN F n) (F n)

/-- Four numbers of a box lie in a row of boxes. -/
def HasBox (w : World) (s i : Nat) (p : B4) : Prop :=
  w.cell? ⟨s, i * 4, none⟩ = some (.int .i64 p.x0) ∧ w.cell? ⟨s, i * 4 + 1, none⟩ = some (.int .i64 p.y0) ∧ w.cell? ⟨s, i * 4 + 2, none⟩ = some (.int .i64 p.x1) ∧ w.cell? ⟨s, i * 4 + 3, none⟩ = some (.int .i64 p.y1)
theorem HasBox.next {w w1 : World} {s i : Nat} {p : B4} (h : HasBox w s i p) (hb : Below w.heap.size w w1) : HasBox w1 s i p := ⟨kc hb h.1, kc hb h.2.1, kc hb h.2.2.1, kc hb h.2.2.2⟩

theorem joinB_bare {p q : B4} (h : q.bare = true) (hp : p.bare = true → p = B4.none) : joinB p q = p := by
  unfold B4.bare at h hp
  unfold joinB join0 join1 join2 join3
  rw [h]
  cases e : emptyB p.x0 p.y0 p.x1 p.y1
  · simp
  · have := hp e; simp [this, B4.none]
theorem joinB_first {p q : B4} (h : q.bare = false) (hp : p.bare = true) : joinB p q = q := by
  unfold B4.bare at h hp
  unfold joinB join0 join1 join2 join3
  rw [h, hp]
  simp
theorem joinB_both {p q : B4} (h : q.bare = false) (hp : p.bare = false) : joinB p q = ⟨min p.x0 q.x0, min p.y0 q.y0, max p.x1 q.x1, max p.y1 q.y1⟩ := by
  unfold B4.bare at h hp
  unfold joinB join0 join1 join2 join3
  rw [h, hp]
  simp only [cond_false, leastI, mostI, Int.min_def, Int.max_def]
  congr 1 <;> (split <;> split <;> omega)
theorem joinN_none (F : Nat → B4) (n : Nat) : (joinN F n).bare = true → joinN F n = B4.none := by
  induction n with
  | zero => intro _; rfl
  | succ n ih =>
    intro h
    change (joinB (joinN F n) (F n)).bare = true at h
    change joinB (joinN F n) (F n) = B4.none
    cases e1 : (F n).bare
    · cases e2 : (joinN F n).bare
      · rw [joinB_both e1 e2] at h
        unfold B4.bare emptyB at e1 e2 h
        simp at e1 e2 h
        omega
      · rw [joinB_first e1 e2] at h; rw [e1] at h; exact absurd h (by decide)
    · rw [joinB_bare e1 ih] at h ⊢; exact ih h
end Go.Proofs.Ytdbphpekhmlmdaa

/-
  Paints: what both sides reckon. Right colours, laid ones, right paints, how far along a slope a square lies, the colour there.
-/
namespace Go.Proofs.Ytdbphpekhmlmdaa
open Go.RowKit
set_option linter.unusedVariables false

/-- A colour: R, G, B, A as the four numbers of a B4. -/
def colorOkB (c : B4) : Bool := inB c.x0 0 255 && (inB c.y0 0 255 && (inB c.x1 0 255 && inB c.y1 0 255))
theorem colorOk_iff {c : B4} : colorOkB c = true ↔ (0 ≤ c.x0 ∧ c.x0 ≤ 255) ∧ (0 ≤ c.y0 ∧ c.y0 ≤ 255) ∧ (0 ≤ c.x1 ∧ c.x1 ≤ 255) ∧ (0 ≤ c.y1 ∧ c.y1 ≤ 255) := by
  unfold colorOkB
  rw [Bool.and_eq_true, Bool.and_eq_true, Bool.and_eq_true, inB_true, inB_true, inB_true, inB_true]
def laidC (c : B4) : B4 := if colorOkB c = true then ⟨t255I c.x0 c.y1, t255I c.y0 c.y1, t255I c.x1 c.y1, c.y1⟩ else ⟨0, 0, 0, 0⟩
theorem rdiv_pos {a b : Int} (hb : 1 ≤ b) (h : 0 ≤ a) : 0 ≤ rdivI a b := by
  unfold rdivI
  have := Int.ediv_nonneg h (show 0 ≤ b by omega)
  split
  · omega
  · split <;> omega
theorem rdiv_le {a b m : Int} (hb : 1 ≤ b) (h : a ≤ m * b) : rdivI a b ≤ m := by
  unfold rdivI
  rw [if_neg (by omega)]
  have h1 := Int.mul_ediv_add_emod a b
  have h2 := emod_bd a b hb
  have h3 : a / b ≤ m := Int.ediv_le_of_le_mul (by omega) h
  split
  · by_cases e : a / b = m
    · exfalso
      rw [e] at h1
      have : b * m = m * b := Int.mul_comm _ _
      omega
    · omega
  · exact h3
theorem clamp_id {x : Int} (h : 0 ≤ x ∧ x ≤ 255) : clampI x 0 255 = x := by unfold clampI; rw [if_neg (by omega), if_neg (by omega)]
theorem clamp_bd {x lo hi : Int} (h : lo ≤ hi) : lo ≤ clampI x lo hi ∧ clampI x lo hi ≤ hi := by unfold clampI; split <;> (try split) <;> omega
/-- Times255 of two parts is in 0 .. the second. -/
theorem t255_bd (a : Int) {b : Int} (hb : 0 ≤ b ∧ b ≤ 255) : 0 ≤ t255I a b ∧ t255I a b ≤ b := by
  unfold t255I
  rw [clamp_id hb]
  have ha := clamp_bd (x := a) (lo := 0) (hi := 255) (by omega)
  generalize clampI a 0 255 = x at ha
  exact ⟨rdiv_pos (by omega) (Int.mul_nonneg (by omega) (by omega)), rdiv_le (by omega) (by rw [Int.mul_comm b 255]; exact Int.mul_le_mul_of_nonneg_right (by omega) (by omega))⟩
/-- A laid colour is right, and none of its parts is above A. -/
theorem laid_ok (c : B4) : colorOkB (laidC c) = true ∧ (laidC c).x0 ≤ (laidC c).y1 ∧ (laidC c).y0 ≤ (laidC c).y1 ∧ (laidC c).x1 ≤ (laidC c).y1 := by
  unfold laidC
  split
  · rename_i h
    obtain ⟨_, _, _, h4⟩ := colorOk_iff.1 h
    have q0 := t255_bd c.x0 h4
    have q1 := t255_bd c.y0 h4
    have q2 := t255_bd c.x1 h4
    rw [colorOk_iff]
    dsimp only
    omega
  · exact ⟨by decide, by decide, by decide, by decide⟩
/-- A paint: its kind, its colours, where it begins and where it ends. -/
structure P13 where
  k : Int
  f : B4
  l : B4
  fx : Int
  fy : Int
  tx : Int
  ty : Int
def zeroB (c : B4) : Bool := decide (c.x0 = 0) && (decide (c.y0 = 0) && (decide (c.x1 = 0) && decide (c.y1 = 0)))
def paintOkB (p : P13) : Bool :=
  colorOkB p.f && ((decide (p.k = 1) && (zeroB p.l && (decide (p.fx = 0 ∧ p.fy = 0) && decide (p.tx = 0 ∧ p.ty = 0)))) || (decide (p.k = 2) && (colorOkB p.l && (pointOkB p.fx p.fy && (pointOkB p.tx p.ty && !decide (p.fx = p.tx ∧ p.fy = p.ty))))))
/-- How far along: what is divided, and by what. -/
def alongI (p : P13) (x y : Int) : Int := (256 * clampI x (-2000) 2000 + 128 - p.fx) * (p.tx - p.fx) + (256 * clampI y (-2000) 2000 + 128 - p.fy) * (p.ty - p.fy)
def spanI (p : P13) : Int := (p.tx - p.fx) * (p.tx - p.fx) + (p.ty - p.fy) * (p.ty - p.fy)
def partI (p : P13) (x y : Int) : Int := if p.k = 2 ∧ paintOkB p = true then clampI (fdivI (256 * alongI p x y) (spanI p)) 0 256 else 0
def mixI (a b t : Int) : Int := rdivI ((256 - t) * a + t * b) 256
def mixC (f l : B4) (t : Int) : B4 := ⟨mixI f.x0 l.x0 t, mixI f.y0 l.y0 t, mixI f.x1 l.x1 t, mixI f.y1 l.y1 t⟩
def colorAtC (p : P13) (x y : Int) : B4 := if paintOkB p = true then (if p.k = 1 then laidC p.f else laidC (mixC p.f p.l (partI p x y))) else ⟨0, 0, 0, 0⟩
theorem part_bd (p : P13) (x y : Int) : 0 ≤ partI p x y ∧ partI p x y ≤ 256 := by
  unfold partI
  split
  · exact clamp_bd (by omega)
  · omega
theorem mix_bd {a b t : Int} (ha : 0 ≤ a ∧ a ≤ 255) (hb : 0 ≤ b ∧ b ≤ 255) (ht : 0 ≤ t ∧ t ≤ 256) : 0 ≤ (256 - t) * a + t * b ∧ (256 - t) * a + t * b ≤ 255 * 256 ∧ 0 ≤ mixI a b t ∧ mixI a b t ≤ 255 := by
  have h1 : 0 ≤ (256 - t) * a := Int.mul_nonneg (by omega) (by omega)
  have h2 : 0 ≤ t * b := Int.mul_nonneg (by omega) (by omega)
  have h3 : (256 - t) * a ≤ (256 - t) * 255 := Int.mul_le_mul_of_nonneg_left (by omega) (by omega)
  have h4 : t * b ≤ t * 255 := Int.mul_le_mul_of_nonneg_left (by omega) (by omega)
  refine ⟨by omega, by omega, rdiv_pos (by omega) (by omega), rdiv_le (by omega) (by omega)⟩
theorem mix_ok {f l : B4} {t : Int} (hf : colorOkB f = true) (hl : colorOkB l = true) (ht : 0 ≤ t ∧ t ≤ 256) : colorOkB (mixC f l t) = true := by
  obtain ⟨f1, f2, f3, f4⟩ := colorOk_iff.1 hf
  obtain ⟨l1, l2, l3, l4⟩ := colorOk_iff.1 hl
  rw [colorOk_iff]
  exact ⟨(mix_bd f1 l1 ht).2.2, (mix_bd f2 l2 ht).2.2, (mix_bd f3 l3 ht).2.2, (mix_bd f4 l4 ht).2.2⟩
theorem mix_none (a b : Int) : mixI a b 0 = a := by
  unfold mixI rdivI
  rw [if_neg (by omega), show (256 - 0) * a + 0 * b = 256 * a by omega, if_neg (by omega)]; omega
theorem mix_all (a b : Int) : mixI a b 256 = b := by
  unfold mixI rdivI
  rw [if_neg (by omega), show (256 - 256) * a + 256 * b = 256 * b by omega, if_neg (by omega)]; omega
theorem far_bd {d : Int} {L : Int} (h : -L ≤ d ∧ d ≤ L) : 0 ≤ d * d ∧ d * d ≤ L * L := by
  have hL : 0 ≤ L := by omega
  constructor
  · by_cases h0 : 0 ≤ d
    · exact Int.mul_nonneg h0 h0
    · have : 0 ≤ (-d) * (-d) := Int.mul_nonneg (by omega) (by omega)
      rw [Int.neg_mul_neg] at this; exact this
  · by_cases h0 : 0 ≤ d
    · exact Int.mul_le_mul h.2 h.2 h0 hL
    · have : (-d) * (-d) ≤ L * L := Int.mul_le_mul (by omega) (by omega) (by omega) hL
      rw [Int.neg_mul_neg] at this; exact this
theorem prod_bds {a b A B : Int} (ha : -A ≤ a ∧ a ≤ A) (hb : -B ≤ b ∧ b ≤ B) : -(A * B) ≤ a * b ∧ a * b ≤ A * B := by
  have hA : 0 ≤ A := by omega
  have hB : 0 ≤ B := by omega
  have h1 : a * b ≤ A * B := by
    by_cases h0 : 0 ≤ a
    · by_cases h2 : 0 ≤ b
      · exact Int.mul_le_mul ha.2 hb.2 h2 hA
      · have : a * b ≤ 0 := Int.mul_nonpos_of_nonneg_of_nonpos h0 (by omega)
        have := Int.mul_nonneg hA hB
        omega
    · by_cases h2 : 0 ≤ b
      · have : a * b ≤ 0 := Int.mul_nonpos_of_nonpos_of_nonneg (by omega) h2
        have := Int.mul_nonneg hA hB
        omega
      · have : (-a) * (-b) ≤ A * B := Int.mul_le_mul (by omega) (by omega) (by omega) hA
        rw [Int.neg_mul_neg] at this; exact this
  have h3 : (-a) * b ≤ A * B := by
    by_cases h0 : 0 ≤ -a
    · by_cases h2 : 0 ≤ b
      · exact Int.mul_le_mul (by omega) hb.2 h2 hA
      · have : (-a) * b ≤ 0 := Int.mul_nonpos_of_nonneg_of_nonpos h0 (by omega)
        have := Int.mul_nonneg hA hB
        omega
    · by_cases h2 : 0 ≤ b
      · have : (-a) * b ≤ 0 := Int.mul_nonpos_of_nonpos_of_nonneg (by omega) h2
        have := Int.mul_nonneg hA hB
        omega
      · have : (- -a) * (-b) ≤ A * B := Int.mul_le_mul (by omega) (by omega) (by omega) hA
        rw [Int.neg_neg] at this
        have e : (-a) * b = a * (-b) := by rw [Int.neg_mul, Int.mul_neg]
        rw [e]; exact this
  rw [Int.neg_mul] at h3
  omega
end Go.Proofs.Ytdbphpekhmlmdaa

/-
  The specification's paints.
-/
namespace Go.Proofs.Ytdbphpekhmlmdaa
open Go.RowKit
set_option linter.unusedVariables false

set_option maxHeartbeats 4000000 in
set_option maxRecDepth 100000 in
theorem specColorOk_any (r g b a : Int) (w : World) :
    Calls Try.prog 84 #[.agg #[.int .i64 r, .int .i64 g, .int .i64 b, .int .i64 a]] w fun e w' => e = .returned (.bool (colorOkB ⟨r, g, b, a⟩)) ∧ Below w.heap.size w w' := by
  have E0 := hide (l01In_any r 0 255)
  have E1 := hide (l01In_any g 0 255)
  have E2 := hide (l01In_any b 0 255)
  have E3 := hide (l01In_any a 0 255)
  have H : Hid ((inB r 0 255 && (inB g 0 255 && (inB b 0 255 && inB a 0 255))) = colorOkB ⟨r, g, b, a⟩) := rfl
  generalize inB r 0 255 = i0 at E0 H
  generalize inB g 0 255 = i1 at E1 H
  generalize inB b 0 255 = i2 at E2 H
  generalize inB a 0 255 = i3 at E3 H
  generalize colorOkB ⟨r, g, b, a⟩ = X at H ⊢
  go_enter Try.func84, Try.ntmps84
  go_upto_region 1 with fail
  have R := hide (new_row w (.cells #[.int .i64 r, .int .i64 g, .int .i64 b, .int .i64 a] 35))
  have HB := hide (al1_below w (.cells #[.int .i64 r, .int .i64 g, .int .i64 b, .int .i64 a] 35))
  generalize w.alloc (.cells #[.int .i64 r, .int .i64 g, .int .i64 b, .int .i64 a] 35) = W at R HB ⊢
  obtain ⟨r0, r1, r2, r3⟩ := row4 (unhide R)
  go_wp2_with fail
  go_fit (unhide E0 _)
  rintro e u2 ⟨rfl, rfl⟩
  cases i0 with
  | false =>
    go_wp2_with fail
    go_ret
    exact ⟨ret_bool (unhide H), unhide HB⟩
  | true =>
  go_wp2_with fail
  go_fit (unhide E1 _)
  rintro e u2 ⟨rfl, rfl⟩
  cases i1 with
  | false =>
    go_wp2_with fail
    go_ret
    exact ⟨ret_bool (unhide H), unhide HB⟩
  | true =>
  go_wp2_with fail
  go_fit (unhide E2 _)
  rintro e u2 ⟨rfl, rfl⟩
  cases i2 with
  | false =>
    go_wp2_with fail
    go_ret
    exact ⟨ret_bool (unhide H), unhide HB⟩
  | true =>
  go_wp2_with fail
  go_fit (unhide E3 _)
  rintro e u2 ⟨rfl, rfl⟩
  go_wp2_with fail
  go_ret
  exact ⟨ret_bool (unhide H), unhide HB⟩

end Go.Proofs.Ytdbphpekhmlmdaa

/-
  The specification's paints: right ones, how far along, the colour of a square.
-/
namespace Go.Proofs.Ytdbphpekhmlmdaa
open Go.RowKit
set_option linter.unusedVariables false

theorem eqlColor (a b c d e f g h : Int) (w : World) : (Op.equalIn 10000 35 (.agg #[.int .i64 a, .int .i64 b, .int .i64 c, .int .i64 d]) (.agg #[.int .i64 e, .int .i64 f, .int .i64 g, .int .i64 h])).run Try.prog w = .ok (decide (a = e) && (decide (b = f) && (decide (c = g) && decide (d = h)))) w := by
  have u3 := Try.underlying3
  have a3 := Try.isAgg3
  have z3 := Try.sizeOf3
  have hS : Try.prog.underlying 35 = some (.struct (Try.prog.fieldsOf 35)) := by kernel_rfl
  rw [show (10000 : Nat) = 9999 + 1 from rfl, run_equalIn_agg w 9999 35 _ _ hS (by kernel_rfl)]
  simp only [Program.fieldsOf, Try.underlying35]
  go_simp
  by_cases h1 : a = e
  · by_cases h2 : b = f
    · by_cases h3 : c = g
      · by_cases h4 : d = h <;> simp [h1, h2, h3, h4]
      · simp [h1, h2, h3]
    · simp [h1, h2]
  · simp [h1]

theorem eqlPt (x y a b : Int) (w : World) : (Op.equalIn 10000 37 (.agg #[.int .i64 x, .int .i64 y]) (.agg #[.int .i64 a, .int .i64 b])).run Try.prog w = .ok (decide (x = a) && decide (y = b)) w := by
  have u3 := Try.underlying3
  have a3 := Try.isAgg3
  have z3 := Try.sizeOf3
  have hS : Try.prog.underlying 37 = some (.struct (Try.prog.fieldsOf 37)) := by kernel_rfl
  rw [show (10000 : Nat) = 9999 + 1 from rfl, run_equalIn_agg w 9999 37 _ _ hS (by kernel_rfl)]
  simp only [Program.fieldsOf, Try.underlying37]
  go_simp
  by_cases h1 : x = a <;> by_cases h2 : y = b <;> simp [h1, h2]
theorem row13 {w1 : World} {b : Nat} {x0 x1 x2 x3 x4 x5 x6 x7 x8 x9 x10 x11 x12 : Value} {t : TypeId} (h : w1.heap[b]? = some (.cells #[x0, x1, x2, x3, x4, x5, x6, x7, x8, x9, x10, x11, x12] t (0, 0))) :
    w1.cell? ⟨b, 0, none⟩ = some x0 ∧ w1.cell? ⟨b, 1, none⟩ = some x1 ∧ w1.cell? ⟨b, 2, none⟩ = some x2 ∧ w1.cell? ⟨b, 3, none⟩ = some x3 ∧ w1.cell? ⟨b, 4, none⟩ = some x4 ∧ w1.cell? ⟨b, 5, none⟩ = some x5 ∧ w1.cell? ⟨b, 6, none⟩ = some x6 ∧ w1.cell? ⟨b, 7, none⟩ = some x7 ∧ w1.cell? ⟨b, 8, none⟩ = some x8 ∧ w1.cell? ⟨b, 9, none⟩ = some x9 ∧ w1.cell? ⟨b, 10, none⟩ = some x10 ∧ w1.cell? ⟨b, 11, none⟩ = some x11 ∧ w1.cell? ⟨b, 12, none⟩ = some x12 := by
  refine ⟨?_, ?_, ?_, ?_, ?_, ?_, ?_, ?_, ?_, ?_, ?_, ?_, ?_⟩ <;> simp [World.cell?, h]

set_option maxHeartbeats 8000000 in
set_option maxRecDepth 100000 in
theorem specPaintOk_any (k r g b a r2 g2 b2 a2 fx fy tx ty : Int) (w : World) :
    Calls Try.prog 61 #[.agg #[.int .i64 k, .int .i64 r, .int .i64 g, .int .i64 b, .int .i64 a, .int .i64 r2, .int .i64 g2, .int .i64 b2, .int .i64 a2, .int .i64 fx, .int .i64 fy, .int .i64 tx, .int .i64 ty]] w fun e w' => e = .returned (.bool (paintOkB ⟨k, ⟨r, g, b, a⟩, ⟨r2, g2, b2, a2⟩, fx, fy, tx, ty⟩)) ∧ Below w.heap.size w w' := by
  have EF := hide (specColorOk_any r g b a)
  have EL := hide (specColorOk_any r2 g2 b2 a2)
  have EA := hide (specPointOk_any fx fy)
  have EB := hide (specPointOk_any tx ty)
  have H : Hid ((colorOkB ⟨r, g, b, a⟩ && ((decide (k = 1) && (zeroB ⟨r2, g2, b2, a2⟩ && (decide (fx = 0 ∧ fy = 0) && decide (tx = 0 ∧ ty = 0)))) || (decide (k = 2) && (colorOkB ⟨r2, g2, b2, a2⟩ && (pointOkB fx fy && (pointOkB tx ty && !decide (fx = tx ∧ fy = ty))))))) = paintOkB ⟨k, ⟨r, g, b, a⟩, ⟨r2, g2, b2, a2⟩, fx, fy, tx, ty⟩) := rfl
  have q1 : ∀ u, (Op.equalIn 10000 35 (.agg #[.int .i64 r2, .int .i64 g2, .int .i64 b2, .int .i64 a2]) (.agg #[.int .i64 0, .int .i64 0, .int .i64 0, .int .i64 0])).run Try.prog u = .ok (zeroB ⟨r2, g2, b2, a2⟩) u := fun u => by rw [eqlColor]; rfl
  have q2 : ∀ u, (Op.equalIn 10000 37 (.agg #[.int .i64 fx, .int .i64 fy]) (.agg #[.int .i64 0, .int .i64 0])).run Try.prog u = .ok (decide (fx = 0 ∧ fy = 0)) u := fun u => by rw [eqlPt, Bool.decide_and]
  have q3 : ∀ u, (Op.equalIn 10000 37 (.agg #[.int .i64 tx, .int .i64 ty]) (.agg #[.int .i64 0, .int .i64 0])).run Try.prog u = .ok (decide (tx = 0 ∧ ty = 0)) u := fun u => by rw [eqlPt, Bool.decide_and]
  have q4 : ∀ u, (Op.equalIn 10000 37 (.agg #[.int .i64 fx, .int .i64 fy]) (.agg #[.int .i64 tx, .int .i64 ty])).run Try.prog u = .ok (decide (fx = tx ∧ fy = ty)) u := fun u => by rw [eqlPt, Bool.decide_and]
  generalize colorOkB ⟨r, g, b, a⟩ = X1 at EF H
  generalize zeroB ⟨r2, g2, b2, a2⟩ = zl at q1 H
  generalize decide (fx = 0 ∧ fy = 0) = z1 at q2 H
  generalize decide (tx = 0 ∧ ty = 0) = z2 at q3 H
  generalize colorOkB ⟨r2, g2, b2, a2⟩ = X2 at EL H
  generalize pointOkB fx fy = X3 at EA H
  generalize pointOkB tx ty = X4 at EB H
  generalize decide (fx = tx ∧ fy = ty) = z3 at q4 H
  generalize paintOkB ⟨k, ⟨r, g, b, a⟩, ⟨r2, g2, b2, a2⟩, fx, fy, tx, ty⟩ = X at H ⊢
  go_enter Try.func61, Try.ntmps61
  go_upto_region 3 with fail
  have R1 := hide (al3_0 w (.cells #[.int .i64 k, .int .i64 r, .int .i64 g, .int .i64 b, .int .i64 a, .int .i64 r2, .int .i64 g2, .int .i64 b2, .int .i64 a2, .int .i64 fx, .int .i64 fy, .int .i64 tx, .int .i64 ty] 39) (.cells #[.int .i64 0, .int .i64 0, .int .i64 0, .int .i64 0] 35) (.cells #[.int .i64 0, .int .i64 0] 37))
  have R3 := hide (al3_1 w (.cells #[.int .i64 k, .int .i64 r, .int .i64 g, .int .i64 b, .int .i64 a, .int .i64 r2, .int .i64 g2, .int .i64 b2, .int .i64 a2, .int .i64 fx, .int .i64 fy, .int .i64 tx, .int .i64 ty] 39) (.cells #[.int .i64 0, .int .i64 0, .int .i64 0, .int .i64 0] 35) (.cells #[.int .i64 0, .int .i64 0] 37))
  have R4 := hide (al3_2 w (.cells #[.int .i64 k, .int .i64 r, .int .i64 g, .int .i64 b, .int .i64 a, .int .i64 r2, .int .i64 g2, .int .i64 b2, .int .i64 a2, .int .i64 fx, .int .i64 fy, .int .i64 tx, .int .i64 ty] 39) (.cells #[.int .i64 0, .int .i64 0, .int .i64 0, .int .i64 0] 35) (.cells #[.int .i64 0, .int .i64 0] 37))
  have HB := hide (al3_below w (.cells #[.int .i64 k, .int .i64 r, .int .i64 g, .int .i64 b, .int .i64 a, .int .i64 r2, .int .i64 g2, .int .i64 b2, .int .i64 a2, .int .i64 fx, .int .i64 fy, .int .i64 tx, .int .i64 ty] 39) (.cells #[.int .i64 0, .int .i64 0, .int .i64 0, .int .i64 0] 35) (.cells #[.int .i64 0, .int .i64 0] 37))
  generalize ((w.alloc (.cells #[.int .i64 k, .int .i64 r, .int .i64 g, .int .i64 b, .int .i64 a, .int .i64 r2, .int .i64 g2, .int .i64 b2, .int .i64 a2, .int .i64 fx, .int .i64 fy, .int .i64 tx, .int .i64 ty] 39)).alloc (.cells #[.int .i64 0, .int .i64 0, .int .i64 0, .int .i64 0] 35)).alloc (.cells #[.int .i64 0, .int .i64 0] 37) = W at R1 R3 R4 HB ⊢
  generalize w.heap.size + 1 + 1 = b4 at R4 ⊢
  generalize w.heap.size + 1 = b3 at R3 ⊢
  obtain ⟨b1, hb1⟩ : ∃ b, Hid (b = w.heap.size) := ⟨_, rfl⟩
  rw [← unhide hb1] at R1
  rw [← unhide hb1]
  obtain ⟨c0, c1, c2, c3, c4, c5, c6, c7, c8, c9, c10, c11, c12⟩ := row13 (unhide R1)
  go_wp2_with fail
  go_fit (unhide EF _)
  rintro e w1 ⟨rfl, hb⟩
  replace R1 := hide (row_next hb (unhide R1))
  replace R3 := hide (row_next hb (unhide R3))
  replace R4 := hide (row_next hb (unhide R4))
  replace HB := hide (below_two (unhide HB) hb)
  clear hb c0 c1 c2 c3 c4 c5 c6 c7 c8 c9 c10 c11 c12
  obtain ⟨c0, c1, c2, c3, c4, c5, c6, c7, c8, c9, c10, c11, c12⟩ := row13 (unhide R1)
  cases X1 with
  | false =>
    go_wp2_with fail
    go_ret
    exact ⟨ret_bool (unhide H), unhide HB⟩
  | true =>
  by_cases hk1 : k = 1
  · subst hk1
    have hX := hide (show (zl && (z1 && z2)) = X by have := unhide H; simpa using this)
    clear H
    obtain ⟨d0, d1, d2, d3⟩ := row4 (unhide R3)
    obtain ⟨e0, e1⟩ := row2 (unhide R4)
    cases zl with
    | false =>
      go_wp2_with fail
      go_ret
      exact ⟨ret_bool (unhide hX), unhide HB⟩
    | true =>
    cases z1 with
    | false =>
      go_wp2_with fail
      go_ret
      exact ⟨ret_bool (unhide hX), unhide HB⟩
    | true =>
      go_wp2_with fail
      go_ret
      exact ⟨ret_bool (unhide hX), unhide HB⟩
  · have hkb : (k == 1) = false := beq_eq_false_iff_ne.2 hk1
    rw [decide_eq_false hk1] at H
    by_cases hk2 : k = 2
    · subst hk2
      have hX := hide (show (X2 && (X3 && (X4 && !z3))) = X by have := unhide H; simpa using this)
      clear H
      go_wp2_with fail
      go_fit (unhide EL _)
      rintro e w2 ⟨rfl, hb⟩
      replace R1 := hide (row_next hb (unhide R1))
      replace HB := hide (below_two (unhide HB) hb)
      clear hb c0 c1 c2 c3 c4 c5 c6 c7 c8 c9 c10 c11 c12
      obtain ⟨c0, c1, c2, c3, c4, c5, c6, c7, c8, c9, c10, c11, c12⟩ := row13 (unhide R1)
      cases X2 with
      | false =>
        go_wp2_with fail
        go_ret
        exact ⟨ret_bool (unhide hX), unhide HB⟩
      | true =>
      go_wp2_with fail
      go_fit (unhide EA _)
      rintro e w3 ⟨rfl, hb⟩
      replace R1 := hide (row_next hb (unhide R1))
      replace HB := hide (below_two (unhide HB) hb)
      clear hb c0 c1 c2 c3 c4 c5 c6 c7 c8 c9 c10 c11 c12
      obtain ⟨c0, c1, c2, c3, c4, c5, c6, c7, c8, c9, c10, c11, c12⟩ := row13 (unhide R1)
      cases X3 with
      | false =>
        go_wp2_with fail
        go_ret
        exact ⟨ret_bool (unhide hX), unhide HB⟩
      | true =>
      go_wp2_with fail
      go_fit (unhide EB _)
      rintro e w4 ⟨rfl, hb⟩
      replace R1 := hide (row_next hb (unhide R1))
      replace HB := hide (below_two (unhide HB) hb)
      clear hb c0 c1 c2 c3 c4 c5 c6 c7 c8 c9 c10 c11 c12
      obtain ⟨c0, c1, c2, c3, c4, c5, c6, c7, c8, c9, c10, c11, c12⟩ := row13 (unhide R1)
      cases X4 with
      | false =>
        go_wp2_with fail
        go_ret
        exact ⟨ret_bool (unhide hX), unhide HB⟩
      | true =>
        go_wp2_with fail
        go_ret
        exact ⟨ret_bool (unhide hX), unhide HB⟩
    · have hkb2 : (k == 2) = false := beq_eq_false_iff_ne.2 hk2
      rw [decide_eq_false hk2] at H
      have hX := hide (show false = X by have := unhide H; simpa using this)
      go_wp2_with fail
      go_ret
      exact ⟨ret_bool (unhide hX), unhide HB⟩

/-- What a right slope's numbers keep to. -/
theorem slope_bd {p : P13} (hk : p.k = 2) (h : paintOkB p = true) : (-8388608 ≤ p.fx ∧ p.fx ≤ 8388608) ∧ (-8388608 ≤ p.fy ∧ p.fy ≤ 8388608) ∧ (-8388608 ≤ p.tx ∧ p.tx ≤ 8388608) ∧ (-8388608 ≤ p.ty ∧ p.ty ≤ 8388608) ∧ ¬ (p.fx = p.tx ∧ p.fy = p.ty) ∧ colorOkB p.f = true ∧ colorOkB p.l = true := by
  unfold paintOkB at h
  rw [hk] at h
  simp only [Bool.and_eq_true, Bool.or_eq_true, Bool.not_eq_true', decide_eq_true_eq, decide_eq_false_iff_not] at h
  obtain ⟨hf, h | ⟨_, hl, ha, hb, hne⟩⟩ := h
  · exact absurd h.1 (by decide)
  · simp only [pointOkB, Bool.and_eq_true, inB_true] at ha hb
    exact ⟨ha.1, ha.2, hb.1, hb.2, hne, hf, hl⟩

end Go.Proofs.Ytdbphpekhmlmdaa

/-
  The laws' own words on structs: what is handed over field by field, and what is held field against field.
-/
namespace Go.Proofs.Ytdbphpekhmlmdaa
open Go.RowKit

theorem toPoint_any (x y : Int) (w : World) :
    Calls Try.prog 90 #[.agg #[.int .i64 x, .int .i64 y]] w fun r w' => r = .returned (.agg #[.int .i64 x, .int .i64 y]) ∧ Below w.heap.size w w' := by
  go_enter Try.func90, Try.ntmps90
  go_wp2
  refine bodyPost_ret (v := .agg #[.int .i64 x, .int .i64 y]) (by simp [results, Try.results90, go_sem]) rfl ⟨rfl, ?_⟩
  exact al3_below _ _ _ _

theorem toMat_any (a b c d e f : Int) (w : World) :
    Calls Try.prog 71 #[.agg #[.int .i64 a, .int .i64 b, .int .i64 c, .int .i64 d, .int .i64 e, .int .i64 f]] w fun r w' => r = .returned (.agg #[.int .i64 a, .int .i64 b, .int .i64 c, .int .i64 d, .int .i64 e, .int .i64 f]) ∧ Below w.heap.size w w' := by
  go_enter Try.func71, Try.ntmps71
  go_wp2
  refine bodyPost_ret (v := .agg #[.int .i64 a, .int .i64 b, .int .i64 c, .int .i64 d, .int .i64 e, .int .i64 f]) (by simp [results, Try.results71, go_sem]) rfl ⟨rfl, ?_⟩
  exact al3_below _ _ _ _

theorem eqPoint_same (x y : Int) (w : World) :
    Calls Try.prog 93 #[.agg #[.int .i64 x, .int .i64 y], .agg #[.int .i64 x, .int .i64 y]] w fun r w' => r = .returned (.bool true) ∧ Below w.heap.size w w' := by
  go_enter Try.func93, Try.ntmps93
  go_wp2
  go_ret
  exact ⟨rfl, al2_below _ _ _⟩

set_option maxHeartbeats 1000000 in
theorem eqMat_same (a b c d e f : Int) (w : World) :
    Calls Try.prog 15 #[.agg #[.int .i64 a, .int .i64 b, .int .i64 c, .int .i64 d, .int .i64 e, .int .i64 f], .agg #[.int .i64 a, .int .i64 b, .int .i64 c, .int .i64 d, .int .i64 e, .int .i64 f]] w fun r w' => r = .returned (.bool true) ∧ Below w.heap.size w w' := by
  go_enter Try.func15, Try.ntmps15
  go_wp2
  go_ret
  exact ⟨rfl, al2_below _ _ _⟩

end Go.Proofs.Ytdbphpekhmlmdaa

/-
  The laws' own words on colours and paints.
-/
namespace Go.Proofs.Ytdbphpekhmlmdaa
open Go.RowKit
set_option linter.unusedVariables false

theorem toColor_any (a b c d : Int) (w : World) :
    Calls Try.prog 89 #[.agg #[.int .i64 a, .int .i64 b, .int .i64 c, .int .i64 d]] w fun r w' => r = .returned (.agg #[.int .i64 a, .int .i64 b, .int .i64 c, .int .i64 d]) ∧ Below w.heap.size w w' := by
  go_enter Try.func89, Try.ntmps89
  go_wp2
  refine bodyPost_ret (v := .agg #[.int .i64 a, .int .i64 b, .int .i64 c, .int .i64 d]) (by simp [results, Try.results89, go_sem]) rfl ⟨rfl, ?_⟩
  exact al3_below _ _ _ _

theorem eqColor_same (a b c d : Int) (w : World) :
    Calls Try.prog 92 #[.agg #[.int .i64 a, .int .i64 b, .int .i64 c, .int .i64 d], .agg #[.int .i64 a, .int .i64 b, .int .i64 c, .int .i64 d]] w fun r w' => r = .returned (.bool true) ∧ Below w.heap.size w w' := by
  go_enter Try.func92, Try.ntmps92
  go_wp2
  go_ret
  exact ⟨rfl, al2_below _ _ _⟩

theorem free13 {w1 : World} {b : Nat} {cs : Array Value} {t : TypeId} (h : w1.heap[b]? = some (.cells cs t (0, 0))) (j : Nat) : w1.frozen? ⟨b, j, none⟩ = false := frozen_of_row w1 b j _ _ h
theorem row_set {u : World} {b j : Nat} {cs : Array Value} {v : Value} {t : TypeId} (h : u.heap[b]? = some (.cells cs t (0, 0))) : (u.setCell ⟨b, j, none⟩ v).heap[b]? = some (.cells (cs.setIfInBounds j v) t (0, 0)) := heap_setCell_same u b j cs t v h

set_option maxHeartbeats 8000000 in
set_option maxRecDepth 100000 in
theorem toPaint_any (k r g b a r2 g2 b2 a2 fx fy tx ty : Int) (w : World) :
    Calls Try.prog 74 #[.agg #[.int .i64 k, .int .i64 r, .int .i64 g, .int .i64 b, .int .i64 a, .int .i64 r2, .int .i64 g2, .int .i64 b2, .int .i64 a2, .int .i64 fx, .int .i64 fy, .int .i64 tx, .int .i64 ty]] w fun e w' => e = .returned (.agg #[.int .i64 k, .int .i64 r, .int .i64 g, .int .i64 b, .int .i64 a, .int .i64 r2, .int .i64 g2, .int .i64 b2, .int .i64 a2, .int .i64 fx, .int .i64 fy, .int .i64 tx, .int .i64 ty]) ∧ Below w.heap.size w w' := by
  have E1 := hide (toColor_any r g b a)
  have E2 := hide (toColor_any r2 g2 b2 a2)
  have E3 := hide (toPoint_any fx fy)
  have E4 := hide (toPoint_any tx ty)
  go_enter Try.func74, Try.ntmps74
  go_upto_region 2 with fail
  obtain ⟨W, hW⟩ : ∃ W, W = ((w.alloc (.cells #[.int .i64 k, .int .i64 r, .int .i64 g, .int .i64 b, .int .i64 a, .int .i64 r2, .int .i64 g2, .int .i64 b2, .int .i64 a2, .int .i64 fx, .int .i64 fy, .int .i64 tx, .int .i64 ty] 92)).alloc (.cells #[.int .i64 0, .int .i64 0, .int .i64 0, .int .i64 0, .int .i64 0, .int .i64 0, .int .i64 0, .int .i64 0, .int .i64 0, .int .i64 0, .int .i64 0, .int .i64 0, .int .i64 0] 39)).alloc (.cells #[.int .i64 0, .int .i64 0, .int .i64 0, .int .i64 0, .int .i64 0, .int .i64 0, .int .i64 0, .int .i64 0, .int .i64 0, .int .i64 0, .int .i64 0, .int .i64 0, .int .i64 0] 39) := ⟨_, rfl⟩
  have R1 := hide (show W.heap[w.heap.size]? = some (.cells #[.int .i64 k, .int .i64 r, .int .i64 g, .int .i64 b, .int .i64 a, .int .i64 r2, .int .i64 g2, .int .i64 b2, .int .i64 a2, .int .i64 fx, .int .i64 fy, .int .i64 tx, .int .i64 ty] 92 (0, 0)) by rw [hW]; exact al3_0 _ _ _ _)
  have R2 := hide (show W.heap[w.heap.size + 1]? = some (.cells #[.int .i64 0, .int .i64 0, .int .i64 0, .int .i64 0, .int .i64 0, .int .i64 0, .int .i64 0, .int .i64 0, .int .i64 0, .int .i64 0, .int .i64 0, .int .i64 0, .int .i64 0] 39 (0, 0)) by rw [hW]; exact al3_1 _ _ _ _)
  have R3 := hide (show W.heap[w.heap.size + 1 + 1]? = some (.cells #[.int .i64 0, .int .i64 0, .int .i64 0, .int .i64 0, .int .i64 0, .int .i64 0, .int .i64 0, .int .i64 0, .int .i64 0, .int .i64 0, .int .i64 0, .int .i64 0, .int .i64 0] 39 (0, 0)) by rw [hW]; exact al3_2 _ _ _ _)
  have HB := hide (show Below w.heap.size w W by rw [hW]; exact al3_below _ _ _ _)
  rw [← hW]
  clear hW
  obtain ⟨b3, hb3⟩ : ∃ b, Hid (b = w.heap.size + 1 + 1) := ⟨_, rfl⟩
  obtain ⟨b2', hb2⟩ : ∃ b, Hid (b = w.heap.size + 1) := ⟨_, rfl⟩
  obtain ⟨b1, hb1⟩ : ∃ b, Hid (b = w.heap.size) := ⟨_, rfl⟩
  have lz : Hid (w.heap.size ≤ b1 ∧ b1 < b2' ∧ b2' < b3) := by unfold Hid; rw [unhide hb3, unhide hb2, unhide hb1]; omega
  rw [← unhide hb3] at R3
  rw [← unhide hb2] at R2
  rw [← unhide hb1] at R1
  rw [← unhide hb3, ← unhide hb2, ← unhide hb1]
  clear hb3 hb2 hb1
  have hn1 : b1 ≠ b3 := by have := unhide lz; omega
  have hn2 : b2' ≠ b3 := by have := unhide lz; omega
  have l3 := hide (show w.heap.size ≤ b3 by have := unhide lz; omega)
  have l2 := hide (show w.heap.size ≤ b2' by have := unhide lz; omega)
  replace hn1 := hide hn1
  replace hn2 := hide hn2
  obtain ⟨c0, c1, c2, c3, c4, c5, c6, c7, c8, c9, c10, c11, c12⟩ := row13 (unhide R1)
  obtain ⟨d0, d1, d2, d3, d4, d5, d6, d7, d8, d9, d10, d11, d12⟩ := row13 (unhide R3)
  have fr := free13 (unhide R3)
  have f0 := fr 0
  clear fr
  go_upto_region 3 with fail
  replace R1 := hide (show (W.setCell ⟨b3, 0, none⟩ (.int .i64 k)).heap[b1]? = _ from (setc_other (unhide hn1) (unhide R1)))
  replace R2 := hide (show (W.setCell ⟨b3, 0, none⟩ (.int .i64 k)).heap[b2']? = _ from (setc_other (unhide hn2) (unhide R2)))
  replace R3 := hide (show (W.setCell ⟨b3, 0, none⟩ (.int .i64 k)).heap[b3]? = some (.cells #[.int .i64 k, .int .i64 0, .int .i64 0, .int .i64 0, .int .i64 0, .int .i64 0, .int .i64 0, .int .i64 0, .int .i64 0, .int .i64 0, .int .i64 0, .int .i64 0, .int .i64 0] 39 (0, 0)) from (row_set (unhide R3)))
  replace HB := hide (show Below w.heap.size w (W.setCell ⟨b3, 0, none⟩ (.int .i64 k)) from ((unhide HB).setCell (p := ⟨b3, 0, none⟩) (unhide l3) _))
  clear c0 c1 c2 c3 c4 c5 c6 c7 c8 c9 c10 c11 c12
  clear d0 d1 d2 d3 d4 d5 d6 d7 d8 d9 d10 d11 d12
  clear f0
  generalize (W.setCell ⟨b3, 0, none⟩ (.int .i64 k)) = V2 at R1 R2 R3 HB ⊢
  obtain ⟨c0, c1, c2, c3, c4, c5, c6, c7, c8, c9, c10, c11, c12⟩ := row13 (unhide R1)
  go_wp2_with fail
  go_fit (unhide E1 _)
  rintro e w1 ⟨rfl, hb⟩
  replace R1 := hide (row_next hb (unhide R1))
  replace R2 := hide (row_next hb (unhide R2))
  replace R3 := hide (row_next hb (unhide R3))
  replace HB := hide (below_two (unhide HB) hb)
  clear hb
  clear c0 c1 c2 c3 c4 c5 c6 c7 c8 c9 c10 c11 c12
  obtain ⟨d0, d1, d2, d3, d4, d5, d6, d7, d8, d9, d10, d11, d12⟩ := row13 (unhide R3)
  have fr := free13 (unhide R3)
  have f1 := fr 1
  have f2 := fr 2
  have f3 := fr 3
  have f4 := fr 4
  clear fr
  go_upto_region 4 with fail
  replace R1 := hide (show ((((w1.setCell ⟨b3, 1, none⟩ (.int .i64 r)).setCell ⟨b3, 2, none⟩ (.int .i64 g)).setCell ⟨b3, 3, none⟩ (.int .i64 b)).setCell ⟨b3, 4, none⟩ (.int .i64 a)).heap[b1]? = _ from (setc_other (unhide hn1) (setc_other (unhide hn1) (setc_other (unhide hn1) (setc_other (unhide hn1) (unhide R1))))))
  replace R2 := hide (show ((((w1.setCell ⟨b3, 1, none⟩ (.int .i64 r)).setCell ⟨b3, 2, none⟩ (.int .i64 g)).setCell ⟨b3, 3, none⟩ (.int .i64 b)).setCell ⟨b3, 4, none⟩ (.int .i64 a)).heap[b2']? = _ from (setc_other (unhide hn2) (setc_other (unhide hn2) (setc_other (unhide hn2) (setc_other (unhide hn2) (unhide R2))))))
  replace R3 := hide (show ((((w1.setCell ⟨b3, 1, none⟩ (.int .i64 r)).setCell ⟨b3, 2, none⟩ (.int .i64 g)).setCell ⟨b3, 3, none⟩ (.int .i64 b)).setCell ⟨b3, 4, none⟩ (.int .i64 a)).heap[b3]? = some (.cells #[.int .i64 k, .int .i64 r, .int .i64 g, .int .i64 b, .int .i64 a, .int .i64 0, .int .i64 0, .int .i64 0, .int .i64 0, .int .i64 0, .int .i64 0, .int .i64 0, .int .i64 0] 39 (0, 0)) from (row_set (row_set (row_set (row_set (unhide R3))))))
  replace HB := hide (show Below w.heap.size w ((((w1.setCell ⟨b3, 1, none⟩ (.int .i64 r)).setCell ⟨b3, 2, none⟩ (.int .i64 g)).setCell ⟨b3, 3, none⟩ (.int .i64 b)).setCell ⟨b3, 4, none⟩ (.int .i64 a)) from (((((unhide HB).setCell (p := ⟨b3, 1, none⟩) (unhide l3) _).setCell (p := ⟨b3, 2, none⟩) (unhide l3) _).setCell (p := ⟨b3, 3, none⟩) (unhide l3) _).setCell (p := ⟨b3, 4, none⟩) (unhide l3) _))
  skip
  clear d0 d1 d2 d3 d4 d5 d6 d7 d8 d9 d10 d11 d12
  clear f1 f2 f3 f4
  generalize ((((w1.setCell ⟨b3, 1, none⟩ (.int .i64 r)).setCell ⟨b3, 2, none⟩ (.int .i64 g)).setCell ⟨b3, 3, none⟩ (.int .i64 b)).setCell ⟨b3, 4, none⟩ (.int .i64 a)) = V3 at R1 R2 R3 HB ⊢
  obtain ⟨c0, c1, c2, c3, c4, c5, c6, c7, c8, c9, c10, c11, c12⟩ := row13 (unhide R1)
  go_wp2_with fail
  go_fit (unhide E2 _)
  rintro e w2 ⟨rfl, hb⟩
  replace R1 := hide (row_next hb (unhide R1))
  replace R2 := hide (row_next hb (unhide R2))
  replace R3 := hide (row_next hb (unhide R3))
  replace HB := hide (below_two (unhide HB) hb)
  clear hb
  clear c0 c1 c2 c3 c4 c5 c6 c7 c8 c9 c10 c11 c12
  obtain ⟨d0, d1, d2, d3, d4, d5, d6, d7, d8, d9, d10, d11, d12⟩ := row13 (unhide R3)
  have fr := free13 (unhide R3)
  have f5 := fr 5
  have f6 := fr 6
  have f7 := fr 7
  have f8 := fr 8
  clear fr
  go_upto_region 5 with fail
  replace R1 := hide (show ((((w2.setCell ⟨b3, 5, none⟩ (.int .i64 r2)).setCell ⟨b3, 6, none⟩ (.int .i64 g2)).setCell ⟨b3, 7, none⟩ (.int .i64 b2)).setCell ⟨b3, 8, none⟩ (.int .i64 a2)).heap[b1]? = _ from (setc_other (unhide hn1) (setc_other (unhide hn1) (setc_other (unhide hn1) (setc_other (unhide hn1) (unhide R1))))))
  replace R2 := hide (show ((((w2.setCell ⟨b3, 5, none⟩ (.int .i64 r2)).setCell ⟨b3, 6, none⟩ (.int .i64 g2)).setCell ⟨b3, 7, none⟩ (.int .i64 b2)).setCell ⟨b3, 8, none⟩ (.int .i64 a2)).heap[b2']? = _ from (setc_other (unhide hn2) (setc_other (unhide hn2) (setc_other (unhide hn2) (setc_other (unhide hn2) (unhide R2))))))
  replace R3 := hide (show ((((w2.setCell ⟨b3, 5, none⟩ (.int .i64 r2)).setCell ⟨b3, 6, none⟩ (.int .i64 g2)).setCell ⟨b3, 7, none⟩ (.int .i64 b2)).setCell ⟨b3, 8, none⟩ (.int .i64 a2)).heap[b3]? = some (.cells #[.int .i64 k, .int .i64 r, .int .i64 g, .int .i64 b, .int .i64 a, .int .i64 r2, .int .i64 g2, .int .i64 b2, .int .i64 a2, .int .i64 0, .int .i64 0, .int .i64 0, .int .i64 0] 39 (0, 0)) from (row_set (row_set (row_set (row_set (unhide R3))))))
  replace HB := hide (show Below w.heap.size w ((((w2.setCell ⟨b3, 5, none⟩ (.int .i64 r2)).setCell ⟨b3, 6, none⟩ (.int .i64 g2)).setCell ⟨b3, 7, none⟩ (.int .i64 b2)).setCell ⟨b3, 8, none⟩ (.int .i64 a2)) from (((((unhide HB).setCell (p := ⟨b3, 5, none⟩) (unhide l3) _).setCell (p := ⟨b3, 6, none⟩) (unhide l3) _).setCell (p := ⟨b3, 7, none⟩) (unhide l3) _).setCell (p := ⟨b3, 8, none⟩) (unhide l3) _))
  skip
  clear d0 d1 d2 d3 d4 d5 d6 d7 d8 d9 d10 d11 d12
  clear f5 f6 f7 f8
  generalize ((((w2.setCell ⟨b3, 5, none⟩ (.int .i64 r2)).setCell ⟨b3, 6, none⟩ (.int .i64 g2)).setCell ⟨b3, 7, none⟩ (.int .i64 b2)).setCell ⟨b3, 8, none⟩ (.int .i64 a2)) = V4 at R1 R2 R3 HB ⊢
  obtain ⟨c0, c1, c2, c3, c4, c5, c6, c7, c8, c9, c10, c11, c12⟩ := row13 (unhide R1)
  go_wp2_with fail
  go_fit (unhide E3 _)
  rintro e w3 ⟨rfl, hb⟩
  replace R1 := hide (row_next hb (unhide R1))
  replace R2 := hide (row_next hb (unhide R2))
  replace R3 := hide (row_next hb (unhide R3))
  replace HB := hide (below_two (unhide HB) hb)
  clear hb
  clear c0 c1 c2 c3 c4 c5 c6 c7 c8 c9 c10 c11 c12
  obtain ⟨d0, d1, d2, d3, d4, d5, d6, d7, d8, d9, d10, d11, d12⟩ := row13 (unhide R3)
  have fr := free13 (unhide R3)
  have f9 := fr 9
  have f10 := fr 10
  clear fr
  go_upto_region 6 with fail
  replace R1 := hide (show ((w3.setCell ⟨b3, 9, none⟩ (.int .i64 fx)).setCell ⟨b3, 10, none⟩ (.int .i64 fy)).heap[b1]? = _ from (setc_other (unhide hn1) (setc_other (unhide hn1) (unhide R1))))
  replace R2 := hide (show ((w3.setCell ⟨b3, 9, none⟩ (.int .i64 fx)).setCell ⟨b3, 10, none⟩ (.int .i64 fy)).heap[b2']? = _ from (setc_other (unhide hn2) (setc_other (unhide hn2) (unhide R2))))
  replace R3 := hide (show ((w3.setCell ⟨b3, 9, none⟩ (.int .i64 fx)).setCell ⟨b3, 10, none⟩ (.int .i64 fy)).heap[b3]? = some (.cells #[.int .i64 k, .int .i64 r, .int .i64 g, .int .i64 b, .int .i64 a, .int .i64 r2, .int .i64 g2, .int .i64 b2, .int .i64 a2, .int .i64 fx, .int .i64 fy, .int .i64 0, .int .i64 0] 39 (0, 0)) from (row_set (row_set (unhide R3))))
  replace HB := hide (show Below w.heap.size w ((w3.setCell ⟨b3, 9, none⟩ (.int .i64 fx)).setCell ⟨b3, 10, none⟩ (.int .i64 fy)) from (((unhide HB).setCell (p := ⟨b3, 9, none⟩) (unhide l3) _).setCell (p := ⟨b3, 10, none⟩) (unhide l3) _))
  skip
  clear d0 d1 d2 d3 d4 d5 d6 d7 d8 d9 d10 d11 d12
  clear f9 f10
  generalize ((w3.setCell ⟨b3, 9, none⟩ (.int .i64 fx)).setCell ⟨b3, 10, none⟩ (.int .i64 fy)) = V5 at R1 R2 R3 HB ⊢
  obtain ⟨c0, c1, c2, c3, c4, c5, c6, c7, c8, c9, c10, c11, c12⟩ := row13 (unhide R1)
  go_wp2_with fail
  go_fit (unhide E4 _)
  rintro e w4 ⟨rfl, hb⟩
  replace R1 := hide (row_next hb (unhide R1))
  replace R2 := hide (row_next hb (unhide R2))
  replace R3 := hide (row_next hb (unhide R3))
  replace HB := hide (below_two (unhide HB) hb)
  clear hb
  clear c0 c1 c2 c3 c4 c5 c6 c7 c8 c9 c10 c11 c12
  obtain ⟨d0, d1, d2, d3, d4, d5, d6, d7, d8, d9, d10, d11, d12⟩ := row13 (unhide R3)
  have fr := free13 (unhide R3)
  have f11 := fr 11
  have f12 := fr 12
  clear fr
  go_upto_region 7 with fail
  replace R1 := hide (show ((w4.setCell ⟨b3, 11, none⟩ (.int .i64 tx)).setCell ⟨b3, 12, none⟩ (.int .i64 ty)).heap[b1]? = _ from (setc_other (unhide hn1) (setc_other (unhide hn1) (unhide R1))))
  replace R2 := hide (show ((w4.setCell ⟨b3, 11, none⟩ (.int .i64 tx)).setCell ⟨b3, 12, none⟩ (.int .i64 ty)).heap[b2']? = _ from (setc_other (unhide hn2) (setc_other (unhide hn2) (unhide R2))))
  replace R3 := hide (show ((w4.setCell ⟨b3, 11, none⟩ (.int .i64 tx)).setCell ⟨b3, 12, none⟩ (.int .i64 ty)).heap[b3]? = some (.cells #[.int .i64 k, .int .i64 r, .int .i64 g, .int .i64 b, .int .i64 a, .int .i64 r2, .int .i64 g2, .int .i64 b2, .int .i64 a2, .int .i64 fx, .int .i64 fy, .int .i64 tx, .int .i64 ty] 39 (0, 0)) from (row_set (row_set (unhide R3))))
  replace HB := hide (show Below w.heap.size w ((w4.setCell ⟨b3, 11, none⟩ (.int .i64 tx)).setCell ⟨b3, 12, none⟩ (.int .i64 ty)) from (((unhide HB).setCell (p := ⟨b3, 11, none⟩) (unhide l3) _).setCell (p := ⟨b3, 12, none⟩) (unhide l3) _))
  skip
  clear d0 d1 d2 d3 d4 d5 d6 d7 d8 d9 d10 d11 d12
  clear f11 f12
  generalize ((w4.setCell ⟨b3, 11, none⟩ (.int .i64 tx)).setCell ⟨b3, 12, none⟩ (.int .i64 ty)) = V6 at R1 R2 R3 HB ⊢
  obtain ⟨c0, c1, c2, c3, c4, c5, c6, c7, c8, c9, c10, c11, c12⟩ := row13 (unhide R3)
  obtain ⟨e0, e1, e2, e3, e4, e5, e6, e7, e8, e9, e10, e11, e12⟩ := row13 (unhide R2)
  have fr := free13 (unhide R2)
  have f0 := fr 0
  have f1 := fr 1
  have f2 := fr 2
  have f3 := fr 3
  have f4 := fr 4
  have f5 := fr 5
  have f6 := fr 6
  have f7 := fr 7
  have f8 := fr 8
  have f9 := fr 9
  have f10 := fr 10
  have f11 := fr 11
  have f12 := fr 12
  clear fr
  go_wp2_with fail
  refine bodyPost_ret (v := .agg #[.int .i64 k, .int .i64 r, .int .i64 g, .int .i64 b, .int .i64 a, .int .i64 r2, .int .i64 g2, .int .i64 b2, .int .i64 a2, .int .i64 fx, .int .i64 fy, .int .i64 tx, .int .i64 ty]) (by simp [results, Try.results74, go_sem, e0, e1, e2, e3, e4, e5, e6, e7, e8, e9, e10, e11, e12]) rfl ⟨rfl, ?_⟩
  exact ((((((((((((((unhide HB).setCell (p := ⟨b2', 0, none⟩) (unhide l2) _).setCell (p := ⟨b2', 1, none⟩) (unhide l2) _).setCell (p := ⟨b2', 2, none⟩) (unhide l2) _).setCell (p := ⟨b2', 3, none⟩) (unhide l2) _).setCell (p := ⟨b2', 4, none⟩) (unhide l2) _).setCell (p := ⟨b2', 5, none⟩) (unhide l2) _).setCell (p := ⟨b2', 6, none⟩) (unhide l2) _).setCell (p := ⟨b2', 7, none⟩) (unhide l2) _).setCell (p := ⟨b2', 8, none⟩) (unhide l2) _).setCell (p := ⟨b2', 9, none⟩) (unhide l2) _).setCell (p := ⟨b2', 10, none⟩) (unhide l2) _).setCell (p := ⟨b2', 11, none⟩) (unhide l2) _).setCell (p := ⟨b2', 12, none⟩) (unhide l2) _)
end Go.Proofs.Ytdbphpekhmlmdaa

/-
  Paths: which are right, and their texts; the words of a text.
-/
namespace Go.Proofs.Ytdbphpekhmlmdaa

/-- How many points a verb takes. -/
def needK (v : Int) : Nat := if v = 1 then 1 else if v = 2 then 1 else if v = 3 then 2 else if v = 4 then 3 else 0
def isVerb (v : Int) : Prop := 1 ≤ v ∧ v ≤ 5
instance (v : Int) : Decidable (isVerb v) := inferInstanceAs (Decidable (_ ∧ _))
def needI (v : Int) : Int := if isVerb v then (needK v : Int) else -1
theorem needK_le (v : Int) : needK v ≤ 3 := by unfold needK; repeat' split
                                               all_goals omega
theorem needI_neg {v : Int} : needI v < 0 ↔ ¬ isVerb v := by unfold needI; split <;> simp_all
theorem needI_of {v : Int} (h : isVerb v) : needI v = needK v := if_pos h
theorem verb_cases {v : Int} (h : isVerb v) : v = 1 ∨ v = 2 ∨ v = 3 ∨ v = 4 ∨ v = 5 := by unfold isVerb at h; omega

def needN (f : Nat → Int) : Nat → Nat
  | 0 => 0
  | k + 1 => needN f k + needK (f k)
theorem needN_le (f : Nat → Int) : ∀ k, needN f k ≤ 3 * k
  | 0 => by simp [needN]
  | k + 1 => by have := needN_le f k; have := needK_le (f k); simp only [needN]; omega
theorem needN_mono (f : Nat → Int) {j k : Nat} (h : j ≤ k) : needN f j ≤ needN f k := by
  induction k with
  | zero => obtain rfl : j = 0 := by omega
            exact Nat.le_refl _
  | succ k ih =>
    by_cases hjk : j = k + 1
    · subst hjk; exact Nat.le_refl _
    · exact Nat.le_trans (ih (by omega)) (by simp only [needN]; omega)
theorem needN_same {f g : Nat → Int} : ∀ {k : Nat}, (∀ i, i < k → f i = g i) → needN f k = needN g k
  | 0, _ => rfl
  | k + 1, h => by simp only [needN]; rw [needN_same (fun i hi => h i (by omega)), h k (by omega)]

/-- The verb at place i is one, and stands where it may. -/
def VOk (f : Nat → Int) (i : Nat) : Prop := isVerb (f i) ∧ ((i = 0 ∨ f (i - 1) = 5) → f i = 1)

structure Right (vf : Nat → Int) (nv : Nat) (pf : Nat → Int × Int) (np : Nat) : Prop where
  nv24 : nv ≤ 24
  np24 : np ≤ 24
  verbs : ∀ i, i < nv → VOk vf i
  points : ∀ i, i < np → pointOkB (pf i).1 (pf i).2 = true
  sum : needN vf nv = np
theorem Right.same {vf vg : Nat → Int} {nv np : Nat} {pf pg : Nat → Int × Int} (h : Right vf nv pf np) (hv : ∀ i, i < nv → vf i = vg i) (hp : ∀ i, i < np → pf i = pg i) : Right vg nv pg np := by
  refine ⟨h.nv24, h.np24, fun i hi => ?_, fun i hi => ?_, ?_⟩
  · obtain ⟨h1, h2⟩ := h.verbs i hi
    refine ⟨by rw [← hv i hi]; exact h1, fun h0 => ?_⟩
    rw [← hv i hi]
    refine h2 (h0.imp id fun h5 => ?_)
    by_cases hi0 : i = 0
    · subst hi0; rw [hv 0 hi]; exact h5
    · rw [hv (i - 1) (by omega)]; exact h5
  · rw [← hp i hi]; exact h.points i hi
  · rw [← needN_same hv]; exact h.sum

end Go.Proofs.Ytdbphpekhmlmdaa

/-
  Rows of points: how they lie in memory, and how one more is laid behind them.
-/
namespace Go.Proofs.Ytdbphpekhmlmdaa
open Go.RowKit

theorem infoPoint : (Try.prog.info? 37).map (fun i => (i.zero, i.size, i.bytes)) = some (some (.agg #[.int .i64 0, .int .i64 0]), 2, 16) := by kernel_rfl

def ptV (p : Int × Int) : List Value := [.int .i64 p.1, .int .i64 p.2]
def ptsV (l : List (Int × Int)) : List Value := l.flatMap ptV
theorem ptsV_len (l : List (Int × Int)) : (ptsV l).length = l.length * 2 := by
  induction l with
  | nil => rfl
  | cons p l ih => change (ptV p ++ ptsV l).length = _; rw [List.length_append, ih]; simp [ptV]; omega
theorem ptsV_app (l m : List (Int × Int)) : ptsV (l ++ m) = ptsV l ++ ptsV m := by unfold ptsV; rw [List.flatMap_append]
theorem ptsV_get (l : List (Int × Int)) (i : Nat) (h : i < l.length) : (ptsV l)[i * 2]? = some (.int .i64 l[i].1) ∧ (ptsV l)[i * 2 + 1]? = some (.int .i64 l[i].2) := by
  induction l generalizing i with
  | nil => exact absurd h (by simp)
  | cons p l ih =>
    change (ptV p ++ ptsV l)[i * 2]? = _ ∧ (ptV p ++ ptsV l)[i * 2 + 1]? = _
    cases i with
    | zero => exact ⟨rfl, rfl⟩
    | succ i =>
      have hi : i < l.length := by simpa using h
      obtain ⟨h1, h2⟩ := ih i hi
      rw [List.getElem?_append_right (by simp [ptV]; omega), List.getElem?_append_right (by simp [ptV]; omega)]
      refine ⟨?_, ?_⟩
      · rw [show (i + 1) * 2 - (ptV p).length = i * 2 by simp [ptV]; omega]; exact h1
      · rw [show (i + 1) * 2 + 1 - (ptV p).length = i * 2 + 1 by simp [ptV]; omega]; exact h2

/-- Number i of a row of points that begins at 'a'. -/
def PtIn (w : World) (a : Option Addr) (i : Nat) (p : Int × Int) : Prop :=
  ∃ s, a = some ⟨s, 0, none⟩ ∧ w.cell? ⟨s, i * 2, none⟩ = some (.int .i64 p.1) ∧ w.cell? ⟨s, i * 2 + 1, none⟩ = some (.int .i64 p.2)
theorem PtIn.next {w w1 : World} {a : Option Addr} {i : Nat} {p : Int × Int} (h : PtIn w a i p) (hb : Below w.heap.size w w1) : PtIn w1 a i p :=
  let ⟨s, h1, h2, h3⟩ := h; ⟨s, h1, kc hb h2, kc hb h3⟩

theorem own_pts {w : World} {base t : Nat} {v : Value} {l : List (Int × Int)} (h : w.ownsRow base t 2 v l.length (ptsV l)) :
    ∃ a cap, v = .slice a l.length cap ∧ l.length ≤ cap ∧ ∀ i (hi : i < l.length), PtIn w a i l[i] := by
  rcases h.2 with ⟨rfl, h0⟩ | ⟨g, cap, cur, rfl, h3, h4, h5, h6, _⟩
  · exact ⟨none, 0, by rw [h0], by omega, fun i hi => absurd hi (by omega)⟩
  · refine ⟨some ⟨g, 0, none⟩, cap, rfl, h5, fun i hi => ⟨g, rfl, ?_, ?_⟩⟩
    · rw [h.cellAt _ (by omega)]; exact (ptsV_get l i hi).1
    · rw [h.cellAt _ (by omega)]; exact (ptsV_get l i hi).2

/-- 'out = append(out, point)' onto a row of the call's own. -/
theorem wpList_append_pt {P : Program} {ops : Array Oper} {rest : List Oper} {o : Oper} {a : Act} {Q : Exit → Act → World → Prop} (wr : World) (hgd : o.guard = none) (s x : Operand) (t e : TypeId)
    (ho : o.op = .call { callee := .builtin .append, args := #[s, x], argTypes := #[t, t] })
    (base : Nat) (i : TypeInfo) (z : Value) (bytes : Nat) (ht : P.underlying t = some (.slice e)) (hi : P.info? e = some i) (hz : i.zero = some z) (hsize : i.size = 2) (hby : i.bytes = bytes) (hz1 : z.cells.size = 2)
    (v : Value) (l : List (Int × Int)) (hs : a.eval s = v) (hown : wr.ownsRow base e 2 v l.length (ptsV l))
    (p q : Int) (c : Nat) (hx : a.eval x = .slice (some ⟨wr.heap.size, 0, none⟩) 1 c)
    (h63 : l.length + 1 ≤ maxLen) (hlen : (l.length + 1) * bytes ≤ 140737488355328) (w0 : World) (B : Nat) (hB : B ≤ base) (hbase : base ≤ wr.heap.size) (hnx : Below B w0 wr)
    (h : ∀ v' w', w'.ownsRow base e 2 v' (l ++ [(p, q)]).length (ptsV (l ++ [(p, q)])) → Below B w0 w' → wpList P ops Q rest (a.put o.dst v') w') :
    wpList P ops Q (o :: rest) a (wr.alloc (.cells #[.int .i64 p, .int .i64 q] e)) := by
  refine wpList_append_own (wr.alloc (.cells #[.int .i64 p, .int .i64 q] e)) hgd s x t ho base e i z 2 bytes ht hi hz hsize hby hz1 (by decide) v l.length (ptsV l) hs (hown.alloc _) ⟨wr.heap.size, 0, none⟩ 1 c (ptV (p, q)) hx (by simp [ptV]) ?_ (by intro u hu; simp [ptV] at hu; rcases hu with rfl | rfl <;> rfl) h63 hlen (by simp; omega) ?_
  · intro j u hj
    have hadd : (⟨wr.heap.size, 0, none⟩ : Addr).add j = ⟨wr.heap.size, j, none⟩ := by unfold Addr.add; split <;> simp_all
    rw [hadd, World.cell?_alloc_mark wr #[.int .i64 p, .int .i64 q] e (0, 0) j, ← hj]
    simp [ptV]
  · intro v' w' ho' hg _
    refine h v' w' ?_ ?_
    · rw [ptsV_app, List.length_append]; exact ho'
    · exact grown_below (hnx.alloc (by omega) _) hB (hown.alloc _) hg (by simp; omega)
end Go.Proofs.Ytdbphpekhmlmdaa

/-
  A region that draws its order and only reads, whose callees make memory of their own: one walk, in the class of all worlds that keep what stood before.
-/
namespace Go.Proofs.Ytdbphpekhmlmdaa
open Go.RowKit

/-- The worlds that keep what stands in V, numbered. -/
theorem kept_worlds (V : World) : ∃ (I : Type) (F : I → World), Nonempty I ∧ (∀ u, Below V.heap.size V u → ∃ i, u = F i) ∧ (∀ i, Below V.heap.size V (F i)) :=
  ⟨{u : World // Below V.heap.size V u}, Subtype.val, ⟨⟨V, Below.refl _ _⟩⟩, fun u h => ⟨⟨u, h⟩, rfl⟩, fun i => i.2⟩

theorem wp_region_quiet_in {P : Program} {I : Type} {V : World} {F : I → World} (h1 : ∀ u, Below V.heap.size V u → ∃ i, u = F i) {id : Nat} {Q : Exit → Act → World → Prop} {a : Act} {l : List Oper} (hm : P.follows .mixedOrders = true) (hB : Region.lexB .any l.toArray = true)
    (h : wpQuiet P l.toArray (fun w' => ∃ i, w' = F i) (fun a' => ∀ w', (∃ i, w' = F i) → Q .normal a' w') l a) : (Code.region id l.toArray true).wp P Q a V :=
  wp_region_quiet (C := fun w' => ∃ i, w' = F i) hm hB (h1 _ (Below.refl _ _).drew) (by simpa using h)

theorem quiet_in {P : Program} {I : Type} {V : World} {F : I → World} (h1 : ∀ u, Below V.heap.size V u → ∃ i, u = F i) (h2 : ∀ i, Below V.heap.size V (F i)) {f : FuncId} {args : Array Value} {i : I} {v : Value}
    (h : Calls P f args (F i) fun e w' => e = .returned v ∧ Below (F i).heap.size (F i) w') : Calls P f args (F i) fun e w'' => e = .returned v ∧ ∃ j, w'' = F j :=
  h.mono fun _ _ ⟨he, hb⟩ => ⟨he, h1 _ (below_after hb (h2 i) (Nat.le_refl _))⟩
end Go.Proofs.Ytdbphpekhmlmdaa

/-
  Lists of points that are handed over, measured and held against each other by the laws.
-/
namespace Go.Proofs.Ytdbphpekhmlmdaa
open Go.RowKit

/-- The first k points of a row are those of G. -/
def PxAt (xs : List Value) (G : Nat → Int × Int) (k : Nat) : Prop := ∀ j, j < k → xs[j * 2]? = some (.int .i64 (G j).1) ∧ xs[j * 2 + 1]? = some (.int .i64 (G j).2)
theorem PxAt.step {xs : List Value} {G : Nat → Int × Int} {k : Nat} (h : PxAt xs G k) (hk : k * 2 + 2 ≤ xs.length) :
    PxAt ((xs.set (k * 2) (.int .i64 (G k).1)).set (k * 2 + 1) (.int .i64 (G k).2)) G (k + 1) := by
  intro j hj
  by_cases hjk : j = k
  · subst hjk
    refine ⟨?_, ?_⟩ <;> simp [List.getElem?_set] <;> omega
  · obtain ⟨h0, h1⟩ := h j (by omega)
    refine ⟨?_, ?_⟩
    · rw [List.getElem?_set_ne (by omega), List.getElem?_set_ne (by omega)]; exact h0
    · rw [List.getElem?_set_ne (by omega), List.getElem?_set_ne (by omega)]; exact h1
theorem own_cell2 {w : World} {base t g n cap k : Nat} {xs : List Value} (h : w.ownsRow base t 2 (.slice (some ⟨g, 0, none⟩) n cap) n xs) (hk : k < n) :
    ∃ v0 v1, w.cell? ⟨g, k * 2, none⟩ = some v0 ∧ w.cell? ⟨g, k * 2 + 1, none⟩ = some v1 := by
  have hl := h.1
  refine ⟨xs[k * 2]'(by omega), xs[k * 2 + 1]'(by omega), ?_, ?_⟩
  all_goals rw [h.cellAt _ (by omega)]; exact List.getElem?_eq_getElem _
theorem own_put2 {w : World} {base t g n cap k : Nat} {xs : List Value} (h : w.ownsRow base t 2 (.slice (some ⟨g, 0, none⟩) n cap) n xs) (x y : Value) :
    ((w.setCell ⟨g, k * 2, none⟩ x).setCell ⟨g, k * 2 + 1, none⟩ y).ownsRow base t 2 (.slice (some ⟨g, 0, none⟩) n cap) n ((xs.set (k * 2) x).set (k * 2 + 1) y) :=
  ((h.stored _ _).1.stored _ _).1
theorem below_at2 {B : Nat} {a w : World} (h : Below B a w) {b : Nat} (hb : B ≤ b) (o0 o1 : Nat) (x y : Value) : Below B a ((w.setCell ⟨b, o0, none⟩ x).setCell ⟨b, o1, none⟩ y) :=
  (h.setCell (p := ⟨b, o0, none⟩) hb x).setCell (p := ⟨b, o1, none⟩) hb y
theorem own_px {w : World} {base t g n cap : Nat} {xs : List Value} {G : Nat → Int × Int} (h : w.ownsRow base t 2 (.slice (some ⟨g, 0, none⟩) n cap) n xs) (hx : PxAt xs G n) : ∀ i, i < n → PtIn w (some ⟨g, 0, none⟩) i (G i) := by
  intro i hi
  obtain ⟨h0, h1⟩ := hx i hi
  refine ⟨g, rfl, ?_, ?_⟩
  · rw [h.cellAt _ (by omega)]; exact h0
  · rw [h.cellAt _ (by omega)]; exact h1

/-- Number i of a row of points that came in, wherever it begins. -/
def PtArg (w : World) (a : Option Addr) (i : Nat) (p : Int × Int) : Prop :=
  ∃ s o, a = some ⟨s, o, none⟩ ∧ w.cell? ⟨s, o + i * 2, none⟩ = some (.int .i64 p.1) ∧ w.cell? ⟨s, o + i * 2 + 1, none⟩ = some (.int .i64 p.2)
theorem PtArg.next {w w1 : World} {a : Option Addr} {i : Nat} {p : Int × Int} (h : PtArg w a i p) (hb : Below w.heap.size w w1) : PtArg w1 a i p :=
  let ⟨s, o, h1, h2, h3⟩ := h; ⟨s, o, h1, kc hb h2, kc hb h3⟩

theorem PtIn.arg {w : World} {a : Option Addr} {i : Nat} {p : Int × Int} (h : PtIn w a i p) : PtArg w a i p :=
  let ⟨s, h1, h2, h3⟩ := h; ⟨s, 0, h1, by rw [Nat.zero_add]; exact h2, by rw [Nat.zero_add]; exact h3⟩

theorem szPointS_any (ao : Option Addr) (n cap : Nat) (z : Int) (hz : 0 ≤ z ∧ z ≤ 1048576) (hm : n ≤ maxLen) (w : World) :
    Calls Try.prog 87 #[.slice ao n cap, .int .i64 z] w fun r w' => r = .returned (.int .i64 (if z < n then -1 else z - n)) ∧ w' = w := by
  have hw : IntKind.i64.wrap (z - (n : Int)) = z - n := IntWalk.i64_in _ (by unfold maxLen at hm; omega)
  by_cases hlt : z < n
  · have h0 : z - (n : Int) < 0 := by omega
    rw [if_pos hlt]
    go_enter Try.func87, Try.ntmps87
    go_wp2
    go_ret
    exact ⟨rfl, rfl⟩
  · have h0 : ¬ z - (n : Int) < 0 := by omega
    rw [if_neg hlt]
    go_enter Try.func87, Try.ntmps87
    go_wp2
    go_ret
    exact ⟨rfl, rfl⟩

set_option maxHeartbeats 4000000 in
set_option maxRecDepth 100000 in
theorem toPointS_own (f : Nat → Int × Int) (ao : Option Addr) (n cap : Nat) (hn : n ≤ 1048576) (w : World) (H : ∀ i, i < n → PtArg w ao i (f i)) :
    Calls Try.prog 88 #[.slice ao n cap] w fun r w' => r = .returned (.slice (some ⟨w.heap.size, 0, none⟩) n n) ∧ (∃ xs, w'.ownsRow w.heap.size 37 2 (.slice (some ⟨w.heap.size, 0, none⟩) n n) n xs ∧ PxAt xs f n) ∧ Below w.heap.size w w' := by
  obtain ⟨i0, hi, hz0, hz1, hz2⟩ := info_parts infoPoint
  have HH := hide H
  clear H
  go_enter Try.func88, Try.ntmps88
  go_wp2_with (at_make; go_must (refine wpList_make_full w rfl _ _ 31 rfl w.heap.size 37 i0 (.agg #[.int .i64 0, .int .i64 0]) 2 Try.underlying31 hi hz0 hz1 .i64 .i64 _ _ n (by rfl) (by rfl) (by omega) (by omega) (by rw [hz2]; omega) (by unfold maxLen; omega) (Nat.le_refl _) ?_); intro w1 hown1 hg1)
  have B1 : Below w.heap.size w w1 := (Below.refl _ w).grown hg1 (Nat.le_refl _) (by simp)
  clear hg1
  go_loopw [4] (fun i u => ∃ (k : Nat) (xs : List Value), k ≤ n ∧ i = .int .i64 k ∧ u.ownsRow w.heap.size 37 2 (.slice (some ⟨w.heap.size, 0, none⟩) n n) n xs ∧ Hid (PxAt xs f k) ∧ Below w.heap.size w u) (fun i _ => n - (intOf i).toNat)
  case atStart => exact ⟨0, _, Nat.zero_le _, rfl, hown1, fun j hj => absurd hj (by omega), B1⟩
  case round =>
    obtain ⟨k, xs, hk, rfl, hown, HX, hb⟩ := hrel
    clear hown1 B1
    have O := hide hown
    by_cases hlt : k < n
    · have HP := (unhide HH k hlt).next hb
      have hst := hide ((unhide HX).step (by have := hown.1; omega))
      generalize f k = p at HP hst
      obtain ⟨x, y⟩ := p
      obtain ⟨s, o, rfl, g0, g1⟩ := HP
      dsimp only at g0 g1
      have HB := hide hb
      clear hb hown
      have E := hide (toPoint_any x y)
      go_wp2_with fail
      go_fit (unhide E _)
      rintro r w2 ⟨rfl, hb⟩
      replace O := hide (own_below (unhide O) hb)
      replace HB := hide (below_two (unhide HB) hb)
      clear hb g0 g1
      obtain ⟨v0, v1, c0, c1⟩ := own_cell2 (unhide O) hlt
      have f0 := (unhide O).frozenAt (k * 2)
      have f1 := (unhide O).frozenAt (k * 2 + 1)
      go_wp2_with fail
      go_roundw
      case rel => exact ⟨k + 1, _, by omega, by go_num, own_put2 (unhide O) _ _, hst, below_at2 (unhide HB) (Nat.le_refl _) _ _ _ _⟩
      case measure => simp [intOf]; omega
    · have hke : k = n := by omega
      subst hke
      have hp := hide (show ∃ xs, wr.ownsRow w.heap.size 37 2 (.slice (some ⟨w.heap.size, 0, none⟩) k k) k xs ∧ PxAt xs f k from ⟨xs, hown, unhide HX⟩)
      have HB := hide hb
      clear hb hown O HX
      go_wp2_with fail
      go_ret
      exact ⟨rfl, unhide hp, unhide HB⟩
theorem toPointS_any (f : Nat → Int × Int) (ao : Option Addr) (n cap : Nat) (hn : n ≤ 1048576) (w : World) (H : ∀ i, i < n → PtArg w ao i (f i)) :
    Calls Try.prog 88 #[.slice ao n cap] w fun r w' => r = .returned (.slice (some ⟨w.heap.size, 0, none⟩) n n) ∧ (∀ i, i < n → PtIn w' (some ⟨w.heap.size, 0, none⟩) i (f i)) ∧ Below w.heap.size w w' :=
  (toPointS_own f ao n cap hn w H).mono fun _ _ ⟨h1, ⟨_, h2, h3⟩, h4⟩ => ⟨h1, own_px h2 h3, h4⟩

set_option maxHeartbeats 4000000 in
set_option maxRecDepth 100000 in
theorem eqPointS_arg (f : Nat → Int × Int) (ao bo : Option Addr) (n cap cap' : Nat) (hn : n ≤ 1048576) (w : World) (HA : ∀ i, i < n → PtArg w ao i (f i)) (HB : ∀ i, i < n → PtArg w bo i (f i)) :
    Calls Try.prog 91 #[.slice ao n cap, .slice bo n cap'] w fun r w' => r = .returned (.bool true) ∧ Below w.heap.size w w' := by
  replace HA := hide HA
  replace HB := hide HB
  go_enter Try.func91, Try.ntmps91
  go_wp2_with fail
  go_loopw [5] (fun i u => ∃ k : Nat, k ≤ n ∧ i = .int .i64 k ∧ Below w.heap.size w u) (fun i _ => n - (intOf i).toNat)
  case atStart => exact ⟨0, Nat.zero_le _, rfl, Below.refl _ _⟩
  case round =>
    obtain ⟨k, hk, rfl, hb⟩ := hrel
    by_cases hlt : k < n
    · have HP := (unhide HA k hlt).next hb
      have HQ := (unhide HB k hlt).next hb
      generalize f k = p at HP HQ
      obtain ⟨x, y⟩ := p
      obtain ⟨s, o, rfl, g0, g1⟩ := HP
      obtain ⟨s', o', rfl, h0, h1⟩ := HQ
      dsimp only at g0 g1 h0 h1
      replace hb := hide hb
      have E := hide (eqPoint_same x y)
      go_wp2_with fail
      obtain ⟨I, F, hI, F1, F2⟩ := kept_worlds wr
      have a0 : ∀ i, (F i).cell? ⟨s, o + k * 2, none⟩ = some (.int .i64 x) := fun i => kc (F2 i) g0
      have a1 : ∀ i, (F i).cell? ⟨s, o + k * 2 + 1, none⟩ = some (.int .i64 y) := fun i => kc (F2 i) g1
      have b0 : ∀ i, (F i).cell? ⟨s', o' + k * 2, none⟩ = some (.int .i64 x) := fun i => kc (F2 i) h0
      have b1 : ∀ i, (F i).cell? ⟨s', o' + k * 2 + 1, none⟩ = some (.int .i64 y) := fun i => kc (F2 i) h1
      clear g0 g1 h0 h1
      replace F1 := hide F1
      replace F2 := hide F2
      refine wp_region_quiet_in (unhide F1) (by kernel_rfl) (by kernel_rfl) ?_
      repeat (go_big_quiet_step (with_reducible exact quiet_in (unhide F1) (unhide F2) (unhide E _)))
      refine wpQuiet_nil ?_
      rintro _ ⟨i, rfl⟩
      have hF := unhide F2 i
      clear F1 a0 a1 b0 b1
      go_wp2_with fail
      go_roundw
      case rel => exact ⟨k + 1, by omega, by go_num, below_two (unhide hb) hF⟩
      case measure => simp [intOf]; omega
    · have hke : k = n := by omega
      subst hke
      go_wp2_with fail
      go_ret
      exact ⟨rfl, hb⟩

theorem eqPointS_same (f : Nat → Int × Int) (ao bo : Option Addr) (n cap cap' : Nat) (hn : n ≤ 1048576) (w : World) (HA : ∀ i, i < n → PtIn w ao i (f i)) (HB : ∀ i, i < n → PtIn w bo i (f i)) :
    Calls Try.prog 91 #[.slice ao n cap, .slice bo n cap'] w fun r w' => r = .returned (.bool true) ∧ Below w.heap.size w w' :=
  eqPointS_arg f ao bo n cap cap' hn w (fun i hi => (HA i hi).arg) (fun i hi => (HB i hi).arg)
end Go.Proofs.Ytdbphpekhmlmdaa

/-
  The laws' own words on lists of numbers and on paths: handed over, measured, held against each other, marked and held.
-/
namespace Go.Proofs.Ytdbphpekhmlmdaa
open Go.RowKit

theorem Try.info3 : (Try.prog.info? 3).map (fun i => (i.zero, i.size, i.bytes)) = some (some (.int .i64 0), 1, 8) := by kernel_rfl

/-- Number i of a row of numbers, wherever it begins. -/
def IntAt (w : World) (a : Option Addr) (i : Nat) (z : Int) : Prop := ∃ s o, a = some ⟨s, o, none⟩ ∧ w.cell? ⟨s, o + i, none⟩ = some (.int .i64 z)
theorem IntAt.next {w w1 : World} {a : Option Addr} {i : Nat} {z : Int} (h : IntAt w a i z) (hb : Below w.heap.size w w1) : IntAt w1 a i z :=
  let ⟨s, o, h1, h2⟩ := h; ⟨s, o, h1, kc hb h2⟩
/-- The first k numbers of a row are those of G. -/
def IxAt (xs : List Value) (G : Nat → Int) (k : Nat) : Prop := ∀ j, j < k → xs[j]? = some (.int .i64 (G j))
theorem IxAt.step {xs : List Value} {G : Nat → Int} {k : Nat} (h : IxAt xs G k) (hk : k < xs.length) : IxAt (xs.set k (.int .i64 (G k))) G (k + 1) := by
  intro j hj
  by_cases hjk : j = k
  · subst hjk; simp [List.getElem?_set]; omega
  · rw [List.getElem?_set_ne (by omega)]; exact h j (by omega)
theorem own_at {w : World} {base t m n : Nat} {v : Value} {xs : List Value} (h : w.ownsRow base t m v n xs) (hn : 0 < n) : ∃ g cap, v = .slice (some ⟨g, 0, none⟩) n cap ∧ base ≤ g ∧ g < w.heap.size := by
  rcases h.2 with ⟨rfl, h0⟩ | ⟨g, cap, cur, rfl, h3, h4, h5, h6, _⟩
  · omega
  · exact ⟨g, cap, rfl, h3, (Array.getElem?_eq_some_iff.1 h4).1⟩
theorem own_form {w : World} {base t m n : Nat} {v : Value} {xs : List Value} (h : w.ownsRow base t m v n xs) : ∃ p cap, v = .slice p n cap := by
  rcases h.2 with ⟨rfl, rfl⟩ | ⟨g, cap, cur, rfl, _⟩
  · exact ⟨none, 0, rfl⟩
  · exact ⟨_, cap, rfl⟩
theorem own_ix {w : World} {base t n cap : Nat} {a : Option Addr} {xs : List Value} {G : Nat → Int} (h : w.ownsRow base t 1 (.slice a n cap) n xs) (hx : IxAt xs G n) : ∀ i, i < n → IntAt w a i (G i) := by
  intro i hi
  obtain ⟨g, c, e, _, _⟩ := own_at h (by omega)
  cases e
  refine ⟨g, 0, rfl, ?_⟩
  rw [Nat.zero_add, h.cellAt _ (by omega)]; exact hx i hi
theorem own_pxa {w : World} {base t n cap : Nat} {a : Option Addr} {xs : List Value} {G : Nat → Int × Int} (h : w.ownsRow base t 2 (.slice a n cap) n xs) (hx : PxAt xs G n) : ∀ i, i < n → PtArg w a i (G i) := by
  intro i hi
  obtain ⟨g, c, e, _, _⟩ := own_at h (by omega)
  cases e
  exact (own_px h hx i hi).arg

/-- Cells that were marked from k on. -/
def Ramp (xs : List Value) (k m : Nat) : Prop := ∀ j, j < m → xs[j]? = some (.int .i64 ((k + j : Nat) : Int))
theorem Ramp.step {xs : List Value} {k j : Nat} (h : Ramp xs k j) (hj : j < xs.length) : Ramp (xs.set j (.int .i64 ((k + j : Nat) : Int))) k (j + 1) := by
  intro i hi
  by_cases hij : i = j
  · subst hij; simp [List.getElem?_set]; omega
  · rw [List.getElem?_set_ne (by omega)]; exact h i (by omega)

theorem szIntS_any (ao : Option Addr) (n cap : Nat) (z : Int) (hz : 0 ≤ z ∧ z ≤ 1048576) (hm : n ≤ maxLen) (w : World) :
    Calls Try.prog 70 #[.slice ao n cap, .int .i64 z] w fun r w' => r = .returned (.int .i64 (if z < n then -1 else z - n)) ∧ w' = w := by
  have hw : IntKind.i64.wrap (z - (n : Int)) = z - n := IntWalk.i64_in _ (by unfold maxLen at hm; omega)
  by_cases hlt : z < n
  · have h0 : z - (n : Int) < 0 := by omega
    rw [if_pos hlt]
    go_enter Try.func70, Try.ntmps70
    go_wp2
    go_ret
    exact ⟨rfl, rfl⟩
  · have h0 : ¬ z - (n : Int) < 0 := by omega
    rw [if_neg hlt]
    go_enter Try.func70, Try.ntmps70
    go_wp2
    go_ret
    exact ⟨rfl, rfl⟩

set_option maxHeartbeats 1000000 in
theorem szPath_any (ao bo : Option Addr) (n c m d : Nat) (hn : n ≤ maxLen) (hm : m ≤ maxLen) (w : World) :
    Calls Try.prog 69 #[.agg #[.slice ao n c, .slice bo m d], .int .i64 1048576] w fun r w' => r = .returned (.int .i64 (if 1048576 < n + m then -1 else 1048576 - ((n : Int) + (m : Int)))) ∧ Below w.heap.size w w' := by
  have E0 := hide (szIntS_any ao n c 1048576 (by omega) hn)
  by_cases h1 : (1048576 : Int) < n
  · rw [if_pos h1] at E0
    rw [if_pos (by omega)]
    go_enter Try.func69, Try.ntmps69
    go_wp2_with fail
    go_fit (unhide E0 _)
    rintro r w1 ⟨rfl, rfl⟩
    go_wp2_with fail
    go_ret
    exact ⟨rfl, al1_below _ _⟩
  · rw [if_neg h1] at E0
    have E1 := hide (szPointS_any bo m d (1048576 - n) (by omega) hm)
    have hp : ¬ ((1048576 : Int) - n < 0) := by omega
    by_cases h2 : (1048576 : Int) - n < m
    · rw [if_pos h2] at E1
      rw [if_pos (by omega)]
      go_enter Try.func69, Try.ntmps69
      go_wp2_with fail
      go_fit (unhide E0 _)
      rintro r w1 ⟨rfl, rfl⟩
      go_wp2_with fail
      go_fit (unhide E1 _)
      rintro r w1 ⟨rfl, rfl⟩
      go_wp2_with fail
      go_ret
      exact ⟨rfl, al1_below _ _⟩
    · rw [if_neg h2] at E1
      rw [if_neg (by omega)]
      rw [show (1048576 : Int) - n - m = 1048576 - ((n : Int) + (m : Int)) by omega] at E1
      have hq : ¬ ((1048576 : Int) - ((n : Int) + (m : Int)) < 0) := by omega
      go_enter Try.func69, Try.ntmps69
      go_wp2_with fail
      go_fit (unhide E0 _)
      rintro r w1 ⟨rfl, rfl⟩
      go_wp2_with fail
      go_fit (unhide E1 _)
      rintro r w1 ⟨rfl, rfl⟩
      go_wp2_with fail
      go_ret
      exact ⟨rfl, al1_below _ _⟩

set_option maxHeartbeats 4000000 in
set_option maxRecDepth 100000 in
theorem toIntS_own (f : Nat → Int) (ao : Option Addr) (n cap : Nat) (hn : n ≤ 1048576) (w : World) (H : ∀ i, i < n → IntAt w ao i (f i)) :
    Calls Try.prog 73 #[.slice ao n cap] w fun r w' => r = .returned (.slice (some ⟨w.heap.size, 0, none⟩) n n) ∧ (∃ xs, w'.ownsRow w.heap.size 3 1 (.slice (some ⟨w.heap.size, 0, none⟩) n n) n xs ∧ IxAt xs f n) ∧ Below w.heap.size w w' := by
  obtain ⟨i0, hi, hz0, hz1, hz2⟩ := info_parts Try.info3
  have HH := hide H
  clear H
  go_enter Try.func73, Try.ntmps73
  go_wp2_with (at_make; go_must (refine wpList_make_full w rfl _ _ 30 rfl w.heap.size 3 i0 (.int .i64 0) 1 Try.underlying30 hi hz0 hz1 .i64 .i64 _ _ n (by rfl) (by rfl) (by omega) (by omega) (by rw [hz2]; omega) (by unfold maxLen; omega) (Nat.le_refl _) ?_); intro w1 hown1 hg1)
  have B1 : Below w.heap.size w w1 := (Below.refl _ w).grown hg1 (Nat.le_refl _) (by simp)
  clear hg1
  go_loopw [4] (fun i u => ∃ (k : Nat) (xs : List Value), k ≤ n ∧ i = .int .i64 k ∧ u.ownsRow w.heap.size 3 1 (.slice (some ⟨w.heap.size, 0, none⟩) n n) n xs ∧ Hid (IxAt xs f k) ∧ Below w.heap.size w u) (fun i _ => n - (intOf i).toNat)
  case atStart => exact ⟨0, _, Nat.zero_le _, rfl, hown1, fun j hj => absurd hj (by omega), B1⟩
  case round =>
    obtain ⟨k, xs, hk, rfl, hown, HX, hb⟩ := hrel
    clear hown1 B1
    have O := hide hown
    by_cases hlt : k < n
    · have HP := (unhide HH k hlt).next hb
      have hlen : k < xs.length := by have := hown.1; omega
      have hst := hide ((unhide HX).step hlen)
      generalize f k = z at HP hst
      obtain ⟨s, o, rfl, g0⟩ := HP
      have HB := hide hb
      have c0 : wr.cell? ⟨w.heap.size, k, none⟩ = some xs[k] := by rw [hown.cellAt _ (by omega)]; exact List.getElem?_eq_getElem _
      have f0 := hown.frozenAt k
      clear hb hown
      go_wp2_with fail
      go_roundw
      case rel => exact ⟨k + 1, _, by omega, by go_num, ((unhide O).stored _ _).1, hst, (unhide HB).setCell (p := ⟨w.heap.size, k, none⟩) (Nat.le_refl _) _⟩
      case measure => simp [intOf]; omega
    · have hke : k = n := by omega
      subst hke
      have hp := hide (show ∃ xs, wr.ownsRow w.heap.size 3 1 (.slice (some ⟨w.heap.size, 0, none⟩) k k) k xs ∧ IxAt xs f k from ⟨xs, hown, unhide HX⟩)
      have HB := hide hb
      clear hb hown O HX
      go_wp2_with fail
      go_ret
      exact ⟨rfl, unhide hp, unhide HB⟩

set_option maxHeartbeats 4000000 in
set_option maxRecDepth 100000 in
theorem eqIntS_arg (f : Nat → Int) (ao bo : Option Addr) (n cap cap' : Nat) (hn : n ≤ 1048576) (w : World) (HA : ∀ i, i < n → IntAt w ao i (f i)) (HB : ∀ i, i < n → IntAt w bo i (f i)) :
    Calls Try.prog 76 #[.slice ao n cap, .slice bo n cap'] w fun r w' => r = .returned (.bool true) ∧ Below w.heap.size w w' := by
  replace HA := hide HA
  replace HB := hide HB
  go_enter Try.func76, Try.ntmps76
  go_wp2_with fail
  go_loopw [5] (fun i u => ∃ k : Nat, k ≤ n ∧ i = .int .i64 k ∧ Below w.heap.size w u) (fun i _ => n - (intOf i).toNat)
  case atStart => exact ⟨0, Nat.zero_le _, rfl, Below.refl _ _⟩
  case round =>
    obtain ⟨k, hk, rfl, hb⟩ := hrel
    by_cases hlt : k < n
    · have HP := (unhide HA k hlt).next hb
      have HQ := (unhide HB k hlt).next hb
      generalize f k = z at HP HQ
      obtain ⟨s, o, rfl, g0⟩ := HP
      obtain ⟨s', o', rfl, h0⟩ := HQ
      replace hb := hide hb
      go_wp2_with fail
      obtain ⟨I, F, hI, F1, F2⟩ := kept_worlds wr
      have a0 : ∀ i, (F i).cell? ⟨s, o + k, none⟩ = some (.int .i64 z) := fun i => kc (F2 i) g0
      have b0 : ∀ i, (F i).cell? ⟨s', o' + k, none⟩ = some (.int .i64 z) := fun i => kc (F2 i) h0
      clear g0 h0
      replace F1 := hide F1
      replace F2 := hide F2
      refine wp_region_quiet_in (unhide F1) (by kernel_rfl) (by kernel_rfl) ?_
      repeat (go_big_quiet_step (fail))
      refine wpQuiet_nil ?_
      rintro _ ⟨i, rfl⟩
      have hF := unhide F2 i
      clear F1 a0 b0
      go_wp2_with fail
      go_roundw
      case rel => exact ⟨k + 1, by omega, by go_num, below_two (unhide hb) hF⟩
      case measure => simp [intOf]; omega
    · have hke : k = n := by omega
      subst hke
      go_wp2_with fail
      go_ret
      exact ⟨rfl, hb⟩

/-- A path that a call owns: two rows that lie apart. -/
structure OwnPath (w : World) (base : Nat) (v1 v2 : Value) (n m : Nat) (xs ys : List Value) : Prop where
  one : w.ownsRow base 3 1 v1 n xs
  two : w.ownsRow base 37 2 v2 m ys
  apart : v1.ownBlock = none ∨ v1.ownBlock ≠ v2.ownBlock
theorem OwnPath.next {w w' : World} {base n m : Nat} {v1 v2 : Value} {xs ys : List Value} (h : OwnPath w base v1 v2 n m xs ys) (hb : Below w.heap.size w w') : OwnPath w' base v1 v2 n m xs ys := ⟨own_below h.one hb, own_below h.two hb, h.apart⟩
theorem OwnPath.drews {w : World} {base n m : Nat} {v1 v2 : Value} {xs ys : List Value} (h : OwnPath w base v1 v2 n m xs ys) (k : Nat) : OwnPath (w.drewN k) base v1 v2 n m xs ys := ⟨own_drews h.one k, own_drews h.two k, h.apart⟩
theorem OwnPath.form {w : World} {base n m : Nat} {v1 v2 : Value} {xs ys : List Value} (h : OwnPath w base v1 v2 n m xs ys) : ∃ a c b d, v1 = .slice a n c ∧ v2 = .slice b m d := by
  obtain ⟨a, c, h1⟩ := own_form h.one
  obtain ⟨b, d, h2⟩ := own_form h.two
  exact ⟨a, c, b, d, h1, h2⟩

/-- The blocks that a path of the call's own has are all that changed. -/
def Only (w w' : World) (v1 v2 : Value) : Prop := ∃ u, w.grownBy u v1.ownBlock ∧ u.grownBy w' v2.ownBlock
theorem Only.own {w w' : World} {v1 v2 v : Value} (h : Only w w' v1 v2) {base e s n : Nat} {zs : List Value} (hv : w.ownsRow base e s v n zs) (a1 : v.ownBlock = none ∨ v.ownBlock ≠ v1.ownBlock) (a2 : v.ownBlock = none ∨ v.ownBlock ≠ v2.ownBlock) : w'.ownsRow base e s v n zs := by
  obtain ⟨u, h1, h2⟩ := h
  exact (hv.kept h1 a1).kept h2 a2
theorem Only.path {w w' : World} {v1 v2 u1 u2 : Value} (h : Only w w' v1 v2) {base n m : Nat} {xs ys : List Value} (hv : OwnPath w base u1 u2 n m xs ys) (a11 : u1.ownBlock = none ∨ u1.ownBlock ≠ v1.ownBlock) (a12 : u1.ownBlock = none ∨ u1.ownBlock ≠ v2.ownBlock) (a21 : u2.ownBlock = none ∨ u2.ownBlock ≠ v1.ownBlock) (a22 : u2.ownBlock = none ∨ u2.ownBlock ≠ v2.ownBlock) : OwnPath w' base u1 u2 n m xs ys :=
  ⟨h.own hv.one a11 a12, h.own hv.two a21 a22, hv.apart⟩
theorem Only.below {w w' w0 : World} {v1 v2 : Value} (h : Only w w' v1 v2) {B base n m : Nat} {xs ys : List Value} (hv : OwnPath w base v1 v2 n m xs ys) (hB : B ≤ base) (hs : B ≤ w.heap.size) (hb : Below B w0 w) : Below B w0 w' := by
  obtain ⟨u, h1, h2⟩ := h
  have b1 : Below B w0 u := hb.grown h1 hs (fun k hk => Nat.le_trans hB (hv.one.lt k hk).1)
  exact b1.grown h2 (Nat.le_trans hs h1.size) (fun k hk => Nat.le_trans hB (hv.two.lt k hk).1)
theorem Only.row {w w' : World} {v1 v2 : Value} (h : Only w w' v1 v2) {b : Nat} {o : Obj} (hr : w.heap[b]? = some o) (a1 : some b ≠ v1.ownBlock) (a2 : some b ≠ v2.ownBlock) : w'.heap[b]? = some o := by
  obtain ⟨u, h1, h2⟩ := h
  have hlt := heap_lt hr
  rw [h2.block b (Nat.lt_of_lt_of_le hlt h1.size) a2, h1.block b hlt a1, hr]
/-- Rows of two calls lie apart. -/
theorem far_apart {w1 w2 : World} {b0 e0 s0 n0 B e1 s1 n1 : Nat} {v0 v1 : Value} {xs ys : List Value} (h0 : w1.ownsRow b0 e0 s0 v0 n0 xs) (h1 : w2.ownsRow B e1 s1 v1 n1 ys) (hB : w1.heap.size ≤ B) : v0.ownBlock = none ∨ v0.ownBlock ≠ v1.ownBlock := by
  cases hk : v0.ownBlock with
  | none => exact .inl rfl
  | some k =>
    refine .inr fun he => ?_
    have a := (h0.lt k hk).2
    have b := (h1.lt k he.symm).1
    omega
theorem far_apart' {w1 w2 : World} {b0 e0 s0 n0 B e1 s1 n1 : Nat} {v0 v1 : Value} {xs ys : List Value} (h0 : w1.ownsRow b0 e0 s0 v0 n0 xs) (h1 : w2.ownsRow B e1 s1 v1 n1 ys) (hB : w1.heap.size ≤ B) : v1.ownBlock = none ∨ v1.ownBlock ≠ v0.ownBlock := by
  rcases far_apart h0 h1 hB with h | h
  · cases hk : v1.ownBlock with
    | none => exact .inl rfl
    | some k => exact .inr (by rw [h]; simp)
  · exact .inr fun e => h e.symm

theorem apart_symm {a b : Option Nat} (h : a = none ∨ a ≠ b) : b = none ∨ b ≠ a := by
  rcases h with h | h
  · cases b with
    | none => exact .inl rfl
    | some k => exact .inr (by rw [h]; simp)
  · exact .inr fun e => h e.symm

set_option maxHeartbeats 1000000 in
theorem eqPath_same (vf : Nat → Int) (pf : Nat → Int × Int) (a a' b b' : Option Addr) (n c c' m d d' : Nat) (hn : n ≤ 1048576) (hm : m ≤ 1048576) (w : World)
    (V : ∀ i, i < n → IntAt w a i (vf i)) (V' : ∀ i, i < n → IntAt w a' i (vf i)) (P : ∀ i, i < m → PtArg w b i (pf i)) (P' : ∀ i, i < m → PtArg w b' i (pf i)) :
    Calls Try.prog 75 #[.agg #[.slice a n c, .slice b m d], .agg #[.slice a' n c', .slice b' m d']] w fun r w' => r = .returned (.bool true) ∧ Below w.heap.size w w' := by
  have E1 := hide (fun u => eqIntS_arg vf a a' n c c' hn u)
  have E2 := hide (fun u => eqPointS_arg pf b b' m d d' hm u)
  replace V := hide V
  replace V' := hide V'
  replace P := hide P
  replace P' := hide P'
  go_enter Try.func75, Try.ntmps75
  go_wp2_with fail
  obtain ⟨W, hW⟩ : ∃ W, W = (w.alloc (.cells #[.slice a n c, .slice b m d] 33)).alloc (.cells #[.slice a' n c', .slice b' m d'] 33) := ⟨_, rfl⟩
  have HB := hide (show Below w.heap.size w W by rw [hW]; exact al2_below _ _ _)
  have R1 := hide (show W.heap[w.heap.size]? = some (.cells #[.slice a n c, .slice b m d] 33 (0, 0)) by rw [hW]; exact al2_0 _ _ _)
  have R2 := hide (show W.heap[w.heap.size + 1]? = some (.cells #[.slice a' n c', .slice b' m d'] 33 (0, 0)) by rw [hW]; exact al2_1 _ _ _)
  rw [← hW]
  clear hW
  go_fit (unhide E1 _ (fun i hi => (unhide V i hi).next (unhide HB)) (fun i hi => (unhide V' i hi).next (unhide HB)))
  rintro r w1 ⟨rfl, hb⟩
  replace HB := hide (below_two (unhide HB) hb)
  obtain ⟨r0, r1⟩ := row2 (row_next hb (unhide R1))
  obtain ⟨q0, q1⟩ := row2 (row_next hb (unhide R2))
  clear hb R1 R2 E1 V V'
  go_wp2_with fail
  go_fit (unhide E2 _ (fun i hi => (unhide P i hi).next (unhide HB)) (fun i hi => (unhide P' i hi).next (unhide HB)))
  rintro r w2 ⟨rfl, hb⟩
  replace HB := hide (below_two (unhide HB) hb)
  clear hb r0 r1 q0 q1
  go_wp2_with fail
  go_ret
  exact ⟨rfl, unhide HB⟩

theorem set2_0 {u : World} {b : Nat} {x0 x1 v : Value} {t : TypeId} (h : u.heap[b]? = some (.cells #[x0, x1] t (0, 0))) : (u.setCell ⟨b, 0, none⟩ v).heap[b]? = some (.cells #[v, x1] t (0, 0)) := by
  simp [World.setCell, Array.getElem?_modify, h]
theorem set2_1 {u : World} {b : Nat} {x0 x1 v : Value} {t : TypeId} (h : u.heap[b]? = some (.cells #[x0, x1] t (0, 0))) : (u.setCell ⟨b, 1, none⟩ v).heap[b]? = some (.cells #[x0, v] t (0, 0)) := by
  simp [World.setCell, Array.getElem?_modify, h]
theorem setc_grown (w : World) (g j : Nat) (u : Value) : w.grownBy (w.setCell ⟨g, j, none⟩ u) (some g) :=
  ⟨rfl, rfl, rfl, by simp [World.setCell], fun k _ hk => by simp [World.setCell, Array.getElem?_modify]; intro e; exact absurd (by rw [e]) hk⟩
theorem own_setc {w : World} {base e s n g j : Nat} {v u : Value} {xs : List Value} (h : w.ownsRow base e s v n xs) (hg : g < base) : (w.setCell ⟨g, j, none⟩ u).ownsRow base e s v n xs :=
  h.kept (setc_grown w g j u) (by
    cases hk : v.ownBlock with
    | none => exact .inl rfl
    | some k => exact .inr fun e => by have := (h.lt k hk).1; cases e; omega)

set_option maxHeartbeats 1000000 in
theorem toPath_own (vf : Nat → Int) (pf : Nat → Int × Int) (a b : Option Addr) (n c m d : Nat) (hn : n ≤ 1048576) (hm : m ≤ 1048576) (w : World)
    (V : ∀ i, i < n → IntAt w a i (vf i)) (P : ∀ i, i < m → PtArg w b i (pf i)) :
    Calls Try.prog 72 #[.agg #[.slice a n c, .slice b m d]] w fun r w' => ∃ s t xs ys, r = .returned (.agg #[.slice (some ⟨s, 0, none⟩) n n, .slice (some ⟨t, 0, none⟩) m m]) ∧ OwnPath w' w.heap.size (.slice (some ⟨s, 0, none⟩) n n) (.slice (some ⟨t, 0, none⟩) m m) n m xs ys ∧ IxAt xs vf n ∧ PxAt ys pf m ∧ Below w.heap.size w w' := by
  have E1 := hide (fun u => toIntS_own vf a n c hn u)
  have E2 := hide (fun u => toPointS_own pf b m d hm u)
  replace V := hide V
  replace P := hide P
  go_enter Try.func72, Try.ntmps72
  go_wp2_with fail
  obtain ⟨W, hW⟩ : ∃ W, W = ((w.alloc (.cells #[.slice a n c, .slice b m d] 88)).alloc (.cells #[.slice none 0 0, .slice none 0 0] 33)).alloc (.cells #[.slice none 0 0, .slice none 0 0] 33) := ⟨_, rfl⟩
  have HB := hide (show Below w.heap.size w W by rw [hW]; exact al3_below _ _ _ _)
  have R0 := hide (show W.heap[w.heap.size]? = some (.cells #[.slice a n c, .slice b m d] 88 (0, 0)) by rw [hW]; exact al3_0 _ _ _ _)
  have R1 := hide (show W.heap[w.heap.size + 1]? = some (.cells #[.slice none 0 0, .slice none 0 0] 33 (0, 0)) by rw [hW]; exact al3_1 _ _ _ _)
  have R2 := hide (show W.heap[w.heap.size + 1 + 1]? = some (.cells #[.slice none 0 0, .slice none 0 0] 33 (0, 0)) by rw [hW]; exact al3_2 _ _ _ _)
  have hsz := hide (show W.heap.size = w.heap.size + 3 by rw [hW]; exact al3_size _ _ _ _)
  rw [← hW]
  clear hW
  go_fit (unhide E1 _ (fun i hi => (unhide V i hi).next (unhide HB)))
  rintro r w1 ⟨rfl, ⟨xs, o1, x1⟩, hb⟩
  replace HB := hide (below_two (unhide HB) hb)
  replace R0 := hide (row_next hb (unhide R0))
  replace R1 := hide (row_next hb (unhide R1))
  replace R2 := hide (row_next hb (unhide R2))
  have O1 := hide (own_low o1 (show w.heap.size + 3 ≤ W.heap.size by rw [unhide hsz]; omega))
  have ls := hide (show W.heap.size < w1.heap.size from (o1.lt W.heap.size rfl).2)
  replace x1 := hide x1
  clear hb o1 E1 V
  obtain ⟨f0, f1⟩ := free2 (unhide R2)
  obtain ⟨c0, c1⟩ := row2 (unhide R2)
  obtain ⟨q0, q1⟩ := row2 (setc_other (b := w.heap.size + 1 + 1) (j := 0) (v := .slice (some ⟨W.heap.size, 0, none⟩) n n) (by omega) (unhide R0))
  go_wp2_with fail
  clear f0 f1 c0 c1 q0 q1
  obtain ⟨W1, hW1⟩ : ∃ W1, W1 = w1.setCell ⟨w.heap.size + 1 + 1, 0, none⟩ (.slice (some ⟨W.heap.size, 0, none⟩) n n) := ⟨_, rfl⟩
  replace R1 := hide (show W1.heap[w.heap.size + 1]? = some (.cells #[.slice none 0 0, .slice none 0 0] 33 (0, 0)) by rw [hW1]; exact setc_other (by omega) (unhide R1))
  replace R2 := hide (show W1.heap[w.heap.size + 1 + 1]? = some (.cells #[.slice (some ⟨W.heap.size, 0, none⟩) n n, .slice none 0 0] 33 (0, 0)) by rw [hW1]; exact set2_0 (unhide R2))
  replace O1 := hide (show W1.ownsRow (w.heap.size + 3) 3 1 (.slice (some ⟨W.heap.size, 0, none⟩) n n) n xs by rw [hW1]; exact own_setc (unhide O1) (by omega))
  replace HB := hide (show Below w.heap.size w W1 by rw [hW1]; exact (unhide HB).setCell (p := ⟨w.heap.size + 1 + 1, 0, none⟩) (by dsimp only; omega) _)
  replace ls := hide (show W.heap.size < W1.heap.size by rw [hW1]; simp [World.setCell]; exact unhide ls)
  rw [← hW1]
  clear hW1 R0
  go_fit (unhide E2 _ (fun i hi => (unhide P i hi).next (unhide HB)))
  rintro r w2 ⟨rfl, ⟨ys, o2, y2⟩, hb⟩
  replace HB := hide (below_two (unhide HB) hb)
  replace R1 := hide (row_next hb (unhide R1))
  replace R2 := hide (row_next hb (unhide R2))
  replace O1 := hide (own_below (unhide O1) hb)
  have O2 := hide (own_low o2 (show w.heap.size + 3 ≤ W1.heap.size by have := unhide ls; rw [unhide hsz] at this; omega))
  replace y2 := hide y2
  have ap := hide (show (Value.slice (some ⟨W.heap.size, 0, none⟩) n n).ownBlock = none ∨ (Value.slice (some ⟨W.heap.size, 0, none⟩) n n).ownBlock ≠ (Value.slice (some ⟨W1.heap.size, 0, none⟩) m m).ownBlock from .inr (fun e => by have h0 : some W.heap.size = some W1.heap.size := e; have h1 := Option.some.inj h0; have := unhide ls; omega))
  clear hb o2 E2 P ls hsz
  generalize W1.heap.size = t at O2 ap
  generalize W.heap.size = s at O1 ap R2
  obtain ⟨f0, f1⟩ := free2 (unhide R2)
  obtain ⟨c0, c1⟩ := row2 (unhide R2)
  obtain ⟨d0, d1⟩ := row2 (set2_1 (v := .slice (some ⟨t, 0, none⟩) m m) (unhide R2))
  obtain ⟨e0, e1⟩ := free2 (setc_other (b := w.heap.size + 1 + 1) (j := 1) (v := .slice (some ⟨t, 0, none⟩) m m) (by omega) (unhide R1))
  obtain ⟨k0, k1⟩ := row2 (setc_other (b := w.heap.size + 1 + 1) (j := 1) (v := .slice (some ⟨t, 0, none⟩) m m) (by omega) (unhide R1))
  go_wp2_with fail
  refine bodyPost_ret (v := .agg #[.slice (some ⟨s, 0, none⟩) n n, .slice (some ⟨t, 0, none⟩) m m]) (by simp [results, Try.results72, go_sem, k0, k1]) rfl ⟨s, t, xs, ys, rfl, ⟨?_, ?_, unhide ap⟩, unhide x1, unhide y2, ?_⟩
  · exact own_low (own_setc (own_setc (own_setc (unhide O1) (by omega)) (by omega)) (by omega)) (by omega)
  · exact own_low (own_setc (own_setc (own_setc (unhide O2) (by omega)) (by omega)) (by omega)) (by omega)
  · exact below_put2 ((unhide HB).setCell (p := ⟨w.heap.size + 1 + 1, 1, none⟩) (by dsimp only; omega) _) (by omega) _ _
end Go.Proofs.Ytdbphpekhmlmdaa
