/-
  Kit · Words · Base · Fixed · FixS · Kit2 · PlaceS · Agg · ApplyS · ComposeS · DivI · FixI · NearM · PlaceI · TurnI · ApplyI · ComposeI · ComposeA · BoxS · JoinS · RowSet · JoinN · PaintP · PaintS: texts of one claim, in one.
-/
import Derived.WalkKit
import Derived.Test.YtdbphpekhmlmdaaRows
import Derived.WalkSpells
import Derived.Deep.QuietTactic
import Derived.WalkSmall
import Derived.Laws.Rows
import Derived.BigQuiet
import Derived.Deep.RegionHeld3
import Derived.Laws.StructEq
import Derived.KernelRfl
import Derived.Deep.DeepFit
import Derived.Deep.DeepCutAuto

/-
  Small laws that know nothing of the program: bytes that a call has gathered in a slice of its own, and what 'string(b)' makes of them.
-/
namespace Go.Proofs.Ytdbphpekhmlmdaa
open Go.RowKit

theorem hide {p : Prop} (h : p) : Hid p := h
theorem unhide {p : Prop} (h : Hid p) : p := h

/-- A byte as a value. -/
def Bv (b : UInt8) : Value := .int .u8 (b.toNat : Int)

theorem Bv_one (l : List UInt8) : ∀ u ∈ l.map Bv, u.oneCell' = true := by
  intro u hu
  obtain ⟨b, _, rfl⟩ := List.mem_map.1 hu
  rfl

theorem one_byte {q : Int} {b : UInt8} (h : q = (b.toNat : Int)) : #[Value.int .u8 q].toList = [b].map Bv := by subst h; rfl
theorem two_bytes {q r : Int} {b c : UInt8} (h : q = (b.toNat : Int)) (k : r = (c.toNat : Int)) : #[Value.int .u8 q, Value.int .u8 r].toList = [b, c].map Bv := by subst h; subst k; rfl

theorem ret_str {a b : List UInt8} (h : a = b) : Ending.returned (.string ⟨a.toArray⟩) = .returned (.string ⟨b.toArray⟩) := by rw [h]
theorem ret_str_ok {a b : List UInt8} {c d : Bool} (h : a = b) (k : c = d) : Ending.returned (.tuple #[.string ⟨a.toArray⟩, .bool c]) = .returned (.tuple #[.string ⟨b.toArray⟩, .bool d]) := by rw [h, k]

/-- 'string(b)' where b owns the bytes l. -/
theorem run_string_owned {P : Program} {w : World} {base n : Nat} {src dst e : TypeId} {v : Value} {l : List UInt8}
    (hs : P.underlying src = some (.slice e)) (he : P.underlying e = some (.int .u8)) (hd : P.underlying dst = some .string)
    (h : w.ownsRow base e 1 v n (l.map Bv)) : (convert src dst v).run P w = .ok (.string ⟨l.toArray⟩) w := by
  have hn : l.length = n := by have := h.1; simpa using this
  subst hn
  rcases h.2 with ⟨rfl, h0⟩ | ⟨g, cap, cur, rfl, _, hg, _, _, _, _⟩
  · have : l = [] := List.eq_nil_of_length_eq_zero h0
    subst this
    rw [run_convert_bytes_nil w src e hs he 0 0 dst hd]
    rfl
  · refine run_convert_bytes_back w src dst e ⟨g, 0, none⟩ cap l hs he hd fun j hj => ?_
    exact h.cells (g := g) rfl j _ (by simp [Bv, hj])

/-- An append's own row is above the old heap. -/
theorem grown_below {B base : Nat} {e : TypeId} {size n : Nat} {v : Value} {xs : List Value} {w0 w w' : World} (hb : Below B w0 w) (hB : B ≤ base) (h : w.ownsRow base e size v n xs) (hg : w.grownBy w' v.ownBlock) (hs : B ≤ w.heap.size) : Below B w0 w' :=
  hb.grown hg hs fun k hk => Nat.le_trans hB (h.lt k hk).1

/-- 'out = append(out, x, ..)' of bytes onto a slice of the call's own: the bytes that are appended lie in a new block. -/
theorem wpList_append_bytes {P : Program} {ops : Array Oper} {rest : List Oper} {o : Oper} {a : Act} {Q : Exit → Act → World → Prop} (wr : World) (hgd : o.guard = none) (s x : Operand) (t e : TypeId)
    (ho : o.op = .call { callee := .builtin .append, args := #[s, x], argTypes := #[t, t] })
    (base : Nat) (i : TypeInfo) (ht : P.underlying t = some (.slice e)) (hi : P.info? e = some i) (hz : i.zero = some (.int .u8 0)) (hsize : i.size = 1) (hby : i.bytes = 1)
    (v : Value) (l : List UInt8) (hs : a.eval s = v) (hown : wr.ownsRow base e 1 v l.length (l.map Bv))
    (cs : Array Value) (bs : List UInt8) (hcs : cs.toList = bs.map Bv) (m c : Nat) (hm : m = bs.length) (hx : a.eval x = .slice (some ⟨wr.heap.size, 0, none⟩) m c)
    (hlen : l.length + bs.length ≤ 140737488355328) (w0 : World) (B : Nat) (hB : B ≤ base) (hbase : base ≤ wr.heap.size) (hnx : Below B w0 wr)
    (h : ∀ v' w', w'.ownsRow base e 1 v' (l ++ bs).length ((l ++ bs).map Bv) → Below B w0 w' → wpList P ops Q rest (a.put o.dst v') w') :
    wpList P ops Q (o :: rest) a (wr.alloc (.cells cs e)) := by
  subst hm
  refine wpList_append_own (wr.alloc (.cells cs e)) hgd s x t ho base e i (.int .u8 0) 1 1 ht hi hz hsize hby rfl (by decide) v l.length (l.map Bv) hs (hown.alloc _) ⟨wr.heap.size, 0, none⟩ bs.length c (bs.map Bv) hx (by simp) ?_ (Bv_one bs) (by unfold maxLen; omega) (by omega) (by simp; omega) ?_
  · intro j u hj
    have hadd : (⟨wr.heap.size, 0, none⟩ : Addr).add j = ⟨wr.heap.size, j, none⟩ := by unfold Addr.add; split <;> simp_all
    rw [hadd]
    have := World.cell?_alloc_mark wr cs e (0, 0) j
    rw [this, ← hj, ← hcs]
    simp
  · intro v' w' ho' hg _
    refine h v' w' (by simpa using ho') ?_
    exact grown_below (hnx.alloc (by omega) _) hB (hown.alloc _) hg (by simp; omega)

/-- The same as one step of a region that draws its order. -/
theorem step_append_bytes {P : Program} {ops : Array Oper} {o : Oper} {a : Act} {w : World} {K : Act → World → Prop} {Q : Exit → Act → World → Prop} {E : Prop} (hg : o.guard = none) (s x : Operand) (t e : TypeId)
    (hop : o.op = .call { callee := .builtin .append, args := #[s, x], argTypes := #[t, t] })
    (base : Nat) (i : TypeInfo) (ht : P.underlying t = some (.slice e)) (hi : P.info? e = some i) (hz : i.zero = some (.int .u8 0)) (hsize : i.size = 1) (hby : i.bytes = 1)
    (v : Value) (l : List UInt8) (hs : a.eval s = v) (hown : w.ownsRow base e 1 v l.length (l.map Bv))
    (ad : Addr) (bs : List UInt8) (m c : Nat) (hm : m = bs.length) (hx : a.eval x = .slice (some ad) m c) (hc : ∀ j u, (bs.map Bv)[j]? = some u → w.cell? (ad.add j) = some u)
    (hlen : l.length + bs.length ≤ 140737488355328) (w0 : World) (B : Nat) (hB : B ≤ base) (hbase : base ≤ w.heap.size) (hnx : Below B w0 w)
    (hK : ∀ v' w', w'.ownsRow base e 1 v' (l ++ bs).length ((l ++ bs).map Bv) → Below B w0 w' → K (a.put o.dst v') w') :
    if Region.wanted o (yielded ops a.tmps) = true then Oper.wp P o a w K Q else E := by
  have hw : Region.wanted o (yielded ops a.tmps) = true := by simp [Region.wanted, hg]
  rw [if_pos hw]
  subst hm
  refine wp_append_own w s x t hop base e i (.int .u8 0) 1 1 ht hi hz hsize hby rfl (by decide) v l.length (l.map Bv) hs hown ad bs.length c (bs.map Bv) hx (by simp) hc (Bv_one bs) (by unfold maxLen; omega) (by omega) hbase ?_
  intro v' w' ho' hg' _
  exact hK v' w' (by simpa using ho') (grown_below hnx hB hown hg' (by omega))

theorem cells_new2 {w : World} {e : TypeId} {p q : Value} : ∀ j u, ([p, q] : List Value)[j]? = some u → (w.alloc (.cells #[p, q] e)).cell? ((⟨w.heap.size, 0, none⟩ : Addr).add j) = some u := by
  intro j u hj
  have hadd : (⟨w.heap.size, 0, none⟩ : Addr).add j = ⟨w.heap.size, j, none⟩ := by unfold Addr.add; split <;> simp_all
  rw [hadd, World.cell?_alloc_mark, ← hj]
  simp

theorem cells_new2' {w : World} {e : TypeId} {p q : Value} {bs : List UInt8} (h : bs.map Bv = [p, q]) : ∀ j u, (bs.map Bv)[j]? = some u → (w.alloc (.cells #[p, q] e)).cell? ((⟨w.heap.size, 0, none⟩ : Addr).add j) = some u := by
  rw [h]
  exact cells_new2

theorem below_undrew {w w' : World} (h : Below w.drew.heap.size w.drew w') : Below w.heap.size w w' := (Below.drew (Below.refl w.heap.size w)).trans h

end Go.Proofs.Ytdbphpekhmlmdaa

/-
  The plain side of chapter 1: numbers as bytes, no Go in sight.
-/
namespace Go.Proofs.Ytdbphpekhmlmdaa

theorem ofNat_toNat (k : Nat) (h : k < 256) : (UInt8.ofNat k).toNat = k := by
  rw [UInt8.toNat_ofNat']
  exact Nat.mod_eq_of_lt h

/-- A number in groups of seven bits, at most f + 1 of them. -/
def varF : Nat → Nat → List UInt8
  | 0, n => [UInt8.ofNat n]
  | f + 1, n => if n ≤ 127 then [UInt8.ofNat n] else UInt8.ofNat (n % 128 + 128) :: varF f (n / 128)

def lim : Nat → Nat
  | 0 => 128
  | f + 1 => 128 * lim f

theorem varF_small (f n : Nat) (h : n ≤ 127) : varF f n = [UInt8.ofNat n] := by
  cases f with
  | zero => rfl
  | succ f => simp [varF, h]

theorem varF_step (f n : Nat) (h : ¬ n ≤ 127) : varF (f + 1) n = UInt8.ofNat (n % 128 + 128) :: varF f (n / 128) := by
  simp [varF, h]

theorem varF_len (f n : Nat) : (varF f n).length ≤ f + 1 := by
  induction f generalizing n with
  | zero => simp [varF]
  | succ f ih => unfold varF; split <;> simp; exact ih _

/-- What bytes read as, seven bits a byte, the least first. -/
def val : List UInt8 → Nat
  | [] => 0
  | b :: l => b.toNat % 128 + 128 * val l

def pw : Nat → Nat
  | 0 => 1
  | k + 1 => 128 * pw k

theorem val_snoc (l : List UInt8) (b : UInt8) : val (l ++ [b]) = val l + b.toNat % 128 * pw l.length := by
  induction l with
  | nil => simp [val, pw]
  | cons c l ih =>
    simp only [List.cons_append, val, ih, List.length_cons, pw]
    have e : b.toNat % 128 * (128 * pw l.length) = 128 * (b.toNat % 128 * pw l.length) := by
      rw [← Nat.mul_assoc, ← Nat.mul_assoc, Nat.mul_comm (b.toNat % 128) 128]
    rw [e]
    omega

theorem val_lt (l : List UInt8) : val l < pw l.length := by
  induction l with
  | nil => simp [val, pw]
  | cons c l ih => simp only [val, List.length_cons, pw]; omega

/-- What a number's bytes are when its last is none that could be left out. -/
theorem varF_val (l : List UInt8) (b : UInt8) (f : Nat) (hl : ∀ c ∈ l, 128 ≤ c.toNat) (hb : b.toNat ≤ 127) (hz : l = [] ∨ b.toNat ≠ 0) (hf : l.length ≤ f) :
    varF f (val (l ++ [b])) = l ++ [b] := by
  induction l generalizing f with
  | nil =>
    have : val ([] ++ [b]) = b.toNat := by simp [val]; omega
    rw [this, varF_small f _ hb]
    simp
  | cons c l ih =>
    have hc := hl c (by simp)
    have hc2 : c.toNat < 256 := c.toNat_lt
    cases f with
    | zero => simp at hf
    | succ f =>
      have hpos : 0 < val (l ++ [b]) := by
        have hb0 : b.toNat ≠ 0 := by rcases hz with h | h; · cases h
                                     · exact h
        rw [val_snoc]
        have : 0 < pw l.length := by have := val_lt l; omega
        have : 0 < b.toNat % 128 * pw l.length := Nat.mul_pos (by omega) this
        omega
      have hb0 : b.toNat ≠ 0 := by rcases hz with h | h; · cases h
                                   · exact h
      show varF (f + 1) (c.toNat % 128 + 128 * val (l ++ [b])) = _
      rw [varF_step f _ (by omega)]
      have e1 : (c.toNat % 128 + 128 * val (l ++ [b])) % 128 + 128 = c.toNat := by omega
      have e2 : (c.toNat % 128 + 128 * val (l ++ [b])) / 128 = val (l ++ [b]) := by omega
      rw [e1, e2, ih f (fun d hd => hl d (by simp [hd])) (.inr hb0) (by simpa using hf)]
      simp

theorem varF_nval (l : List UInt8) (f : Nat) (h0 : l ≠ []) (b : UInt8) (hb : b.toNat = 0) : varF f (val (l ++ [b])) ≠ l ++ [b] := by
  induction l generalizing f with
  | nil => exact absurd rfl h0
  | cons c l ih =>
    intro he
    show False
    have hv : val (c :: l ++ [b]) = c.toNat % 128 + 128 * val (l ++ [b]) := rfl
    rw [hv] at he
    by_cases hs : c.toNat % 128 + 128 * val (l ++ [b]) ≤ 127
    · rw [varF_small f _ hs] at he
      have := congrArg List.length he
      simp at this
    · cases f with
      | zero =>
        have := congrArg List.length he
        simp [varF] at this
      | succ f =>
        rw [varF_step f _ hs] at he
        have e2 : (c.toNat % 128 + 128 * val (l ++ [b])) / 128 = val (l ++ [b]) := by omega
        rw [e2] at he
        have ht : varF f (val (l ++ [b])) = l ++ [b] := by
          have := congrArg List.tail he
          simpa using this
        by_cases hl : l = []
        · subst hl
          apply hs
          simp [val, hb]
          omega
        · exact ih f hl ht

/-- A number is read: fuel, what is read so far, how many bytes, what is left: the number and how many bytes it took. -/
def rdF : Nat → Nat → Nat → List UInt8 → Option (Nat × Nat)
  | 0, _, _, _ => none
  | _ + 1, _, _, [] => none
  | f + 1, n, k, b :: l =>
    if 127 < b.toNat then rdF f (n + b.toNat % 128 * pw k) (k + 1) l
    else if (b.toNat = 0 ∧ 0 < k) ∨ 1000000000 < n + b.toNat % 128 * pw k then none
    else some (n + b.toNat % 128 * pw k, k + 1)

def rdV (s : ByteArray) (a : Nat) : Option (Nat × Nat) := rdF 5 0 0 (s.data.toList.drop a)

theorem drop_at (s : ByteArray) (j : Nat) (h : j < s.size) : s.data.toList.drop j = s[j] :: s.data.toList.drop (j + 1) := by
  rw [List.drop_eq_getElem_cons (by simpa using h)]
  rfl

theorem pw_le (k : Nat) (h : k ≤ 4) : pw k ≤ 268435456 := by
  match k, h with
  | 0, _ => decide
  | 1, _ => decide
  | 2, _ => decide
  | 3, _ => decide
  | 4, _ => decide

/-- Where a reading stands behind k bytes. -/
structure RdAt (s : ByteArray) (a j k nn uu : Nat) : Prop where
  le : k ≤ 5
  at_ : j = a + k
  in_ : j ≤ s.size
  unit : uu = pw k
  num : nn = val ((s.data.toList.drop a).take k)
  high : ∀ b ∈ (s.data.toList.drop a).take k, 128 ≤ b.toNat
  rest : rdF (5 - k) nn k (s.data.toList.drop j) = rdV s a

theorem RdAt.start {s : ByteArray} {a : Nat} (h : a ≤ s.size) : RdAt s a a 0 0 1 :=
  ⟨by omega, rfl, h, rfl, by simp [val], by simp, rfl⟩

theorem RdAt.len {s : ByteArray} {a j k nn uu : Nat} (h : RdAt s a j k nn uu) : ((s.data.toList.drop a).take k).length = k := by
  have h1 := h.at_; have h2 := h.in_
  have : s.data.toList.length = s.size := rfl
  rw [List.length_take, List.length_drop, this]
  omega

theorem RdAt.bd {s : ByteArray} {a j k nn uu : Nat} (h : RdAt s a j k nn uu) (hk : k < 5) : nn < 268435456 ∧ uu ≤ 268435456 ∧ 1 ≤ uu := by
  have h1 := val_lt ((s.data.toList.drop a).take k)
  rw [h.len, ← h.num, ← h.unit] at h1
  have h2 := pw_le k (by omega)
  rw [← h.unit] at h2
  omega

theorem RdAt.big {s : ByteArray} {a j k nn uu : Nat} (h : RdAt s a j k nn uu) : (k < 5 ↔ uu ≤ 1000000000) := by
  constructor
  · intro hk; have := (h.bd hk).2.1; omega
  · intro hu
    have h5 := h.le
    by_cases hk : k = 5
    · have hp : pw 5 = 34359738368 := by decide
      have hu5 := h.unit
      rw [hk, hp] at hu5
      omega
    · omega

theorem take_snoc' (l : List UInt8) (k : Nat) (h : k < l.length) : l.take (k + 1) = l.take k ++ [l[k]] := by
  rw [List.take_succ_eq_append_getElem h]

theorem RdAt.take {s : ByteArray} {a j k nn uu : Nat} (h : RdAt s a j k nn uu) (hj : j < s.size) : (s.data.toList.drop a).take (k + 1) = (s.data.toList.drop a).take k ++ [s[j]] := by
  have hl : k < (s.data.toList.drop a).length := by
    have h1 := h.at_
    have : s.data.toList.length = s.size := rfl
    rw [List.length_drop, this]; omega
  rw [take_snoc' _ k hl]
  congr 2
  rw [List.getElem_drop]
  have h1 := h.at_
  subst h1
  rfl

theorem RdAt.num' {s : ByteArray} {a j k nn uu : Nat} (h : RdAt s a j k nn uu) (hj : j < s.size) : nn + s[j].toNat % 128 * uu = val ((s.data.toList.drop a).take k ++ [s[j]]) := by
  rw [val_snoc, h.len, ← h.num, ← h.unit]

theorem RdAt.step {s : ByteArray} {a j k nn uu : Nat} (h : RdAt s a j k nn uu) (hj : j < s.size) (hk : k < 5) (hb : 127 < s[j].toNat) :
    RdAt s a (j + 1) (k + 1) (nn + s[j].toNat % 128 * uu) (uu * 128) := by
  refine ⟨by omega, by have := h.at_; omega, by omega, by rw [h.unit, Nat.mul_comm]; rfl, ?_, ?_, ?_⟩
  · rw [h.take hj]; exact h.num' hj
  · rw [h.take hj]
    intro b hb'
    rcases List.mem_append.1 hb' with h1 | h1
    · exact h.high b h1
    · simp at h1; subst h1; omega
  · have hr := h.rest
    rw [drop_at s j hj] at hr
    obtain ⟨f, hf⟩ : ∃ f, 5 - k = f + 1 := ⟨5 - k - 1, by omega⟩
    rw [hf] at hr
    have hf' : 5 - (k + 1) = f := by omega
    rw [hf', ← hr]
    simp only [rdF, if_pos hb, h.unit]

theorem RdAt.none_end {s : ByteArray} {a j k nn uu : Nat} (h : RdAt s a j k nn uu) (he : s.size ≤ j ∨ ¬ k < 5) : rdV s a = none := by
  rw [← h.rest]
  by_cases hk : k < 5
  · have hj : s.size ≤ j := by rcases he with h | h; · exact h
                               · exact absurd hk h
    have : s.data.toList.length = s.size := rfl
    rw [List.drop_of_length_le (by omega)]
    obtain ⟨f, hf⟩ : ∃ f, 5 - k = f + 1 := ⟨5 - k - 1, by omega⟩
    rw [hf]
    rfl
  · have := h.le
    have : 5 - k = 0 := by omega
    rw [this]
    rfl

theorem RdAt.last {s : ByteArray} {a j k nn uu : Nat} (h : RdAt s a j k nn uu) (hj : j < s.size) (hk : k < 5) (hb : ¬ 127 < s[j].toNat) :
    rdV s a = if (s[j].toNat = 0 ∧ 0 < k) ∨ 1000000000 < nn + s[j].toNat % 128 * uu then none else some (nn + s[j].toNat % 128 * uu, k + 1) := by
  have hr := h.rest
  rw [drop_at s j hj] at hr
  obtain ⟨f, hf⟩ : ∃ f, 5 - k = f + 1 := ⟨5 - k - 1, by omega⟩
  rw [hf] at hr
  rw [← hr]
  simp only [rdF, if_neg hb, h.unit]

/-- What is written of the number is what was read: just where no byte could be left out. -/
theorem RdAt.back {s : ByteArray} {a j k nn uu : Nat} (h : RdAt s a j k nn uu) (hj : j < s.size) (hk : k < 5) (hb : ¬ 127 < s[j].toNat) :
    (varF 4 (nn + s[j].toNat % 128 * uu) = (s.data.toList.drop a).take (k + 1)) ↔ ¬ (s[j].toNat = 0 ∧ 0 < k) := by
  rw [h.num' hj, h.take hj]
  have hl := h.len
  constructor
  · intro he hn
    refine varF_nval _ 4 ?_ _ hn.1 he
    intro h0
    rw [h0] at hl
    simp at hl
    omega
  · intro hn
    refine varF_val _ _ 4 h.high (by omega) ?_ (by omega)
    by_cases h0 : s[j].toNat = 0
    · left
      have : k = 0 := by
        by_cases hk0 : 0 < k
        · exact absurd ⟨h0, hk0⟩ hn
        · omega
      exact List.eq_nil_of_length_eq_zero (by omega)
    · exact .inr h0

theorem rdF_bd (f n k : Nat) (l : List UInt8) (m q : Nat) (h : rdF f n k l = some (m, q)) : m ≤ 1000000000 ∧ k < q ∧ q ≤ k + l.length := by
  induction f generalizing n k l with
  | zero => simp [rdF] at h
  | succ f ih =>
    cases l with
    | nil => simp [rdF] at h
    | cons b l =>
      simp only [rdF] at h
      split at h
      · have := ih _ _ _ h
        simp only [List.length_cons]
        omega
      · split at h
        · cases h
        · rename_i hn
          simp only [Option.some.injEq, Prod.mk.injEq] at h
          simp only [List.length_cons]
          omega

theorem rdV_bd {s : ByteArray} {a m q : Nat} (ha : a ≤ s.size) (h : rdV s a = some (m, q)) : m ≤ 1000000000 ∧ 0 < q ∧ a + q ≤ s.size := by
  have := rdF_bd _ _ _ _ _ _ h
  have hl : s.data.toList.length = s.size := rfl
  rw [List.length_drop, hl] at this
  omega

end Go.Proofs.Ytdbphpekhmlmdaa

/-
  What every walk of this seat leans on: the row of the type of bytes.
-/
namespace Go.Proofs.Ytdbphpekhmlmdaa
open Go.RowKit

theorem Try.info5 : (Try.prog.info? 5).map (fun i => (i.zero, i.size, i.bytes)) = some (some (.int .u8 0), 1, 1) := by kernel_rfl

theorem ret_u8 {a b : Int} (h : a = b) : Ending.returned (.int .u8 a) = .returned (.int .u8 b) := by rw [h]
theorem ret_i64 {a b : Int} (h : a = b) : Ending.returned (.int .i64 a) = .returned (.int .i64 b) := by rw [h]
end Go.Proofs.Ytdbphpekhmlmdaa

/-
  The plain side of chapter 3: quotients, roots, numbers between two; no Go in sight.
-/
namespace Go.Proofs.Ytdbphpekhmlmdaa

def fdivI (a b : Int) : Int := if b < 1 then 0 else a / b
def rdivI (a b : Int) : Int := if b < 1 then 0 else if b - a % b ≤ a % b then a / b + 1 else a / b
def clampI (x low high : Int) : Int := if x < low then low else if high < x then high else x
def t255I (a b : Int) : Int := rdivI (clampI a 0 255 * clampI b 0 255) 255

theorem tmod_bd (a b : Int) (hb : 1 ≤ b) : -b < a.tmod b ∧ a.tmod b < b := by
  have h1 := Int.lt_tmod_of_pos a (by omega : 0 < b)
  have h2 := Int.tmod_lt_of_pos a (by omega : 0 < b)
  exact ⟨h1, h2⟩

theorem floor_neg (a b : Int) (hb : 1 ≤ b) (h : a.tmod b < 0) : a / b = a.tdiv b - 1 := by
  have e := Int.mul_tdiv_add_tmod a b
  have bd := tmod_bd a b hb
  have := (Int.ediv_emod_unique (a := a) (b := b) (r := a.tmod b + b) (q := a.tdiv b - 1) (by omega)).2 ⟨by rw [Int.mul_sub]; omega, by omega, by omega⟩
  exact this.1
theorem floor_pos (a b : Int) (hb : 1 ≤ b) (h : ¬ a.tmod b < 0) : a / b = a.tdiv b := by
  have e := Int.mul_tdiv_add_tmod a b
  have bd := tmod_bd a b hb
  have := (Int.ediv_emod_unique (a := a) (b := b) (r := a.tmod b) (q := a.tdiv b) (by omega)).2 ⟨by omega, by omega, by omega⟩
  exact this.1

theorem floor_fit {a b : Int} (hb : 1 ≤ b) (h0 : -9223372036854775808 ≤ a) (h1 : a ≤ 9223372036854775807) : -9223372036854775808 ≤ a / b ∧ a / b ≤ 9223372036854775807 := by
  constructor
  · have h := Int.ediv_le_ediv (by omega : 0 < b) h0
    have k : -9223372036854775808 ≤ (-9223372036854775808 : Int) / b := by
      rw [Int.le_ediv_iff_mul_le (by omega)]
      have : (1 : Int) * 9223372036854775808 ≤ b * 9223372036854775808 := Int.mul_le_mul_of_nonneg_right hb (by decide)
      rw [Int.mul_comm]
      omega
    omega
  · have h := Int.ediv_le_ediv (by omega : 0 < b) h1
    have k : (9223372036854775807 : Int) / b ≤ 9223372036854775807 := Int.ediv_le_self _ (by decide)
    omega

theorem emod_bd (a b : Int) (hb : 1 ≤ b) : 0 ≤ a % b ∧ a % b < b := ⟨Int.emod_nonneg _ (by omega), Int.emod_lt_of_pos _ (by omega)⟩

/-- What is left of a division, though the product may pass what an int holds. -/
theorem rest_wrap (a b : Int) (hb : 1 ≤ b) (hb2 : b ≤ 9223372036854775807) : RowKit.wrap64 (a - RowKit.wrap64 (a / b * b)) = a % b := by
  have e := Int.mul_ediv_add_emod a b
  have bd := emod_bd a b hb
  have e2 : a / b * b = a - a % b := by rw [Int.mul_comm]; omega
  rw [e2]
  unfold RowKit.wrap64
  omega

/-- The root of n. -/
structure IsRoot (n s : Int) : Prop where
  pos : 0 ≤ s
  le : s ≤ 3037000499
  sq : s * s ≤ n
  next : n < (s + 1) * (s + 1)

theorem sq_mono {a b : Int} (h0 : 0 ≤ a) (h : a ≤ b) : a * a ≤ b * b := Int.mul_le_mul h h h0 (by omega)

theorem IsRoot.unique {n s t : Int} (h : IsRoot n s) (k : IsRoot n t) : s = t := by
  by_cases h1 : s < t
  · have := sq_mono (a := s + 1) (b := t) (by have := h.pos; omega) (by omega)
    have a := h.next; have b := k.sq; omega
  · by_cases h2 : t < s
    · have := sq_mono (a := t + 1) (b := s) (by have := k.pos; omega) (by omega)
      have a := k.next; have b := h.sq; omega
    · omega

theorem rdiv_fit {a b : Int} (hb : 1 ≤ b) (h0 : -9223372036854775808 ≤ a) (h1 : a ≤ 9223372036854775807) (hr : b - a % b ≤ a % b) : a / b + 1 ≤ 9223372036854775807 := by
  have hf := floor_fit hb h0 h1
  by_cases h2 : b = 1
  · subst h2
    have := emod_bd a 1 (by omega)
    omega
  · have e := Int.mul_ediv_add_emod a b
    have bd := emod_bd a b hb
    by_cases hp : a / b ≤ 9223372036854775806
    · omega
    · have : (2 : Int) * (a / b) ≤ b * (a / b) := Int.mul_le_mul_of_nonneg_right (by omega) (by omega)
      omega

end Go.Proofs.Ytdbphpekhmlmdaa

/-
  The walks of the specification's chapter 3.
-/
namespace Go.Proofs.Ytdbphpekhmlmdaa
open Go.RowKit

theorem specFloorDiv_any (a b : Int) (a0 : -9223372036854775808 ≤ a) (a1 : a ≤ 9223372036854775807) (w : World) :
    Calls Try.prog 62 #[.int .i64 a, .int .i64 b] w fun e w' => e = .returned (.int .i64 (fdivI a b)) ∧ w' = w := by
  by_cases hb : b < 1
  · have H : Hid (0 = fdivI a b) := by unfold Hid fdivI; rw [if_pos hb]
    go_enter Try.func62, Try.ntmps62
    go_wp2
    go_ret
    exact ⟨ret_i64 (unhide H), rfl⟩
  · have hb1 : 1 ≤ b := by omega
    have hb2 : (b == 0) = false := beq_eq_false_iff_ne.2 (by omega)
    by_cases hr : a.tmod b < 0
    · have H : Hid (a.tdiv b - 1 = fdivI a b) := by unfold Hid fdivI; rw [if_neg hb, floor_neg a b hb1 hr]
      have hf := floor_fit hb1 a0 a1
      rw [floor_neg a b hb1 hr] at hf
      obtain ⟨f1, f2⟩ := hf
      go_enter Try.func62, Try.ntmps62
      go_wp2
      go_ret
      exact ⟨ret_i64 (unhide H), rfl⟩
    · have H : Hid (a.tdiv b = fdivI a b) := by unfold Hid fdivI; rw [if_neg hb, floor_pos a b hb1 hr]
      go_enter Try.func62, Try.ntmps62
      go_wp2
      go_ret
      exact ⟨ret_i64 (unhide H), rfl⟩

set_option maxHeartbeats 1000000 in
theorem specRoundDiv_any (a b : Int) (a0 : -9223372036854775808 ≤ a) (a1 : a ≤ 9223372036854775807) (b1 : b ≤ 9223372036854775807) (w : World) :
    Calls Try.prog 39 #[.int .i64 a, .int .i64 b] w fun e w' => e = .returned (.int .i64 (rdivI a b)) ∧ w' = w := by
  by_cases hb : b < 1
  · have H : Hid (0 = rdivI a b) := by unfold Hid rdivI; rw [if_pos hb]
    go_enter Try.func39, Try.ntmps39
    go_wp2
    go_ret
    exact ⟨ret_i64 (unhide H), rfl⟩
  · have hb1 : 1 ≤ b := by omega
    have hF := specFloorDiv_any a b a0 a1
    have e1 : fdivI a b = a / b := by unfold fdivI; rw [if_neg hb]
    rw [e1] at hF
    have hf := floor_fit hb1 a0 a1
    have hw := rest_wrap a b hb1 b1
    have bd := emod_bd a b hb1
    have hfit := @rdiv_fit a b hb1 a0 a1
    have e2 : rdivI a b = if b - a % b ≤ a % b then a / b + 1 else a / b := by unfold rdivI; rw [if_neg hb]
    obtain ⟨q, hq⟩ : ∃ q, q = a / b := ⟨_, rfl⟩
    obtain ⟨r, hr⟩ : ∃ r, r = a % b := ⟨_, rfl⟩
    rw [← hq] at hF hf hw hfit e2
    rw [← hr] at hw bd hfit e2
    have HE := hide e2
    have HF := hide hF
    obtain ⟨f1, f2⟩ := hf
    obtain ⟨r1, r2⟩ := bd
    clear hF e1 e2 hq hr hb
    by_cases hc : b - r ≤ r
    · have H : Hid (q + 1 = rdivI a b) := by unfold Hid; rw [unhide HE, if_pos hc]
      have f3 := hfit hc
      clear hfit
      go_enter Try.func39, Try.ntmps39
      go_wp2_with (go_at_call 62; go_must (refine (unhide HF _).mono ?_); rintro e w1 ⟨rfl, rfl⟩)
      go_ret
      exact ⟨ret_i64 (unhide H), rfl⟩
    · have H : Hid (q = rdivI a b) := by unfold Hid; rw [unhide HE, if_neg hc]
      clear hfit
      go_enter Try.func39, Try.ntmps39
      go_wp2_with (go_at_call 62; go_must (refine (unhide HF _).mono ?_); rintro e w1 ⟨rfl, rfl⟩)
      go_ret
      exact ⟨ret_i64 (unhide H), rfl⟩

theorem clamp255 (x : Int) : 0 ≤ clampI x 0 255 ∧ clampI x 0 255 ≤ 255 := by unfold clampI; split <;> (try split) <;> omega
theorem prod255 {x y : Int} (h1 : 0 ≤ x ∧ x ≤ 255) (h2 : 0 ≤ y ∧ y ≤ 255) : 0 ≤ x * y ∧ x * y ≤ 65025 := ⟨Int.mul_nonneg h1.1 h2.1, by have := Int.mul_le_mul h1.2 h2.2 h2.1 (by decide); omega⟩

end Go.Proofs.Ytdbphpekhmlmdaa

/-
  Small laws that know nothing of the program: slices of one-cell elements that a call owns, carried over what other calls do.
-/
namespace Go.Proofs.Ytdbphpekhmlmdaa
open Go.RowKit

theorem grown_of_below {w w' : World} (h : Below w.heap.size w w') (row : Option Nat) : w.grownBy w' row := ⟨h.os, h.tape, h.output, h.size, fun k hk _ => h.block k hk⟩
theorem below_of_grown {B : Nat} {w w' : World} {row : Option Nat} (h : w.grownBy w' row) (hB : B ≤ w.heap.size) (hr : ∀ k, row = some k → B ≤ k) : Below B w w' := (Below.refl B w).grown h hB hr
theorem grown_trans {w a b : World} {row : Option Nat} (h : w.grownBy a row) (k : a.grownBy b row) : w.grownBy b row :=
  ⟨k.os.trans h.os, k.tape.trans h.tape, k.output.trans h.output, Nat.le_trans h.size k.size, fun i hi hn => (k.block i (Nat.lt_of_lt_of_le hi h.size) hn).trans (h.block i hi hn)⟩

/-- An owned row while other calls make memory of their own. -/
theorem own_below {w w' : World} {base e size n : Nat} {v : Value} {xs : List Value} (h : w.ownsRow base e size v n xs) (hb : Below w.heap.size w w') : w'.ownsRow base e size v n xs :=
  h.kept (grown_of_below hb none) (by cases v.ownBlock <;> simp)
theorem own_low {w : World} {base base' e size n : Nat} {v : Value} {xs : List Value} (h : w.ownsRow base e size v n xs) (hb : base' ≤ base) : w.ownsRow base' e size v n xs := by
  refine ⟨h.1, ?_⟩
  rcases h.2 with h2 | ⟨g, cap, cur, rfl, h3, h4⟩
  · exact .inl h2
  · exact .inr ⟨g, cap, cur, rfl, Nat.le_trans hb h3, h4⟩

/-- The form of an owned row of one-cell elements. -/
theorem row_form {w : World} {base e n : Nat} {v : Value} {xs : List Value} (h : w.ownsRow base e 1 v n xs) : ∃ p cap, v = .slice p n cap ∧ n ≤ cap ∧ cap ≤ maxLen ∧ xs.length = n ∧
    (0 < n → ∃ g, p = some ⟨g, 0, none⟩ ∧ base ≤ g ∧ g < w.heap.size) := by
  have hl : xs.length = n := by have := h.1; omega
  rcases h.2 with ⟨rfl, rfl⟩ | ⟨g, cap, cur, rfl, h3, h4, h5, h6, _⟩
  · exact ⟨none, 0, rfl, Nat.le_refl _, Nat.zero_le _, hl, fun h => absurd h (by omega)⟩
  · exact ⟨_, cap, rfl, h5, h6, hl, fun _ => ⟨g, rfl, h3, (Array.getElem?_eq_some_iff.1 h4).1⟩⟩

/-- 'out = append(out, x, ..)' of one-cell elements onto a slice of the call's own. -/
theorem wpList_append_vals {P : Program} {ops : Array Oper} {rest : List Oper} {o : Oper} {a : Act} {Q : Exit → Act → World → Prop} (wr : World) (hgd : o.guard = none) (s x : Operand) (t e : TypeId)
    (ho : o.op = .call { callee := .builtin .append, args := #[s, x], argTypes := #[t, t] })
    (base : Nat) (i : TypeInfo) (z : Value) (bytes : Nat) (ht : P.underlying t = some (.slice e)) (hi : P.info? e = some i) (hz : i.zero = some z) (hsize : i.size = 1) (hby : i.bytes = bytes) (hz1 : z.cells.size = 1)
    (v : Value) (xs : List Value) (hs : a.eval s = v) (hown : wr.ownsRow base e 1 v xs.length xs)
    (cs : Array Value) (h1 : ∀ u ∈ cs.toList, u.oneCell' = true) (m c : Nat) (hm : m = cs.size) (hx : a.eval x = .slice (some ⟨wr.heap.size, 0, none⟩) m c)
    (h63 : xs.length + cs.size ≤ maxLen) (hlen : (xs.length + cs.size) * bytes ≤ 140737488355328) (w0 : World) (B : Nat) (hB : B ≤ base) (hbase : base ≤ wr.heap.size) (hnx : Below B w0 wr)
    (h : ∀ v' w', w'.ownsRow base e 1 v' (xs ++ cs.toList).length (xs ++ cs.toList) → Below B w0 w' → wpList P ops Q rest (a.put o.dst v') w') :
    wpList P ops Q (o :: rest) a (wr.alloc (.cells cs e)) := by
  subst hm
  refine wpList_append_own (wr.alloc (.cells cs e)) hgd s x t ho base e i z 1 bytes ht hi hz hsize hby hz1 (by decide) v xs.length xs hs (hown.alloc _) ⟨wr.heap.size, 0, none⟩ cs.size c cs.toList hx (by simp) ?_ h1 h63 hlen (by simp; omega) ?_
  · intro j u hj
    have hadd : (⟨wr.heap.size, 0, none⟩ : Addr).add j = ⟨wr.heap.size, j, none⟩ := by unfold Addr.add; split <;> simp_all
    rw [hadd, World.cell?_alloc_mark wr cs e (0, 0) j, ← hj]
    simp
  · intro v' w' ho' hg _
    refine h v' w' (by simpa using ho') ?_
    exact grown_below (hnx.alloc (by omega) _) hB (hown.alloc _) hg (by simp; omega)

theorem own_drews {w : World} {base e size n : Nat} {v : Value} {xs : List Value} (h : w.ownsRow base e size v n xs) (k : Nat) : (w.drewN k).ownsRow base e size v n xs := h
theorem below_drews {B : Nat} {a w : World} (h : Below B a w) (n : Nat) : Below B a (w.drewN n) := h.trans ⟨rfl, rfl, rfl, Nat.le_refl _, fun _ _ => rfl⟩
/-- What one call owned, and what a later call owns, lie apart. -/
theorem own_apart {w1 w2 : World} {b0 e0 s0 n0 e1 s1 n1 : Nat} {v0 v1 : Value} {xs ys : List Value} (h0 : w1.ownsRow b0 e0 s0 v0 n0 xs) (h1 : w2.ownsRow w1.heap.size e1 s1 v1 n1 ys) : v0.ownBlock = none ∨ v0.ownBlock ≠ v1.ownBlock := by
  cases hk : v0.ownBlock with
  | none => exact .inl rfl
  | some k =>
    refine .inr fun he => ?_
    have a := (h0.lt k hk).2
    have b := (h1.lt k he.symm).1
    omega

/-- A text as a value. -/
def Sv (l : List UInt8) : Value := .string ⟨l.toArray⟩
theorem Sv_one (l : List (List UInt8)) : ∀ u ∈ l.map Sv, u.oneCell' = true := by
  intro u hu
  obtain ⟨b, _, rfl⟩ := List.mem_map.1 hu
  rfl

theorem below_two {w a b : World} (h : Below w.heap.size w a) (k : Below a.heap.size a b) : Below w.heap.size w b := h.trans (k.mono h.size)

end Go.Proofs.Ytdbphpekhmlmdaa

/-
  The walks of the specification's chapter 4: points and mats.
-/
namespace Go.Proofs.Ytdbphpekhmlmdaa
open Go.RowKit

def inB (x a b : Int) : Bool := decide (a ≤ x) && decide (x ≤ b)
def pointOkB (x y : Int) : Bool := inB x (-8388608) 8388608 && inB y (-8388608) 8388608
def matOkB (a b c d e f : Int) : Bool := inB a (-1048576) 1048576 && (inB b (-1048576) 1048576 && (inB c (-1048576) 1048576 && (inB d (-1048576) 1048576 && (inB e (-8388608) 8388608 && inB f (-8388608) 8388608))))

theorem inB_true {x a b : Int} : inB x a b = true ↔ a ≤ x ∧ x ≤ b := by simp [inB]

theorem ret_bool {a b : Bool} (h : a = b) : Ending.returned (.bool a) = .returned (.bool b) := by rw [h]

theorem l01In_any (x a b : Int) (w : World) :
    Calls Try.prog 37 #[.int .i64 x, .int .i64 a, .int .i64 b] w fun e w' => e = .returned (.bool (inB x a b)) ∧ w' = w := by
  by_cases h1 : a ≤ x
  · by_cases h2 : x ≤ b
    · have H : Hid (true = inB x a b) := by unfold Hid; rw [inB_true.2 ⟨h1, h2⟩]
      have d1 : decide (a ≤ x) = true := decide_eq_true h1
      have d2 : decide (x ≤ b) = true := decide_eq_true h2
      go_enter Try.func37, Try.ntmps37
      go_wp2
      go_ret
      exact ⟨ret_bool (unhide H), rfl⟩
    · have H : Hid (false = inB x a b) := by unfold Hid; simp [inB, h2]
      have d1 : decide (a ≤ x) = true := decide_eq_true h1
      have d2 : decide (x ≤ b) = false := decide_eq_false h2
      go_enter Try.func37, Try.ntmps37
      go_wp2
      go_ret
      exact ⟨ret_bool (unhide H), rfl⟩
  · have H : Hid (false = inB x a b) := by unfold Hid; simp [inB, h1]
    have d1 : decide (a ≤ x) = false := decide_eq_false h1
    go_enter Try.func37, Try.ntmps37
    go_wp2
    go_ret
    exact ⟨ret_bool (unhide H), rfl⟩

set_option maxHeartbeats 1000000 in
theorem specPointOk_any (x y : Int) (w : World) :
    Calls Try.prog 83 #[.agg #[.int .i64 x, .int .i64 y]] w fun e w' => e = .returned (.bool (pointOkB x y)) ∧ Below w.heap.size w w' := by
  have HX := hide (l01In_any x (-8388608) 8388608)
  have HY := hide (l01In_any y (-8388608) 8388608)
  have H : Hid ((inB x (-8388608) 8388608 && inB y (-8388608) 8388608) = pointOkB x y) := rfl
  obtain ⟨p, hp⟩ : ∃ p, p = inB x (-8388608) 8388608 := ⟨_, rfl⟩
  obtain ⟨q, hq⟩ : ∃ q, q = inB y (-8388608) 8388608 := ⟨_, rfl⟩
  rw [← hp] at HX H
  rw [← hq] at HY H
  clear hp hq
  cases p
  · go_enter Try.func83, Try.ntmps83
    go_wp2_with fail
    refine (unhide HX _).mono ?_
    rintro e w1 ⟨rfl, rfl⟩
    go_wp2_with fail
    go_ret
    exact ⟨ret_bool (unhide H), (Below.refl _ _).alloc (Nat.le_refl _) _⟩
  · go_enter Try.func83, Try.ntmps83
    go_wp2_with fail
    refine (unhide HX _).mono ?_
    rintro e w1 ⟨rfl, rfl⟩
    go_wp2_with fail
    refine (unhide HY _).mono ?_
    rintro e w2 ⟨rfl, rfl⟩
    go_wp2_with fail
    go_ret
    exact ⟨ret_bool (unhide H), (Below.refl _ _).alloc (Nat.le_refl _) _⟩

set_option maxHeartbeats 1000000 in
set_option maxRecDepth 100000 in
theorem specMatOk_any (a b c d e f : Int) (w : World) :
    Calls Try.prog 38 #[.agg #[.int .i64 a, .int .i64 b, .int .i64 c, .int .i64 d, .int .i64 e, .int .i64 f]] w fun r w' => r = .returned (.bool (matOkB a b c d e f)) ∧ Below w.heap.size w w' := by
  have HA := hide (l01In_any a (-1048576) 1048576)
  have HB := hide (l01In_any b (-1048576) 1048576)
  have HC := hide (l01In_any c (-1048576) 1048576)
  have HD := hide (l01In_any d (-1048576) 1048576)
  have HE := hide (l01In_any e (-8388608) 8388608)
  have HF := hide (l01In_any f (-8388608) 8388608)
  have H : Hid ((inB a (-1048576) 1048576 && (inB b (-1048576) 1048576 && (inB c (-1048576) 1048576 && (inB d (-1048576) 1048576 && (inB e (-8388608) 8388608 && inB f (-8388608) 8388608))))) = matOkB a b c d e f) := rfl
  generalize inB a (-1048576) 1048576 = pa at HA H
  generalize inB b (-1048576) 1048576 = pb at HB H
  generalize inB c (-1048576) 1048576 = pc at HC H
  generalize inB d (-1048576) 1048576 = pd at HD H
  generalize inB e (-8388608) 8388608 = pe at HE H
  generalize inB f (-8388608) 8388608 = pf at HF H
  go_enter Try.func38, Try.ntmps38
  go_wp2_with fail
  refine (unhide HA _).mono ?_
  rintro r w1 ⟨rfl, rfl⟩
  cases pa
  · go_wp2_with fail
    go_ret
    exact ⟨ret_bool (unhide H), (Below.refl _ _).alloc (Nat.le_refl _) _⟩
  go_wp2_with fail
  refine (unhide HB _).mono ?_
  rintro r w1 ⟨rfl, rfl⟩
  cases pb
  · go_wp2_with fail
    go_ret
    exact ⟨ret_bool (unhide H), (Below.refl _ _).alloc (Nat.le_refl _) _⟩
  go_wp2_with fail
  refine (unhide HC _).mono ?_
  rintro r w1 ⟨rfl, rfl⟩
  cases pc
  · go_wp2_with fail
    go_ret
    exact ⟨ret_bool (unhide H), (Below.refl _ _).alloc (Nat.le_refl _) _⟩
  go_wp2_with fail
  refine (unhide HD _).mono ?_
  rintro r w1 ⟨rfl, rfl⟩
  cases pd
  · go_wp2_with fail
    go_ret
    exact ⟨ret_bool (unhide H), (Below.refl _ _).alloc (Nat.le_refl _) _⟩
  go_wp2_with fail
  refine (unhide HE _).mono ?_
  rintro r w1 ⟨rfl, rfl⟩
  cases pe
  · go_wp2_with fail
    go_ret
    exact ⟨ret_bool (unhide H), (Below.refl _ _).alloc (Nat.le_refl _) _⟩
  go_wp2_with fail
  refine (unhide HF _).mono ?_
  rintro r w1 ⟨rfl, rfl⟩
  go_wp2_with fail
  go_ret
  exact ⟨ret_bool (unhide H), (Below.refl _ _).alloc (Nat.le_refl _) _⟩

theorem specShift_any (x y : Int) (w : World) :
    Calls Try.prog 78 #[.int .i64 x, .int .i64 y] w fun r w' => r = .returned (.agg #[.int .i64 65536, .int .i64 0, .int .i64 0, .int .i64 65536, .int .i64 x, .int .i64 y]) ∧ Below w.heap.size w w' := by
  go_enter Try.func78, Try.ntmps78
  go_wp2
  refine bodyPost_ret (v := .agg #[.int .i64 65536, .int .i64 0, .int .i64 0, .int .i64 65536, .int .i64 x, .int .i64 y]) (by simp [results, Try.results78, go_sem]) rfl ⟨rfl, ?_⟩
  exact (Below.refl _ _).alloc (Nat.le_refl _) _

theorem specStill_any (w : World) :
    Calls Try.prog 22 #[] w fun r w' => r = .returned (.agg #[.int .i64 65536, .int .i64 0, .int .i64 0, .int .i64 65536, .int .i64 0, .int .i64 0]) ∧ Below w.heap.size w w' := by
  go_enter Try.func22, Try.ntmps22
  go_wp2
  refine bodyPost_ret (v := .agg #[.int .i64 65536, .int .i64 0, .int .i64 0, .int .i64 65536, .int .i64 0, .int .i64 0]) (by simp [results, Try.results22, go_sem]) rfl ⟨rfl, ?_⟩
  exact (Below.refl _ _).alloc (Nat.le_refl _) _
end Go.Proofs.Ytdbphpekhmlmdaa

/-
  Structs that lie in a block of their own: what a call leaves of them.
-/
namespace Go.Proofs.Ytdbphpekhmlmdaa
open Go.RowKit

theorem cells2 {w w1 : World} {B b : Nat} {x0 x1 : Value} {t : TypeId} (hb : Below B w w1) (h : w.heap[b]? = some (.cells #[x0, x1] t (0, 0))) (hlt : b < B) :
    w1.cell? ⟨b, 0, none⟩ = some x0 ∧ w1.cell? ⟨b, 1, none⟩ = some x1 ∧ w1.heap[b]? = some (.cells #[x0, x1] t (0, 0)) := by
  have h1 : w1.heap[b]? = some (.cells #[x0, x1] t (0, 0)) := (hb.block b hlt).trans h
  refine ⟨?_, ?_, h1⟩ <;> exact cell_of_row _ _ _ _ _ _ h1

theorem free2 {w1 : World} {b : Nat} {x0 x1 : Value} {t : TypeId} (h : w1.heap[b]? = some (.cells #[x0, x1] t (0, 0))) : w1.frozen? ⟨b, 0, none⟩ = false ∧ w1.frozen? ⟨b, 1, none⟩ = false := by
  refine ⟨?_, ?_⟩ <;> simp [World.frozen?, h]

theorem cells4 {w w1 : World} {B b : Nat} {x0 x1 x2 x3 : Value} {t : TypeId} (hb : Below B w w1) (h : w.heap[b]? = some (.cells #[x0, x1, x2, x3] t (0, 0))) (hlt : b < B) :
    w1.cell? ⟨b, 0, none⟩ = some x0 ∧ w1.cell? ⟨b, 1, none⟩ = some x1 ∧ w1.cell? ⟨b, 2, none⟩ = some x2 ∧ w1.cell? ⟨b, 3, none⟩ = some x3 ∧ w1.heap[b]? = some (.cells #[x0, x1, x2, x3] t (0, 0)) := by
  have h1 : w1.heap[b]? = some (.cells #[x0, x1, x2, x3] t (0, 0)) := (hb.block b hlt).trans h
  refine ⟨?_, ?_, ?_, ?_, h1⟩ <;> exact cell_of_row _ _ _ _ _ _ h1

theorem free4 {w1 : World} {b : Nat} {x0 x1 x2 x3 : Value} {t : TypeId} (h : w1.heap[b]? = some (.cells #[x0, x1, x2, x3] t (0, 0))) : w1.frozen? ⟨b, 0, none⟩ = false ∧ w1.frozen? ⟨b, 1, none⟩ = false ∧ w1.frozen? ⟨b, 2, none⟩ = false ∧ w1.frozen? ⟨b, 3, none⟩ = false := by
  refine ⟨?_, ?_, ?_, ?_⟩ <;> simp [World.frozen?, h]

theorem cells6 {w w1 : World} {B b : Nat} {x0 x1 x2 x3 x4 x5 : Value} {t : TypeId} (hb : Below B w w1) (h : w.heap[b]? = some (.cells #[x0, x1, x2, x3, x4, x5] t (0, 0))) (hlt : b < B) :
    w1.cell? ⟨b, 0, none⟩ = some x0 ∧ w1.cell? ⟨b, 1, none⟩ = some x1 ∧ w1.cell? ⟨b, 2, none⟩ = some x2 ∧ w1.cell? ⟨b, 3, none⟩ = some x3 ∧ w1.cell? ⟨b, 4, none⟩ = some x4 ∧ w1.cell? ⟨b, 5, none⟩ = some x5 ∧ w1.heap[b]? = some (.cells #[x0, x1, x2, x3, x4, x5] t (0, 0)) := by
  have h1 : w1.heap[b]? = some (.cells #[x0, x1, x2, x3, x4, x5] t (0, 0)) := (hb.block b hlt).trans h
  refine ⟨?_, ?_, ?_, ?_, ?_, ?_, h1⟩ <;> exact cell_of_row _ _ _ _ _ _ h1

theorem free6 {w1 : World} {b : Nat} {x0 x1 x2 x3 x4 x5 : Value} {t : TypeId} (h : w1.heap[b]? = some (.cells #[x0, x1, x2, x3, x4, x5] t (0, 0))) : w1.frozen? ⟨b, 0, none⟩ = false ∧ w1.frozen? ⟨b, 1, none⟩ = false ∧ w1.frozen? ⟨b, 2, none⟩ = false ∧ w1.frozen? ⟨b, 3, none⟩ = false ∧ w1.frozen? ⟨b, 4, none⟩ = false ∧ w1.frozen? ⟨b, 5, none⟩ = false := by
  refine ⟨?_, ?_, ?_, ?_, ?_, ?_⟩ <;> simp [World.frozen?, h]

theorem al1_size (w : World) (A : Obj) : (w.alloc A).heap.size = w.heap.size + 1 := by simp
theorem al1_0 (w : World) (A : Obj) : (w.alloc A).heap[w.heap.size]? = some A := heap_alloc_new _ _

theorem al2_size (w : World) (A B : Obj) : ((w.alloc A).alloc B).heap.size = w.heap.size + 2 := by simp
theorem al2_0 (w : World) (A B : Obj) : ((w.alloc A).alloc B).heap[w.heap.size]? = some A := (heap_alloc_old _ _ (by rw [al1_size]; omega)).trans (al1_0 w A)
theorem al2_1 (w : World) (A B : Obj) : ((w.alloc A).alloc B).heap[w.heap.size + 1]? = some B := by have h := heap_alloc_new (w.alloc A) B; rw [al1_size] at h; exact h

theorem al3_size (w : World) (A B C : Obj) : (((w.alloc A).alloc B).alloc C).heap.size = w.heap.size + 3 := by simp
theorem al3_0 (w : World) (A B C : Obj) : (((w.alloc A).alloc B).alloc C).heap[w.heap.size]? = some A := (heap_alloc_old _ _ (by rw [al2_size]; omega)).trans (al2_0 w A B)
theorem al3_1 (w : World) (A B C : Obj) : (((w.alloc A).alloc B).alloc C).heap[w.heap.size + 1]? = some B := (heap_alloc_old _ _ (by rw [al2_size]; omega)).trans (al2_1 w A B)
theorem al3_2 (w : World) (A B C : Obj) : (((w.alloc A).alloc B).alloc C).heap[w.heap.size + 1 + 1]? = some C := by have h := heap_alloc_new ((w.alloc A).alloc B) C; rw [al2_size] at h; exact h

theorem al4_size (w : World) (A B C D : Obj) : ((((w.alloc A).alloc B).alloc C).alloc D).heap.size = w.heap.size + 4 := by simp
theorem al4_0 (w : World) (A B C D : Obj) : ((((w.alloc A).alloc B).alloc C).alloc D).heap[w.heap.size]? = some A := (heap_alloc_old _ _ (by rw [al3_size]; omega)).trans (al3_0 w A B C)
theorem al4_1 (w : World) (A B C D : Obj) : ((((w.alloc A).alloc B).alloc C).alloc D).heap[w.heap.size + 1]? = some B := (heap_alloc_old _ _ (by rw [al3_size]; omega)).trans (al3_1 w A B C)
theorem al4_2 (w : World) (A B C D : Obj) : ((((w.alloc A).alloc B).alloc C).alloc D).heap[w.heap.size + 1 + 1]? = some C := (heap_alloc_old _ _ (by rw [al3_size]; omega)).trans (al3_2 w A B C)
theorem al4_3 (w : World) (A B C D : Obj) : ((((w.alloc A).alloc B).alloc C).alloc D).heap[w.heap.size + 1 + 1 + 1]? = some D := by have h := heap_alloc_new (((w.alloc A).alloc B).alloc C) D; rw [al3_size] at h; exact h

theorem al1_below (w : World) (A : Obj) : Below w.heap.size w (w.alloc A) := (Below.refl w.heap.size w).alloc (by exact Nat.le_refl _) _
theorem al2_below (w : World) (A B : Obj) : Below w.heap.size w ((w.alloc A).alloc B) := ((Below.refl w.heap.size w).alloc (by exact Nat.le_refl _) _).alloc (by rw [al1_size]; omega) _
theorem al3_below (w : World) (A B C : Obj) : Below w.heap.size w (((w.alloc A).alloc B).alloc C) := (((Below.refl w.heap.size w).alloc (by exact Nat.le_refl _) _).alloc (by rw [al1_size]; omega) _).alloc (by rw [al2_size]; omega) _
theorem al4_below (w : World) (A B C D : Obj) : Below w.heap.size w ((((w.alloc A).alloc B).alloc C).alloc D) := ((((Below.refl w.heap.size w).alloc (by exact Nat.le_refl _) _).alloc (by rw [al1_size]; omega) _).alloc (by rw [al2_size]; omega) _).alloc (by rw [al3_size]; omega) _

theorem below_ends {B : Nat} {a w w' : World} (h : Below B a w) (hb : Below w.heap.size w w') (hB : B ≤ w.heap.size) : Below B a w' := h.trans (hb.mono hB)
theorem below_put2 {B : Nat} {a w : World} (h : Below B a w) {b : Nat} (hb : B ≤ b) (x y : Value) : Below B a ((w.setCell ⟨b, 0, none⟩ x).setCell ⟨b, 1, none⟩ y) := (h.setCell (p := ⟨b, 0, none⟩) hb x).setCell (p := ⟨b, 1, none⟩) hb y
theorem below_put4 {B : Nat} {a w : World} (h : Below B a w) {b : Nat} (hb : B ≤ b) (x y z u : Value) : Below B a ((((w.setCell ⟨b, 0, none⟩ x).setCell ⟨b, 1, none⟩ y).setCell ⟨b, 2, none⟩ z).setCell ⟨b, 3, none⟩ u) := ((below_put2 h hb x y).setCell (p := ⟨b, 2, none⟩) hb z).setCell (p := ⟨b, 3, none⟩) hb u
theorem below_put6 {B : Nat} {a w : World} (h : Below B a w) {b : Nat} (hb : B ≤ b) (x y z u v t : Value) : Below B a ((((((w.setCell ⟨b, 0, none⟩ x).setCell ⟨b, 1, none⟩ y).setCell ⟨b, 2, none⟩ z).setCell ⟨b, 3, none⟩ u).setCell ⟨b, 4, none⟩ v).setCell ⟨b, 5, none⟩ t) := ((below_put4 h hb x y z u).setCell (p := ⟨b, 4, none⟩) hb v).setCell (p := ⟨b, 5, none⟩) hb t
/-- As 'Calls.quiet_of_same', behind regions that drew already. -/
theorem quiet_more {P : Program} {f : FuncId} {args : Array Value} {w : World} {q n : Nat} {v : Value}
    (h : Calls P f args (w.drewN (q + n)) fun e w' => e = .returned v ∧ w' = w.drewN (q + n)) : Calls P f args (w.drewN (q + n)) fun e w'' => e = .returned v ∧ ∃ m, w'' = w.drewN (q + m) :=
  h.mono fun _ _ ⟨he, hm⟩ => ⟨he, n, hm⟩
theorem past2 {w : World} {b : Nat} {x0 x1 : Option Value} (hlt : b < w.heap.size) (h0 : w.cell? ⟨b, 0, none⟩ = x0) (h1 : w.cell? ⟨b, 1, none⟩ = x1) :
    (∀ o, (w.alloc o).cell? ⟨b, 0, none⟩ = x0) ∧ (∀ o, (w.alloc o).cell? ⟨b, 1, none⟩ = x1) :=
  ⟨fun o => (World.cell?_alloc_past o b 0 hlt).trans h0, fun o => (World.cell?_alloc_past o b 1 hlt).trans h1⟩
theorem past4 {w : World} {b : Nat} {x0 x1 x2 x3 : Option Value} (hlt : b < w.heap.size) (h0 : w.cell? ⟨b, 0, none⟩ = x0) (h1 : w.cell? ⟨b, 1, none⟩ = x1) (h2 : w.cell? ⟨b, 2, none⟩ = x2) (h3 : w.cell? ⟨b, 3, none⟩ = x3) :
    (∀ o, (w.alloc o).cell? ⟨b, 0, none⟩ = x0) ∧ (∀ o, (w.alloc o).cell? ⟨b, 1, none⟩ = x1) ∧ (∀ o, (w.alloc o).cell? ⟨b, 2, none⟩ = x2) ∧ (∀ o, (w.alloc o).cell? ⟨b, 3, none⟩ = x3) :=
  ⟨fun o => (World.cell?_alloc_past o b 0 hlt).trans h0, fun o => (World.cell?_alloc_past o b 1 hlt).trans h1, fun o => (World.cell?_alloc_past o b 2 hlt).trans h2, fun o => (World.cell?_alloc_past o b 3 hlt).trans h3⟩
theorem past6 {w : World} {b : Nat} {x0 x1 x2 x3 x4 x5 : Option Value} (hlt : b < w.heap.size) (h0 : w.cell? ⟨b, 0, none⟩ = x0) (h1 : w.cell? ⟨b, 1, none⟩ = x1) (h2 : w.cell? ⟨b, 2, none⟩ = x2) (h3 : w.cell? ⟨b, 3, none⟩ = x3) (h4 : w.cell? ⟨b, 4, none⟩ = x4) (h5 : w.cell? ⟨b, 5, none⟩ = x5) :
    (∀ o, (w.alloc o).cell? ⟨b, 0, none⟩ = x0) ∧ (∀ o, (w.alloc o).cell? ⟨b, 1, none⟩ = x1) ∧ (∀ o, (w.alloc o).cell? ⟨b, 2, none⟩ = x2) ∧ (∀ o, (w.alloc o).cell? ⟨b, 3, none⟩ = x3) ∧ (∀ o, (w.alloc o).cell? ⟨b, 4, none⟩ = x4) ∧ (∀ o, (w.alloc o).cell? ⟨b, 5, none⟩ = x5) :=
  ⟨fun o => (World.cell?_alloc_past o b 0 hlt).trans h0, fun o => (World.cell?_alloc_past o b 1 hlt).trans h1, fun o => (World.cell?_alloc_past o b 2 hlt).trans h2, fun o => (World.cell?_alloc_past o b 3 hlt).trans h3, fun o => (World.cell?_alloc_past o b 4 hlt).trans h4, fun o => (World.cell?_alloc_past o b 5 hlt).trans h5⟩
theorem heap_lt {w : World} {b : Nat} {o : Obj} (h : w.heap[b]? = some o) : b < w.heap.size := (Array.getElem?_eq_some_iff.1 h).1
theorem new_lt (w : World) (o : Obj) : w.heap.size < (w.alloc o).heap.size := by rw [al1_size]; omega
theorem carry2 {w w1 : World} {b : Nat} (x0 x1 : Value) (t : TypeId) (hb : Below w.heap.size w w1) (h : w.heap[b]? = some (.cells #[x0, x1] t (0, 0))) :
    w1.cell? ⟨b, 0, none⟩ = some x0 ∧ w1.cell? ⟨b, 1, none⟩ = some x1 ∧ w1.frozen? ⟨b, 0, none⟩ = false ∧ w1.frozen? ⟨b, 1, none⟩ = false ∧ w1.heap[b]? = some (.cells #[x0, x1] t (0, 0)) ∧ b < w1.heap.size := by
  obtain ⟨c0, c1, h1⟩ := cells2 hb h (heap_lt h)
  obtain ⟨f0, f1⟩ := free2 h1
  exact ⟨c0, c1, f0, f1, h1, heap_lt h1⟩
theorem carry4 {w w1 : World} {b : Nat} (x0 x1 x2 x3 : Value) (t : TypeId) (hb : Below w.heap.size w w1) (h : w.heap[b]? = some (.cells #[x0, x1, x2, x3] t (0, 0))) :
    w1.cell? ⟨b, 0, none⟩ = some x0 ∧ w1.cell? ⟨b, 1, none⟩ = some x1 ∧ w1.cell? ⟨b, 2, none⟩ = some x2 ∧ w1.cell? ⟨b, 3, none⟩ = some x3 ∧ w1.frozen? ⟨b, 0, none⟩ = false ∧ w1.frozen? ⟨b, 1, none⟩ = false ∧ w1.frozen? ⟨b, 2, none⟩ = false ∧ w1.frozen? ⟨b, 3, none⟩ = false ∧ w1.heap[b]? = some (.cells #[x0, x1, x2, x3] t (0, 0)) ∧ b < w1.heap.size := by
  obtain ⟨c0, c1, c2, c3, h1⟩ := cells4 hb h (heap_lt h)
  obtain ⟨f0, f1, f2, f3⟩ := free4 h1
  exact ⟨c0, c1, c2, c3, f0, f1, f2, f3, h1, heap_lt h1⟩
theorem carry6 {w w1 : World} {b : Nat} (x0 x1 x2 x3 x4 x5 : Value) (t : TypeId) (hb : Below w.heap.size w w1) (h : w.heap[b]? = some (.cells #[x0, x1, x2, x3, x4, x5] t (0, 0))) :
    w1.cell? ⟨b, 0, none⟩ = some x0 ∧ w1.cell? ⟨b, 1, none⟩ = some x1 ∧ w1.cell? ⟨b, 2, none⟩ = some x2 ∧ w1.cell? ⟨b, 3, none⟩ = some x3 ∧ w1.cell? ⟨b, 4, none⟩ = some x4 ∧ w1.cell? ⟨b, 5, none⟩ = some x5 ∧ w1.frozen? ⟨b, 0, none⟩ = false ∧ w1.frozen? ⟨b, 1, none⟩ = false ∧ w1.frozen? ⟨b, 2, none⟩ = false ∧ w1.frozen? ⟨b, 3, none⟩ = false ∧ w1.frozen? ⟨b, 4, none⟩ = false ∧ w1.frozen? ⟨b, 5, none⟩ = false ∧ w1.heap[b]? = some (.cells #[x0, x1, x2, x3, x4, x5] t (0, 0)) ∧ b < w1.heap.size := by
  obtain ⟨c0, c1, c2, c3, c4, c5, h1⟩ := cells6 hb h (heap_lt h)
  obtain ⟨f0, f1, f2, f3, f4, f5⟩ := free6 h1
  exact ⟨c0, c1, c2, c3, c4, c5, f0, f1, f2, f3, f4, f5, h1, heap_lt h1⟩

theorem put2_0 {w : World} {b : Nat} {a0 : Value} (h0 : w.cell? ⟨b, 0, none⟩ = some a0) (x y : Value) : ((w.setCell ⟨b, 0, none⟩ x).setCell ⟨b, 1, none⟩ y).cell? ⟨b, 0, none⟩ = some x := by
  rw [World.cell?_setCell_other _ _ _ _ (fun e => by injection e with _ h; exact absurd h (by decide))]; exact World.cell?_setCell_same _ _ _ h0
theorem put2_1 {w : World} {b : Nat} {a1 : Value} (h1 : w.cell? ⟨b, 1, none⟩ = some a1) (x y : Value) : ((w.setCell ⟨b, 0, none⟩ x).setCell ⟨b, 1, none⟩ y).cell? ⟨b, 1, none⟩ = some y := by
  exact World.cell?_setCell_same _ _ _ (by rw [World.cell?_setCell_other _ _ _ _ (fun e => by injection e with _ h; exact absurd h (by decide))]; exact h1)
theorem put4_0 {w : World} {b : Nat} {a0 : Value} (h0 : w.cell? ⟨b, 0, none⟩ = some a0) (x y z u : Value) : ((((w.setCell ⟨b, 0, none⟩ x).setCell ⟨b, 1, none⟩ y).setCell ⟨b, 2, none⟩ z).setCell ⟨b, 3, none⟩ u).cell? ⟨b, 0, none⟩ = some x := by
  rw [World.cell?_setCell_other _ _ _ _ (fun e => by injection e with _ h; exact absurd h (by decide))]; rw [World.cell?_setCell_other _ _ _ _ (fun e => by injection e with _ h; exact absurd h (by decide))]; rw [World.cell?_setCell_other _ _ _ _ (fun e => by injection e with _ h; exact absurd h (by decide))]; exact World.cell?_setCell_same _ _ _ h0
theorem put4_1 {w : World} {b : Nat} {a1 : Value} (h1 : w.cell? ⟨b, 1, none⟩ = some a1) (x y z u : Value) : ((((w.setCell ⟨b, 0, none⟩ x).setCell ⟨b, 1, none⟩ y).setCell ⟨b, 2, none⟩ z).setCell ⟨b, 3, none⟩ u).cell? ⟨b, 1, none⟩ = some y := by
  rw [World.cell?_setCell_other _ _ _ _ (fun e => by injection e with _ h; exact absurd h (by decide))]; rw [World.cell?_setCell_other _ _ _ _ (fun e => by injection e with _ h; exact absurd h (by decide))]; exact World.cell?_setCell_same _ _ _ (by rw [World.cell?_setCell_other _ _ _ _ (fun e => by injection e with _ h; exact absurd h (by decide))]; exact h1)
theorem put4_2 {w : World} {b : Nat} {a2 : Value} (h2 : w.cell? ⟨b, 2, none⟩ = some a2) (x y z u : Value) : ((((w.setCell ⟨b, 0, none⟩ x).setCell ⟨b, 1, none⟩ y).setCell ⟨b, 2, none⟩ z).setCell ⟨b, 3, none⟩ u).cell? ⟨b, 2, none⟩ = some z := by
  rw [World.cell?_setCell_other _ _ _ _ (fun e => by injection e with _ h; exact absurd h (by decide))]; exact World.cell?_setCell_same _ _ _ (by rw [World.cell?_setCell_other _ _ _ _ (fun e => by injection e with _ h; exact absurd h (by decide))]; rw [World.cell?_setCell_other _ _ _ _ (fun e => by injection e with _ h; exact absurd h (by decide))]; exact h2)
theorem put4_3 {w : World} {b : Nat} {a3 : Value} (h3 : w.cell? ⟨b, 3, none⟩ = some a3) (x y z u : Value) : ((((w.setCell ⟨b, 0, none⟩ x).setCell ⟨b, 1, none⟩ y).setCell ⟨b, 2, none⟩ z).setCell ⟨b, 3, none⟩ u).cell? ⟨b, 3, none⟩ = some u := by
  exact World.cell?_setCell_same _ _ _ (by rw [World.cell?_setCell_other _ _ _ _ (fun e => by injection e with _ h; exact absurd h (by decide))]; rw [World.cell?_setCell_other _ _ _ _ (fun e => by injection e with _ h; exact absurd h (by decide))]; rw [World.cell?_setCell_other _ _ _ _ (fun e => by injection e with _ h; exact absurd h (by decide))]; exact h3)
theorem put6_0 {w : World} {b : Nat} {a0 : Value} (h0 : w.cell? ⟨b, 0, none⟩ = some a0) (x y z u v t : Value) : ((((((w.setCell ⟨b, 0, none⟩ x).setCell ⟨b, 1, none⟩ y).setCell ⟨b, 2, none⟩ z).setCell ⟨b, 3, none⟩ u).setCell ⟨b, 4, none⟩ v).setCell ⟨b, 5, none⟩ t).cell? ⟨b, 0, none⟩ = some x := by
  rw [World.cell?_setCell_other _ _ _ _ (fun e => by injection e with _ h; exact absurd h (by decide))]; rw [World.cell?_setCell_other _ _ _ _ (fun e => by injection e with _ h; exact absurd h (by decide))]; rw [World.cell?_setCell_other _ _ _ _ (fun e => by injection e with _ h; exact absurd h (by decide))]; rw [World.cell?_setCell_other _ _ _ _ (fun e => by injection e with _ h; exact absurd h (by decide))]; rw [World.cell?_setCell_other _ _ _ _ (fun e => by injection e with _ h; exact absurd h (by decide))]; exact World.cell?_setCell_same _ _ _ h0
theorem put6_1 {w : World} {b : Nat} {a1 : Value} (h1 : w.cell? ⟨b, 1, none⟩ = some a1) (x y z u v t : Value) : ((((((w.setCell ⟨b, 0, none⟩ x).setCell ⟨b, 1, none⟩ y).setCell ⟨b, 2, none⟩ z).setCell ⟨b, 3, none⟩ u).setCell ⟨b, 4, none⟩ v).setCell ⟨b, 5, none⟩ t).cell? ⟨b, 1, none⟩ = some y := by
  rw [World.cell?_setCell_other _ _ _ _ (fun e => by injection e with _ h; exact absurd h (by decide))]; rw [World.cell?_setCell_other _ _ _ _ (fun e => by injection e with _ h; exact absurd h (by decide))]; rw [World.cell?_setCell_other _ _ _ _ (fun e => by injection e with _ h; exact absurd h (by decide))]; rw [World.cell?_setCell_other _ _ _ _ (fun e => by injection e with _ h; exact absurd h (by decide))]; exact World.cell?_setCell_same _ _ _ (by rw [World.cell?_setCell_other _ _ _ _ (fun e => by injection e with _ h; exact absurd h (by decide))]; exact h1)
theorem put6_2 {w : World} {b : Nat} {a2 : Value} (h2 : w.cell? ⟨b, 2, none⟩ = some a2) (x y z u v t : Value) : ((((((w.setCell ⟨b, 0, none⟩ x).setCell ⟨b, 1, none⟩ y).setCell ⟨b, 2, none⟩ z).setCell ⟨b, 3, none⟩ u).setCell ⟨b, 4, none⟩ v).setCell ⟨b, 5, none⟩ t).cell? ⟨b, 2, none⟩ = some z := by
  rw [World.cell?_setCell_other _ _ _ _ (fun e => by injection e with _ h; exact absurd h (by decide))]; rw [World.cell?_setCell_other _ _ _ _ (fun e => by injection e with _ h; exact absurd h (by decide))]; rw [World.cell?_setCell_other _ _ _ _ (fun e => by injection e with _ h; exact absurd h (by decide))]; exact World.cell?_setCell_same _ _ _ (by rw [World.cell?_setCell_other _ _ _ _ (fun e => by injection e with _ h; exact absurd h (by decide))]; rw [World.cell?_setCell_other _ _ _ _ (fun e => by injection e with _ h; exact absurd h (by decide))]; exact h2)
theorem put6_3 {w : World} {b : Nat} {a3 : Value} (h3 : w.cell? ⟨b, 3, none⟩ = some a3) (x y z u v t : Value) : ((((((w.setCell ⟨b, 0, none⟩ x).setCell ⟨b, 1, none⟩ y).setCell ⟨b, 2, none⟩ z).setCell ⟨b, 3, none⟩ u).setCell ⟨b, 4, none⟩ v).setCell ⟨b, 5, none⟩ t).cell? ⟨b, 3, none⟩ = some u := by
  rw [World.cell?_setCell_other _ _ _ _ (fun e => by injection e with _ h; exact absurd h (by decide))]; rw [World.cell?_setCell_other _ _ _ _ (fun e => by injection e with _ h; exact absurd h (by decide))]; exact World.cell?_setCell_same _ _ _ (by rw [World.cell?_setCell_other _ _ _ _ (fun e => by injection e with _ h; exact absurd h (by decide))]; rw [World.cell?_setCell_other _ _ _ _ (fun e => by injection e with _ h; exact absurd h (by decide))]; rw [World.cell?_setCell_other _ _ _ _ (fun e => by injection e with _ h; exact absurd h (by decide))]; exact h3)
theorem put6_4 {w : World} {b : Nat} {a4 : Value} (h4 : w.cell? ⟨b, 4, none⟩ = some a4) (x y z u v t : Value) : ((((((w.setCell ⟨b, 0, none⟩ x).setCell ⟨b, 1, none⟩ y).setCell ⟨b, 2, none⟩ z).setCell ⟨b, 3, none⟩ u).setCell ⟨b, 4, none⟩ v).setCell ⟨b, 5, none⟩ t).cell? ⟨b, 4, none⟩ = some v := by
  rw [World.cell?_setCell_other _ _ _ _ (fun e => by injection e with _ h; exact absurd h (by decide))]; exact World.cell?_setCell_same _ _ _ (by rw [World.cell?_setCell_other _ _ _ _ (fun e => by injection e with _ h; exact absurd h (by decide))]; rw [World.cell?_setCell_other _ _ _ _ (fun e => by injection e with _ h; exact absurd h (by decide))]; rw [World.cell?_setCell_other _ _ _ _ (fun e => by injection e with _ h; exact absurd h (by decide))]; rw [World.cell?_setCell_other _ _ _ _ (fun e => by injection e with _ h; exact absurd h (by decide))]; exact h4)
theorem put6_5 {w : World} {b : Nat} {a5 : Value} (h5 : w.cell? ⟨b, 5, none⟩ = some a5) (x y z u v t : Value) : ((((((w.setCell ⟨b, 0, none⟩ x).setCell ⟨b, 1, none⟩ y).setCell ⟨b, 2, none⟩ z).setCell ⟨b, 3, none⟩ u).setCell ⟨b, 4, none⟩ v).setCell ⟨b, 5, none⟩ t).cell? ⟨b, 5, none⟩ = some t := by
  exact World.cell?_setCell_same _ _ _ (by rw [World.cell?_setCell_other _ _ _ _ (fun e => by injection e with _ h; exact absurd h (by decide))]; rw [World.cell?_setCell_other _ _ _ _ (fun e => by injection e with _ h; exact absurd h (by decide))]; rw [World.cell?_setCell_other _ _ _ _ (fun e => by injection e with _ h; exact absurd h (by decide))]; rw [World.cell?_setCell_other _ _ _ _ (fun e => by injection e with _ h; exact absurd h (by decide))]; rw [World.cell?_setCell_other _ _ _ _ (fun e => by injection e with _ h; exact absurd h (by decide))]; exact h5)

theorem row2 {w1 : World} {b : Nat} {x0 x1 : Value} {t : TypeId} (h : w1.heap[b]? = some (.cells #[x0, x1] t (0, 0))) : w1.cell? ⟨b, 0, none⟩ = some x0 ∧ w1.cell? ⟨b, 1, none⟩ = some x1 := by
  refine ⟨?_, ?_⟩ <;> exact cell_of_row _ _ _ _ _ _ h
theorem row4 {w1 : World} {b : Nat} {x0 x1 x2 x3 : Value} {t : TypeId} (h : w1.heap[b]? = some (.cells #[x0, x1, x2, x3] t (0, 0))) : w1.cell? ⟨b, 0, none⟩ = some x0 ∧ w1.cell? ⟨b, 1, none⟩ = some x1 ∧ w1.cell? ⟨b, 2, none⟩ = some x2 ∧ w1.cell? ⟨b, 3, none⟩ = some x3 := by
  refine ⟨?_, ?_, ?_, ?_⟩ <;> exact cell_of_row _ _ _ _ _ _ h
theorem row6 {w1 : World} {b : Nat} {x0 x1 x2 x3 x4 x5 : Value} {t : TypeId} (h : w1.heap[b]? = some (.cells #[x0, x1, x2, x3, x4, x5] t (0, 0))) : w1.cell? ⟨b, 0, none⟩ = some x0 ∧ w1.cell? ⟨b, 1, none⟩ = some x1 ∧ w1.cell? ⟨b, 2, none⟩ = some x2 ∧ w1.cell? ⟨b, 3, none⟩ = some x3 ∧ w1.cell? ⟨b, 4, none⟩ = some x4 ∧ w1.cell? ⟨b, 5, none⟩ = some x5 := by
  refine ⟨?_, ?_, ?_, ?_, ?_, ?_⟩ <;> exact cell_of_row _ _ _ _ _ _ h

/-- A cell stays as it was behind whatever writes new memory alone. -/
theorem kc {W u : World} {p : Addr} {v : Value} (h : Below W.heap.size W u) (c : W.cell? p = some v) : u.cell? p = some v := (h.cell (block_lt_of_cell c)).trans c
theorem kn {W : World} {p : Addr} {v : Value} (o : Obj) (c : W.cell? p = some v) : (W.alloc o).cell? p = some v := kc ((Below.refl _ _).alloc (Nat.le_refl _) o) c
theorem below_new {B : Nat} {a w : World} (o : Obj) (h : Below B a w) (hB : B ≤ a.heap.size) : Below B a (w.alloc o) := h.alloc (Nat.le_trans hB h.size) o
theorem below_after {B : Nat} {a w w' : World} (hb : Below w.heap.size w w') (h : Below B a w) (hB : B ≤ a.heap.size) : Below B a w' := h.trans (hb.mono (Nat.le_trans hB h.size))
theorem keep2 {B : Nat} {W u : World} {b0 : Nat} {t0 : TypeId} {x0_0 x0_1 : Value} (h0 : W.heap[b0]? = some (.cells #[x0_0, x0_1] t0 (0, 0))) (l0 : b0 < B) (h : Below B W u) :
    u.cell? ⟨b0, 0, none⟩ = some x0_0 ∧ u.cell? ⟨b0, 1, none⟩ = some x0_1 ∧ Below B W u := by
  have e0 := (h.block b0 l0).trans h0
  exact ⟨cell_of_row _ _ _ _ _ _ e0, cell_of_row _ _ _ _ _ _ e0, h⟩

theorem keep4 {B : Nat} {W u : World} {b0 : Nat} {t0 : TypeId} {x0_0 x0_1 x0_2 x0_3 : Value} (h0 : W.heap[b0]? = some (.cells #[x0_0, x0_1, x0_2, x0_3] t0 (0, 0))) (l0 : b0 < B) (h : Below B W u) :
    u.cell? ⟨b0, 0, none⟩ = some x0_0 ∧ u.cell? ⟨b0, 1, none⟩ = some x0_1 ∧ u.cell? ⟨b0, 2, none⟩ = some x0_2 ∧ u.cell? ⟨b0, 3, none⟩ = some x0_3 ∧ Below B W u := by
  have e0 := (h.block b0 l0).trans h0
  exact ⟨cell_of_row _ _ _ _ _ _ e0, cell_of_row _ _ _ _ _ _ e0, cell_of_row _ _ _ _ _ _ e0, cell_of_row _ _ _ _ _ _ e0, h⟩

theorem keep6 {B : Nat} {W u : World} {b0 : Nat} {t0 : TypeId} {x0_0 x0_1 x0_2 x0_3 x0_4 x0_5 : Value} (h0 : W.heap[b0]? = some (.cells #[x0_0, x0_1, x0_2, x0_3, x0_4, x0_5] t0 (0, 0))) (l0 : b0 < B) (h : Below B W u) :
    u.cell? ⟨b0, 0, none⟩ = some x0_0 ∧ u.cell? ⟨b0, 1, none⟩ = some x0_1 ∧ u.cell? ⟨b0, 2, none⟩ = some x0_2 ∧ u.cell? ⟨b0, 3, none⟩ = some x0_3 ∧ u.cell? ⟨b0, 4, none⟩ = some x0_4 ∧ u.cell? ⟨b0, 5, none⟩ = some x0_5 ∧ Below B W u := by
  have e0 := (h.block b0 l0).trans h0
  exact ⟨cell_of_row _ _ _ _ _ _ e0, cell_of_row _ _ _ _ _ _ e0, cell_of_row _ _ _ _ _ _ e0, cell_of_row _ _ _ _ _ _ e0, cell_of_row _ _ _ _ _ _ e0, cell_of_row _ _ _ _ _ _ e0, h⟩

theorem keep62 {B : Nat} {W u : World} {b0 b1 : Nat} {t0 t1 : TypeId} {x0_0 x0_1 x0_2 x0_3 x0_4 x0_5 x1_0 x1_1 : Value} (h0 : W.heap[b0]? = some (.cells #[x0_0, x0_1, x0_2, x0_3, x0_4, x0_5] t0 (0, 0))) (l0 : b0 < B) (h1 : W.heap[b1]? = some (.cells #[x1_0, x1_1] t1 (0, 0))) (l1 : b1 < B) (h : Below B W u) :
    u.cell? ⟨b0, 0, none⟩ = some x0_0 ∧ u.cell? ⟨b0, 1, none⟩ = some x0_1 ∧ u.cell? ⟨b0, 2, none⟩ = some x0_2 ∧ u.cell? ⟨b0, 3, none⟩ = some x0_3 ∧ u.cell? ⟨b0, 4, none⟩ = some x0_4 ∧ u.cell? ⟨b0, 5, none⟩ = some x0_5 ∧ u.cell? ⟨b1, 0, none⟩ = some x1_0 ∧ u.cell? ⟨b1, 1, none⟩ = some x1_1 ∧ Below B W u := by
  have e0 := (h.block b0 l0).trans h0
  have e1 := (h.block b1 l1).trans h1
  exact ⟨cell_of_row _ _ _ _ _ _ e0, cell_of_row _ _ _ _ _ _ e0, cell_of_row _ _ _ _ _ _ e0, cell_of_row _ _ _ _ _ _ e0, cell_of_row _ _ _ _ _ _ e0, cell_of_row _ _ _ _ _ _ e0, cell_of_row _ _ _ _ _ _ e1, cell_of_row _ _ _ _ _ _ e1, h⟩

theorem keep66 {B : Nat} {W u : World} {b0 b1 : Nat} {t0 t1 : TypeId} {x0_0 x0_1 x0_2 x0_3 x0_4 x0_5 x1_0 x1_1 x1_2 x1_3 x1_4 x1_5 : Value} (h0 : W.heap[b0]? = some (.cells #[x0_0, x0_1, x0_2, x0_3, x0_4, x0_5] t0 (0, 0))) (l0 : b0 < B) (h1 : W.heap[b1]? = some (.cells #[x1_0, x1_1, x1_2, x1_3, x1_4, x1_5] t1 (0, 0))) (l1 : b1 < B) (h : Below B W u) :
    u.cell? ⟨b0, 0, none⟩ = some x0_0 ∧ u.cell? ⟨b0, 1, none⟩ = some x0_1 ∧ u.cell? ⟨b0, 2, none⟩ = some x0_2 ∧ u.cell? ⟨b0, 3, none⟩ = some x0_3 ∧ u.cell? ⟨b0, 4, none⟩ = some x0_4 ∧ u.cell? ⟨b0, 5, none⟩ = some x0_5 ∧ u.cell? ⟨b1, 0, none⟩ = some x1_0 ∧ u.cell? ⟨b1, 1, none⟩ = some x1_1 ∧ u.cell? ⟨b1, 2, none⟩ = some x1_2 ∧ u.cell? ⟨b1, 3, none⟩ = some x1_3 ∧ u.cell? ⟨b1, 4, none⟩ = some x1_4 ∧ u.cell? ⟨b1, 5, none⟩ = some x1_5 ∧ Below B W u := by
  have e0 := (h.block b0 l0).trans h0
  have e1 := (h.block b1 l1).trans h1
  exact ⟨cell_of_row _ _ _ _ _ _ e0, cell_of_row _ _ _ _ _ _ e0, cell_of_row _ _ _ _ _ _ e0, cell_of_row _ _ _ _ _ _ e0, cell_of_row _ _ _ _ _ _ e0, cell_of_row _ _ _ _ _ _ e0, cell_of_row _ _ _ _ _ _ e1, cell_of_row _ _ _ _ _ _ e1, cell_of_row _ _ _ _ _ _ e1, cell_of_row _ _ _ _ _ _ e1, cell_of_row _ _ _ _ _ _ e1, cell_of_row _ _ _ _ _ _ e1, h⟩

theorem keep44 {B : Nat} {W u : World} {b0 b1 : Nat} {t0 t1 : TypeId} {x0_0 x0_1 x0_2 x0_3 x1_0 x1_1 x1_2 x1_3 : Value} (h0 : W.heap[b0]? = some (.cells #[x0_0, x0_1, x0_2, x0_3] t0 (0, 0))) (l0 : b0 < B) (h1 : W.heap[b1]? = some (.cells #[x1_0, x1_1, x1_2, x1_3] t1 (0, 0))) (l1 : b1 < B) (h : Below B W u) :
    u.cell? ⟨b0, 0, none⟩ = some x0_0 ∧ u.cell? ⟨b0, 1, none⟩ = some x0_1 ∧ u.cell? ⟨b0, 2, none⟩ = some x0_2 ∧ u.cell? ⟨b0, 3, none⟩ = some x0_3 ∧ u.cell? ⟨b1, 0, none⟩ = some x1_0 ∧ u.cell? ⟨b1, 1, none⟩ = some x1_1 ∧ u.cell? ⟨b1, 2, none⟩ = some x1_2 ∧ u.cell? ⟨b1, 3, none⟩ = some x1_3 ∧ Below B W u := by
  have e0 := (h.block b0 l0).trans h0
  have e1 := (h.block b1 l1).trans h1
  exact ⟨cell_of_row _ _ _ _ _ _ e0, cell_of_row _ _ _ _ _ _ e0, cell_of_row _ _ _ _ _ _ e0, cell_of_row _ _ _ _ _ _ e0, cell_of_row _ _ _ _ _ _ e1, cell_of_row _ _ _ _ _ _ e1, cell_of_row _ _ _ _ _ _ e1, cell_of_row _ _ _ _ _ _ e1, h⟩

theorem keep42 {B : Nat} {W u : World} {b0 b1 : Nat} {t0 t1 : TypeId} {x0_0 x0_1 x0_2 x0_3 x1_0 x1_1 : Value} (h0 : W.heap[b0]? = some (.cells #[x0_0, x0_1, x0_2, x0_3] t0 (0, 0))) (l0 : b0 < B) (h1 : W.heap[b1]? = some (.cells #[x1_0, x1_1] t1 (0, 0))) (l1 : b1 < B) (h : Below B W u) :
    u.cell? ⟨b0, 0, none⟩ = some x0_0 ∧ u.cell? ⟨b0, 1, none⟩ = some x0_1 ∧ u.cell? ⟨b0, 2, none⟩ = some x0_2 ∧ u.cell? ⟨b0, 3, none⟩ = some x0_3 ∧ u.cell? ⟨b1, 0, none⟩ = some x1_0 ∧ u.cell? ⟨b1, 1, none⟩ = some x1_1 ∧ Below B W u := by
  have e0 := (h.block b0 l0).trans h0
  have e1 := (h.block b1 l1).trans h1
  exact ⟨cell_of_row _ _ _ _ _ _ e0, cell_of_row _ _ _ _ _ _ e0, cell_of_row _ _ _ _ _ _ e0, cell_of_row _ _ _ _ _ _ e0, cell_of_row _ _ _ _ _ _ e1, cell_of_row _ _ _ _ _ _ e1, h⟩

end Go.Proofs.Ytdbphpekhmlmdaa

/-
  The walk of the specification's Apply.
-/
namespace Go.Proofs.Ytdbphpekhmlmdaa
open Go.RowKit

def aggP (x y : Int) : Value := .agg #[.int .i64 x, .int .i64 y]
def aggM (a b c d e f : Int) : Value := .agg #[.int .i64 a, .int .i64 b, .int .i64 c, .int .i64 d, .int .i64 e, .int .i64 f]
theorem ret_p {a b x y : Int} (h : a = x) (k : b = y) : Ending.returned (.agg #[.int .i64 a, .int .i64 b]) = .returned (.agg #[.int .i64 x, .int .i64 y]) := by rw [h, k]

/-- One coordinate of a moved point. -/
def moveI (a x c y e : Int) : Int := clampI (rdivI (a * x + c * y) 65536 + e) (-8388608) 8388608

theorem rdiv_bd {n : Int} {m : Int} (h1 : -m ≤ n) (h2 : n ≤ m) : -m - 1 ≤ rdivI n 65536 ∧ rdivI n 65536 ≤ m + 1 := by
  unfold rdivI; rw [if_neg (by decide)]; split <;> omega

theorem mul_bd {a x A X : Int} (a1 : -A ≤ a) (a2 : a ≤ A) (x1 : -X ≤ x) (x2 : x ≤ X) : -(A * X) ≤ a * x ∧ a * x ≤ A * X := by
  have hA : 0 ≤ A := by omega
  have hX : 0 ≤ X := by omega
  have h1 : (A - a) * (X - x) ≥ 0 := Int.mul_nonneg (by omega) (by omega)
  have h2 : (A + a) * (X + x) ≥ 0 := Int.mul_nonneg (by omega) (by omega)
  have h3 : (A - a) * (X + x) ≥ 0 := Int.mul_nonneg (by omega) (by omega)
  have h4 : (A + a) * (X - x) ≥ 0 := Int.mul_nonneg (by omega) (by omega)
  simp only [Int.mul_sub, Int.sub_mul, Int.mul_add, Int.add_mul] at h1 h2 h3 h4
  omega

theorem mat_bd {a b c d e f : Int} (h : matOkB a b c d e f = true) : (-1048576 ≤ a ∧ a ≤ 1048576) ∧ (-1048576 ≤ b ∧ b ≤ 1048576) ∧ (-1048576 ≤ c ∧ c ≤ 1048576) ∧ (-1048576 ≤ d ∧ d ≤ 1048576) ∧ (-8388608 ≤ e ∧ e ≤ 8388608) ∧ (-8388608 ≤ f ∧ f ≤ 8388608) := by
  simpa [matOkB, inB] using h

theorem point_bd {x y : Int} (h : pointOkB x y = true) : (-8388608 ≤ x ∧ x ≤ 8388608) ∧ (-8388608 ≤ y ∧ y ≤ 8388608) := by
  simpa [pointOkB, inB] using h

end Go.Proofs.Ytdbphpekhmlmdaa

/-
  The walk of the specification's Compose.
-/
namespace Go.Proofs.Ytdbphpekhmlmdaa
open Go.RowKit

/-- One part of two mats taken together. -/
def crossI (a g c h : Int) : Int := rdivI (a * g + c * h) 65536

/-- What Compose answers of two right mats. -/
def compV (a b c d e f g h i j k l : Int) : Value :=
  bif matOkB (crossI a g c h) (crossI b g d h) (crossI a i c j) (crossI b i d j) (crossI a k c l + e) (crossI b k d l + f)
  then .tuple #[.agg #[.int .i64 (crossI a g c h), .int .i64 (crossI b g d h), .int .i64 (crossI a i c j), .int .i64 (crossI b i d j), .int .i64 (crossI a k c l + e), .int .i64 (crossI b k d l + f)], .bool true]
  else .tuple #[.agg #[.int .i64 0, .int .i64 0, .int .i64 0, .int .i64 0, .int .i64 0, .int .i64 0], .bool false]

theorem ret_mb {a b c d e f a' b' c' d' e' f' : Int} {p : Bool} (h1 : a = a') (h2 : b = b') (h3 : c = c') (h4 : d = d') (h5 : e = e') (h6 : f = f') : Ending.returned (.tuple #[.agg #[.int .i64 a, .int .i64 b, .int .i64 c, .int .i64 d, .int .i64 e, .int .i64 f], .bool p]) = .returned (.tuple #[.agg #[.int .i64 a', .int .i64 b', .int .i64 c', .int .i64 d', .int .i64 e', .int .i64 f'], .bool p]) := by rw [h1, h2, h3, h4, h5, h6]

set_option maxHeartbeats 1000000 in
set_option maxRecDepth 100000 in
theorem specCompose_no (a b c d e f g h i j k l : Int) (hno : (matOkB a b c d e f && matOkB g h i j k l) = false) (w : World) :
    Calls Try.prog 23 #[.agg #[.int .i64 a, .int .i64 b, .int .i64 c, .int .i64 d, .int .i64 e, .int .i64 f], .agg #[.int .i64 g, .int .i64 h, .int .i64 i, .int .i64 j, .int .i64 k, .int .i64 l]] w fun r w' => r = .returned (.tuple #[.agg #[.int .i64 0, .int .i64 0, .int .i64 0, .int .i64 0, .int .i64 0, .int .i64 0], .bool false]) ∧ Below w.heap.size w w' := by
  have HM := hide (specMatOk_any a b c d e f)
  have HP := hide (specMatOk_any g h i j k l)
  generalize matOkB a b c d e f = pm at HM hno
  generalize matOkB g h i j k l = pp at HP hno
  go_enter Try.func23, Try.ntmps23
  go_wp2_with fail
  refine (unhide HM _).mono ?_
  rintro r w1 ⟨rfl, hb1⟩
  have C1 := hide (below_ends (al3_below _ _ _ _) hb1 (by rw [al3_size]; omega))
  obtain ⟨p0, p1, p2, p3, p4, p5, hp⟩ := cells6 hb1 (al3_1 _ _ _ _) (by rw [al3_size]; omega)
  obtain ⟨r0, r1, r2, r3, r4, r5, hr⟩ := cells6 hb1 (al3_2 _ _ _ _) (by rw [al3_size]; omega)
  obtain ⟨f0, f1, f2, f3, f4, f5⟩ := free6 hr
  have hs : w.heap.size + 3 ≤ w1.heap.size := by have := hb1.size; rw [al3_size] at this; exact this
  have HR := hide hr
  clear hb1 hp hr
  cases pm
  · go_wp2_with fail
    refine bodyPost_ret (v := .tuple #[.agg #[.int .i64 0, .int .i64 0, .int .i64 0, .int .i64 0, .int .i64 0, .int .i64 0], .bool false]) (by simp [results, Try.results23, go_sem, r0, r1, r2, r3, r4, r5]) rfl ⟨rfl, ?_⟩
    exact below_put6 (unhide C1) (by omega) _ _ _ _ _ _
  · obtain rfl : pp = false := by simpa using hno
    go_wp2_with fail
    refine (unhide HP _).mono ?_
    rintro r w2 ⟨rfl, hb2⟩
    have C2 := hide (below_ends (unhide C1) hb2 (by omega))
    clear r0 r1 r2 r3 r4 r5 f0 f1 f2 f3 f4 f5
    obtain ⟨r0, r1, r2, r3, r4, r5, hr⟩ := cells6 hb2 (unhide HR) (by omega)
    obtain ⟨f0, f1, f2, f3, f4, f5⟩ := free6 hr
    clear hb2 hr
    go_wp2_with fail
    refine bodyPost_ret (v := .tuple #[.agg #[.int .i64 0, .int .i64 0, .int .i64 0, .int .i64 0, .int .i64 0, .int .i64 0], .bool false]) (by simp [results, Try.results23, go_sem, r0, r1, r2, r3, r4, r5]) rfl ⟨rfl, ?_⟩
    exact below_put6 (unhide C2) (by omega) _ _ _ _ _ _

set_option maxHeartbeats 4000000 in
set_option maxRecDepth 100000 in
theorem specCompose_yes (a b c d e f g h i j k l : Int) (hm : matOkB a b c d e f = true) (hn : matOkB g h i j k l = true) (w : World) :
    Calls Try.prog 23 #[.agg #[.int .i64 a, .int .i64 b, .int .i64 c, .int .i64 d, .int .i64 e, .int .i64 f], .agg #[.int .i64 g, .int .i64 h, .int .i64 i, .int .i64 j, .int .i64 k, .int .i64 l]] w fun r w' => r = .returned (compV a b c d e f g h i j k l) ∧ Below w.heap.size w w' := by
  have HM := hide (specMatOk_any a b c d e f)
  have HP := hide (specMatOk_any g h i j k l)
  rw [hm] at HM
  rw [hn] at HP
  obtain ⟨⟨a1, a2⟩, ⟨b1, b2⟩, ⟨c1, c2⟩, ⟨d1, d2⟩, ⟨e1, e2⟩, ⟨f1, f2⟩⟩ := mat_bd hm
  obtain ⟨⟨g1, g2⟩, ⟨h1, h2⟩, ⟨i1, i2⟩, ⟨j1, j2⟩, ⟨k1, k2⟩, ⟨l1, l2⟩⟩ := mat_bd hn
  clear hm hn
  obtain ⟨ag1, ag2⟩ := mul_bd a1 a2 g1 g2
  obtain ⟨ch1, ch2⟩ := mul_bd c1 c2 h1 h2
  obtain ⟨bg1, bg2⟩ := mul_bd b1 b2 g1 g2
  obtain ⟨dh1, dh2⟩ := mul_bd d1 d2 h1 h2
  obtain ⟨ai1, ai2⟩ := mul_bd a1 a2 i1 i2
  obtain ⟨cj1, cj2⟩ := mul_bd c1 c2 j1 j2
  obtain ⟨bi1, bi2⟩ := mul_bd b1 b2 i1 i2
  obtain ⟨dj1, dj2⟩ := mul_bd d1 d2 j1 j2
  obtain ⟨ak1, ak2⟩ := mul_bd a1 a2 k1 k2
  obtain ⟨cl1, cl2⟩ := mul_bd c1 c2 l1 l2
  obtain ⟨bk1, bk2⟩ := mul_bd b1 b2 k1 k2
  obtain ⟨dl1, dl2⟩ := mul_bd d1 d2 l1 l2
  have HA := hide (specRoundDiv_any (a * g + c * h) 65536 (by omega) (by omega) (by omega))
  have EA : Hid (rdivI (a * g + c * h) 65536 = crossI a g c h) := rfl
  obtain ⟨qA1, qA2⟩ := rdiv_bd (n := a * g + c * h) (m := 17592186044416) (by omega) (by omega)
  generalize rdivI (a * g + c * h) 65536 = qA at HA EA qA1 qA2
  have HB := hide (specRoundDiv_any (b * g + d * h) 65536 (by omega) (by omega) (by omega))
  have EB : Hid (rdivI (b * g + d * h) 65536 = crossI b g d h) := rfl
  obtain ⟨qB1, qB2⟩ := rdiv_bd (n := b * g + d * h) (m := 17592186044416) (by omega) (by omega)
  generalize rdivI (b * g + d * h) 65536 = qB at HB EB qB1 qB2
  have HC := hide (specRoundDiv_any (a * i + c * j) 65536 (by omega) (by omega) (by omega))
  have EC : Hid (rdivI (a * i + c * j) 65536 = crossI a i c j) := rfl
  obtain ⟨qC1, qC2⟩ := rdiv_bd (n := a * i + c * j) (m := 17592186044416) (by omega) (by omega)
  generalize rdivI (a * i + c * j) 65536 = qC at HC EC qC1 qC2
  have HD := hide (specRoundDiv_any (b * i + d * j) 65536 (by omega) (by omega) (by omega))
  have ED : Hid (rdivI (b * i + d * j) 65536 = crossI b i d j) := rfl
  obtain ⟨qD1, qD2⟩ := rdiv_bd (n := b * i + d * j) (m := 17592186044416) (by omega) (by omega)
  generalize rdivI (b * i + d * j) 65536 = qD at HD ED qD1 qD2
  have HE := hide (specRoundDiv_any (a * k + c * l) 65536 (by omega) (by omega) (by omega))
  have EE : Hid (rdivI (a * k + c * l) 65536 = crossI a k c l) := rfl
  obtain ⟨qE1, qE2⟩ := rdiv_bd (n := a * k + c * l) (m := 17592186044416) (by omega) (by omega)
  generalize rdivI (a * k + c * l) 65536 = qE at HE EE qE1 qE2
  have HF := hide (specRoundDiv_any (b * k + d * l) 65536 (by omega) (by omega) (by omega))
  have EF : Hid (rdivI (b * k + d * l) 65536 = crossI b k d l) := rfl
  obtain ⟨qF1, qF2⟩ := rdiv_bd (n := b * k + d * l) (m := 17592186044416) (by omega) (by omega)
  generalize rdivI (b * k + d * l) 65536 = qF at HF EF qF1 qF2
  have u1 : IntKind.i64.wrap (a * k) = a * k := IntWalk.i64_in _ (by omega)
  have u2 : IntKind.i64.wrap (c * l) = c * l := IntWalk.i64_in _ (by omega)
  have u3 : IntKind.i64.wrap (a * k + c * l) = a * k + c * l := IntWalk.i64_in _ (by omega)
  have u4 : IntKind.i64.wrap (qE + e) = qE + e := IntWalk.i64_in _ (by omega)
  have u5 : IntKind.i64.wrap (b * k) = b * k := IntWalk.i64_in _ (by omega)
  have u6 : IntKind.i64.wrap (d * l) = d * l := IntWalk.i64_in _ (by omega)
  have u7 : IntKind.i64.wrap (b * k + d * l) = b * k + d * l := IntWalk.i64_in _ (by omega)
  have u8 : IntKind.i64.wrap (qF + f) = qF + f := IntWalk.i64_in _ (by omega)
  have HO := hide (specMatOk_any qA qB qC qD (qE + e) (qF + f))
  have EO : Hid (matOkB qA qB qC qD (qE + e) (qF + f) = matOkB (crossI a g c h) (crossI b g d h) (crossI a i c j) (crossI b i d j) (crossI a k c l + e) (crossI b k d l + f)) := by unfold Hid; rw [unhide EA, unhide EB, unhide EC, unhide ED, unhide EE, unhide EF]
  generalize matOkB qA qB qC qD (qE + e) (qF + f) = po at HO EO
  go_enter Try.func23, Try.ntmps23
  go_wp2_with fail
  refine (unhide HM _).mono ?_
  rintro r w1 ⟨rfl, hb1⟩
  have C1 := hide (below_ends (al3_below _ _ _ _) hb1 (by rw [al3_size]; omega))
  obtain ⟨_, _, _, _, _, _, hm⟩ := cells6 hb1 (al3_0 _ _ _ _) (by rw [al3_size]; omega)
  obtain ⟨p0, p1, p2, p3, p4, p5, hp⟩ := cells6 hb1 (al3_1 _ _ _ _) (by rw [al3_size]; omega)
  obtain ⟨_, _, _, _, _, _, hr⟩ := cells6 hb1 (al3_2 _ _ _ _) (by rw [al3_size]; omega)
  have hs : w.heap.size + 3 ≤ w1.heap.size := by have := hb1.size; rw [al3_size] at this; exact this
  have H1 := hide (And.intro hm (And.intro hp hr))
  clear hb1 hp hr hm
  go_wp2_with fail
  refine (unhide HP _).mono ?_
  rintro r w2 ⟨rfl, hb2⟩
  clear p0 p1 p2 p3 p4 p5
  have C2 := hide (below_ends (unhide C1) hb2 (by omega))
  obtain ⟨m0, m1, m2, m3, m4, m5, _⟩ := cells6 hb2 (unhide H1).1 (by omega)
  obtain ⟨p0, p1, p2, p3, p4, p5, _⟩ := cells6 hb2 (unhide H1).2.1 (by omega)
  obtain ⟨r0, r1, r2, r3, r4, r5, hr⟩ := cells6 hb2 (unhide H1).2.2 (by omega)
  obtain ⟨g0, g1, g2, g3, g4, g5⟩ := free6 hr
  have hs2 : w.heap.size + 3 ≤ w2.heap.size := Nat.le_trans hs hb2.size
  obtain ⟨s0, s1, s2, s3, s4, s5⟩ := past6 (by omega) m0 m1 m2 m3 m4 m5
  obtain ⟨t0, t1, t2, t3, t4, t5⟩ := past6 (by omega) p0 p1 p2 p3 p4 p5
  have HR := hide hr
  clear hb2 hr
  go_wp2_with fail
  refine (unhide HA _).mono ?_
  rintro r w3 ⟨rfl, rfl⟩
  go_wp2_with fail
  refine (unhide HB _).mono ?_
  rintro r w3 ⟨rfl, rfl⟩
  go_wp2_with fail
  refine (unhide HC _).mono ?_
  rintro r w3 ⟨rfl, rfl⟩
  go_wp2_with fail
  refine (unhide HD _).mono ?_
  rintro r w3 ⟨rfl, rfl⟩
  go_wp2_with fail
  go_region_held3 (fun u => u.cell? ⟨w.heap.size, 0, none⟩ = some (.int .i64 a) ∧ u.cell? ⟨w.heap.size + 1, 4, none⟩ = some (.int .i64 k) ∧ u.cell? ⟨w.heap.size, 2, none⟩ = some (.int .i64 c) ∧ u.cell? ⟨w.heap.size + 1, 5, none⟩ = some (.int .i64 l) ∧ u.cell? ⟨w.heap.size, 4, none⟩ = some (.int .i64 e)) (go_keep) (first | (go_at_call 39; refine (unhide HE _).mono ?_; rintro r w3 ⟨rfl, rfl⟩))
  go_wp2_with fail
  go_region_held3 (fun u => u.cell? ⟨w.heap.size, 1, none⟩ = some (.int .i64 b) ∧ u.cell? ⟨w.heap.size + 1, 4, none⟩ = some (.int .i64 k) ∧ u.cell? ⟨w.heap.size, 3, none⟩ = some (.int .i64 d) ∧ u.cell? ⟨w.heap.size + 1, 5, none⟩ = some (.int .i64 l) ∧ u.cell? ⟨w.heap.size, 5, none⟩ = some (.int .i64 f)) (go_keep) (first | (go_at_call 39; refine (unhide HF _).mono ?_; rintro r w3 ⟨rfl, rfl⟩))
  go_wp2_with fail
  refine (unhide HO _).mono ?_
  rintro r w3 ⟨rfl, hb3'⟩
  have hb3 := below_undrew (below_undrew hb3')
  have C3 := hide (below_ends ((unhide C2).alloc (by omega) _) hb3 (by rw [al1_size]; omega))
  obtain ⟨o0, o1, o2, o3, o4, o5, _⟩ := cells6 hb3 (al1_0 _ _) (by rw [al1_size]; omega)
  obtain ⟨r0, r1, r2, r3, r4, r5, hr⟩ := cells6 hb3 ((heap_alloc_old _ _ (by omega)).trans (unhide HR)) (by rw [al1_size]; omega)
  obtain ⟨v0, v1, v2, v3, v4, v5⟩ := free6 hr
  clear hb3 hb3' hr s0 s1 s2 s3 s4 s5 t0 t1 t2 t3 t4 t5 u1 u2 u3 u4 u5 u6 u7 u8
  cases po
  · have HV : Hid (compV a b c d e f g h i j k l = .tuple #[.agg #[.int .i64 0, .int .i64 0, .int .i64 0, .int .i64 0, .int .i64 0, .int .i64 0], .bool false]) := by unfold Hid compV; rw [← unhide EO]; rfl
    go_wp2_with fail
    refine bodyPost_ret (v := .tuple #[.agg #[.int .i64 0, .int .i64 0, .int .i64 0, .int .i64 0, .int .i64 0, .int .i64 0], .bool false]) (by simp [results, Try.results23, go_sem, r0, r1, r2, r3, r4, r5]) rfl ⟨by rw [unhide HV], ?_⟩
    exact below_put6 (unhide C3) (by omega) _ _ _ _ _ _
  · have HV : Hid (compV a b c d e f g h i j k l = .tuple #[.agg #[.int .i64 qA, .int .i64 qB, .int .i64 qC, .int .i64 qD, .int .i64 (qE + e), .int .i64 (qF + f)], .bool true]) := by unfold Hid compV; rw [← unhide EO, unhide EA, unhide EB, unhide EC, unhide ED, unhide EE, unhide EF]; rfl
    go_wp2_with fail
    refine bodyPost_ret (v := .tuple #[.agg #[.int .i64 qA, .int .i64 qB, .int .i64 qC, .int .i64 qD, .int .i64 (qE + e), .int .i64 (qF + f)], .bool true]) (by simp [results, Try.results23, go_sem, r0, r1, r2, r3, r4, r5]) rfl ⟨by rw [unhide HV], ?_⟩
    exact below_put6 (unhide C3) (by omega) _ _ _ _ _ _
end Go.Proofs.Ytdbphpekhmlmdaa

/-
  The walk of the program's divisions: down, and what is left.
-/
namespace Go.Proofs.Ytdbphpekhmlmdaa
open Go.RowKit

/-- What a division answers: down, the rest, and by what. -/
def dDown (a b : Int) : Int := if b < 1 then 0 else a / b
def dRest (a b : Int) : Int := if b < 1 then 0 else a % b
def dBy (b : Int) : Int := if b < 1 then 1 else b

theorem rest_neg (a b : Int) (hb : 1 ≤ b) (h : a.tmod b < 0) : a % b = a.tmod b + b := by
  have e := Int.mul_tdiv_add_tmod a b
  have bd := tmod_bd a b hb
  have := (Int.ediv_emod_unique (a := a) (b := b) (r := a.tmod b + b) (q := a.tdiv b - 1) (by omega)).2 ⟨by rw [Int.mul_sub]; omega, by omega, by omega⟩
  exact this.2
theorem rest_pos (a b : Int) (hb : 1 ≤ b) (h : ¬ a.tmod b < 0) : a % b = a.tmod b := by
  have e := Int.mul_tdiv_add_tmod a b
  have bd := tmod_bd a b hb
  have := (Int.ediv_emod_unique (a := a) (b := b) (r := a.tmod b) (q := a.tdiv b) (by omega)).2 ⟨by omega, by omega, by omega⟩
  exact this.2

set_option maxHeartbeats 1000000 in
theorem implDivide_any (a b : Int) (a0 : -9223372036854775808 ≤ a) (a1 : a ≤ 9223372036854775807) (b1 : b ≤ 9223372036854775807) (w : World) :
    Calls Try.prog 64 #[.int .i64 a, .int .i64 b] w fun e w' => e = .returned (.agg #[.int .i64 (dDown a b), .int .i64 (dRest a b), .int .i64 (dBy b)]) ∧ Below w.heap.size w w' := by
  by_cases hb : b < 1
  · have e1 : dDown a b = 0 := by unfold dDown; rw [if_pos hb]
    have e2 : dRest a b = 0 := by unfold dRest; rw [if_pos hb]
    have e3 : dBy b = 1 := by unfold dBy; rw [if_pos hb]
    rw [e1, e2, e3]
    clear e1 e2 e3
    go_enter Try.func64, Try.ntmps64
    go_wp2
    go_region
    all_goals go_wp2
    refine bodyPost_ret (v := .agg #[.int .i64 0, .int .i64 0, .int .i64 1]) (by simp [results, Try.results64, go_sem]) rfl ⟨rfl, ?_⟩
    exact (al2_below _ _ _).drew
  · have hb1 : 1 ≤ b := by omega
    have hb2 : (b == 0) = false := beq_eq_false_iff_ne.2 (by omega)
    have bd := tmod_bd a b hb1
    obtain ⟨bd1, bd2⟩ := bd
    by_cases hr : a.tmod b < 0
    · have e1 : dDown a b = a.tdiv b - 1 := by unfold dDown; rw [if_neg hb, floor_neg a b hb1 hr]
      have e2 : dRest a b = a.tmod b + b := by unfold dRest; rw [if_neg hb, rest_neg a b hb1 hr]
      have e3 : dBy b = b := by unfold dBy; rw [if_neg hb]
      have hf := floor_fit hb1 a0 a1
      rw [floor_neg a b hb1 hr] at hf
      obtain ⟨f1, f2⟩ := hf
      rw [e1, e2, e3]
      clear e1 e2 e3
      go_enter Try.func64, Try.ntmps64
      go_wp2
      go_region
      all_goals go_wp2
      refine bodyPost_ret (v := .agg #[.int .i64 (a.tdiv b - 1), .int .i64 (a.tmod b + b), .int .i64 b]) (by simp [results, Try.results64, go_sem]) rfl ⟨rfl, ?_⟩
      exact (al2_below _ _ _).drew
    · have e1 : dDown a b = a.tdiv b := by unfold dDown; rw [if_neg hb, floor_pos a b hb1 hr]
      have e2 : dRest a b = a.tmod b := by unfold dRest; rw [if_neg hb, rest_pos a b hb1 hr]
      have e3 : dBy b = b := by unfold dBy; rw [if_neg hb]
      rw [e1, e2, e3]
      clear e1 e2 e3
      go_enter Try.func64, Try.ntmps64
      go_wp2
      go_region
      all_goals go_wp2
      refine bodyPost_ret (v := .agg #[.int .i64 (a.tdiv b), .int .i64 (a.tmod b), .int .i64 b]) (by simp [results, Try.results64, go_sem]) rfl ⟨rfl, ?_⟩
      exact (al2_below _ _ _).drew

theorem implNearest_any (q r b : Int) (r0 : 0 ≤ r) (r1 : r < b) (b1 : b ≤ 9223372036854775807) (q0 : -9223372036854775808 ≤ q) (q1 : b - r ≤ r → q + 1 ≤ 9223372036854775807) (w : World) :
    Calls Try.prog 65 #[.agg #[.int .i64 q, .int .i64 r, .int .i64 b]] w fun e w' => e = .returned (.int .i64 (if b - r ≤ r then q + 1 else q)) ∧ Below w.heap.size w w' := by
  by_cases hc : b - r ≤ r
  · have f := q1 hc
    rw [if_pos hc]
    clear q1
    go_enter Try.func65, Try.ntmps65
    go_wp2
    go_ret
    exact ⟨rfl, al1_below _ _⟩
  · rw [if_neg hc]
    clear q1
    go_enter Try.func65, Try.ntmps65
    go_wp2
    go_ret
    exact ⟨rfl, al1_below _ _⟩
end Go.Proofs.Ytdbphpekhmlmdaa

/-
  The walks of the program's chapter 3: divisions by a generic type, roots bit by bit.
-/
namespace Go.Proofs.Ytdbphpekhmlmdaa
open Go.RowKit

theorem implRoundDiv_any (a b : Int) (a0 : -9223372036854775808 ≤ a) (a1 : a ≤ 9223372036854775807) (b1 : b ≤ 9223372036854775807) (w : World) :
    Calls Try.prog 41 #[.int .i64 a, .int .i64 b] w fun e w' => e = .returned (.int .i64 (rdivI a b)) ∧ Below w.heap.size w w' := by
  have HD := hide (implDivide_any a b a0 a1 b1)
  have H : Hid ((if dBy b - dRest a b ≤ dRest a b then dDown a b + 1 else dDown a b) = rdivI a b) := by
    unfold Hid dBy dRest dDown rdivI
    by_cases hb : b < 1
    · rw [if_pos hb, if_pos hb, if_pos hb, if_pos hb]; rfl
    · rw [if_neg hb, if_neg hb, if_neg hb, if_neg hb]
  have HN := hide (implNearest_any (dDown a b) (dRest a b) (dBy b) (by
      unfold dRest; by_cases hb : b < 1
      · rw [if_pos hb]; exact Int.le_refl 0
      · rw [if_neg hb]; exact (emod_bd a b (by omega)).1) (by
      unfold dRest dBy; by_cases hb : b < 1
      · rw [if_pos hb, if_pos hb]; decide
      · rw [if_neg hb, if_neg hb]; exact (emod_bd a b (by omega)).2) (by
      unfold dBy; by_cases hb : b < 1
      · rw [if_pos hb]; decide
      · rw [if_neg hb]; exact b1) (by
      unfold dDown; by_cases hb : b < 1
      · rw [if_pos hb]; decide
      · rw [if_neg hb]; exact (floor_fit (by omega) a0 a1).1) (by
      unfold dRest dBy dDown; by_cases hb : b < 1
      · rw [if_pos hb, if_pos hb, if_pos hb]; decide
      · rw [if_neg hb, if_neg hb, if_neg hb]; exact rdiv_fit (by omega) a0 a1))
  generalize (if dBy b - dRest a b ≤ dRest a b then dDown a b + 1 else dDown a b) = z at H HN
  go_enter Try.func41, Try.ntmps41
  go_wp2_with fail
  refine (unhide HD _).mono ?_
  rintro e w1 ⟨rfl, hb1⟩
  go_wp2_with fail
  refine (unhide HN _).mono ?_
  rintro e w2 ⟨rfl, hb2⟩
  go_wp2
  go_ret
  exact ⟨ret_i64 (unhide H), below_after hb2 hb1 (Nat.le_refl _)⟩

theorem implClamp_any (x low high : Int) (w : World) :
    Calls Try.prog 63 #[.int .i64 x, .int .i64 low, .int .i64 high] w fun e w' => e = .returned (.int .i64 (clampI x low high)) ∧ w' = w := by
  by_cases h1 : x < low
  · have H : Hid (low = clampI x low high) := by unfold Hid clampI; rw [if_pos h1]
    go_enter Try.func63, Try.ntmps63
    go_wp2
    go_ret
    exact ⟨ret_i64 (unhide H), rfl⟩
  · by_cases h2 : high < x
    · have H : Hid (high = clampI x low high) := by unfold Hid clampI; rw [if_neg h1, if_pos h2]
      go_enter Try.func63, Try.ntmps63
      go_wp2
      go_ret
      exact ⟨ret_i64 (unhide H), rfl⟩
    · have H : Hid (x = clampI x low high) := by unfold Hid clampI; rw [if_neg h1, if_neg h2]
      go_enter Try.func63, Try.ntmps63
      go_wp2
      go_ret
      exact ⟨ret_i64 (unhide H), rfl⟩

/-- A power of two. -/
def PowB (b : Int) : Prop := ∃ p : Nat, b = 2 ^ p
theorem PowB.half {b : Int} (h : PowB b) : (b = 1) ∨ (PowB (b / 2) ∧ 2 * (b / 2) = b ∧ 1 ≤ b / 2) := by
  obtain ⟨p, rfl⟩ := h
  cases p with
  | zero => exact .inl rfl
  | succ p =>
    have e : (2 : Int) ^ (p + 1) / 2 = 2 ^ p := by rw [Int.pow_succ]; exact Int.mul_ediv_cancel _ (by decide)
    refine .inr ⟨⟨p, e⟩, ?_, ?_⟩
    · rw [e, Int.pow_succ, Int.mul_comm]
    · rw [e]; exact Int.pow_pos (by decide)

/-- Where the root stands while the bits go down. -/
structure RootAt (n r b : Int) : Prop where
  pos : 0 ≤ r
  bit : 0 ≤ b
  pow : b = 0 ∨ PowB b
  room : r + 2 * b ≤ 4294967296
  sq : r * r ≤ n
  next : n < (r + (if b = 0 then 1 else 2 * b)) * (r + (if b = 0 then 1 else 2 * b))

theorem le_fdiv {n m : Int} (hm : 1 ≤ m) : m ≤ fdivI n m ↔ m * m ≤ n := by
  unfold fdivI
  rw [if_neg (by omega), Int.le_ediv_iff_mul_le (by omega)]

theorem rootAt_step {n r b : Int} (h : RootAt n r b) (hb : 0 < b) (t : Int) (ht : (r + b) * (r + b) ≤ n ∧ t = r + b ∨ ¬ (r + b) * (r + b) ≤ n ∧ t = r) : RootAt n t (b / 2) := by
  obtain ⟨h1, h2, h3, h4, h5, h6⟩ := h
  rw [if_neg (by omega)] at h6
  have hp : PowB b := h3.resolve_left (by omega)
  have ht0 : 0 ≤ t := by omega
  have hsq : t * t ≤ n := by rcases ht with ⟨a, rfl⟩ | ⟨_, rfl⟩ <;> assumption
  have hnx : n < (t + b) * (t + b) := by
    rcases ht with ⟨_, rfl⟩ | ⟨a, rfl⟩
    · rw [show r + b + b = r + 2 * b by omega]; exact h6
    · omega
  rcases hp.half with rfl | ⟨k1, k2, k3⟩
  · exact ⟨ht0, by decide, .inl (by decide), by omega, hsq, by rw [if_pos (by decide)]; exact hnx⟩
  · refine ⟨ht0, by omega, .inr k1, by omega, hsq, ?_⟩
    rw [if_neg (by omega), k2]; exact hnx

theorem rootAt_end {n r : Int} (h : RootAt n r 0) (hn : n ≤ 9223372036854775807) : IsRoot n r := by
  obtain ⟨h1, h2, h3, h4, h5, h6⟩ := h
  rw [if_pos rfl] at h6
  refine ⟨h1, ?_, h5, h6⟩
  by_cases hc : r ≤ 3037000499
  · exact hc
  · have := sq_mono (a := 3037000500) (b := r) (by omega) (by omega); omega

end Go.Proofs.Ytdbphpekhmlmdaa

/-
  The walk of the program's nearMat.
-/
namespace Go.Proofs.Ytdbphpekhmlmdaa
open Go.RowKit

theorem cell_drew (w : World) (p : Addr) : w.drew.cell? p = w.cell? p := rfl

set_option maxHeartbeats 2000000 in
set_option maxRecDepth 100000 in
theorem implNearMat_any (a b c d e f : Int) (w : World) :
    Calls Try.prog 40 #[.agg #[.int .i64 a, .int .i64 b, .int .i64 c, .int .i64 d, .int .i64 e, .int .i64 f]] w fun r w' => r = .returned (.agg #[.int .i64 (clampI a (-1048576) 1048576), .int .i64 (clampI b (-1048576) 1048576), .int .i64 (clampI c (-1048576) 1048576), .int .i64 (clampI d (-1048576) 1048576), .int .i64 (clampI e (-8388608) 8388608), .int .i64 (clampI f (-8388608) 8388608)]) ∧ Below w.heap.size w w' := by
  have K := hide implClamp_any
  generalize clampI = cl at K ⊢
  go_enter Try.func40, Try.ntmps40
  go_wp2_with fail
  obtain ⟨W, hW⟩ : ∃ W, W = (w.alloc (.cells #[.int .i64 a, .int .i64 b, .int .i64 c, .int .i64 d, .int .i64 e, .int .i64 f] 29)).alloc (.cells #[.int .i64 0, .int .i64 0, .int .i64 0, .int .i64 0, .int .i64 0, .int .i64 0] 29) := ⟨_, rfl⟩
  have A : W.heap[w.heap.size]? = some (.cells #[.int .i64 a, .int .i64 b, .int .i64 c, .int .i64 d, .int .i64 e, .int .i64 f] 29 (0, 0)) := by rw [hW]; exact al2_0 _ _ _
  have R : W.heap[w.heap.size + 1]? = some (.cells #[.int .i64 0, .int .i64 0, .int .i64 0, .int .i64 0, .int .i64 0, .int .i64 0] 29 (0, 0)) := by rw [hW]; exact al2_1 _ _ _
  have HB := hide (show Below w.heap.size w W by rw [hW]; exact al2_below _ _ _)
  rw [← hW]
  clear hW
  have B0 : w.heap.size + 1 ≤ W.heap.size := by have := heap_lt R; omega
  have k0 : ∀ u, Below (w.heap.size + 1) W u → (u.cell? ⟨w.heap.size, 0, none⟩ = some (.int .i64 a) ∧ u.cell? ⟨w.heap.size, 1, none⟩ = some (.int .i64 b) ∧ u.cell? ⟨w.heap.size, 2, none⟩ = some (.int .i64 c) ∧ u.cell? ⟨w.heap.size, 3, none⟩ = some (.int .i64 d) ∧ u.cell? ⟨w.heap.size, 4, none⟩ = some (.int .i64 e) ∧ u.cell? ⟨w.heap.size, 5, none⟩ = some (.int .i64 f) ∧ Below (w.heap.size + 1) W u) := fun u h => by
    have A' := (h.block _ (by omega)).trans A
    obtain ⟨m0, m1, m2, m3, m4, m5⟩ := row6 A'
    exact ⟨m0, m1, m2, m3, m4, m5, h⟩
  obtain ⟨r0, r1, r2, r3, r4, r5⟩ := row6 R
  obtain ⟨f0, f1, f2, f3, f4, f5⟩ := free6 R
  clear A R
  go_region_held3 (fun u => u.cell? ⟨w.heap.size, 0, none⟩ = some (.int .i64 a) ∧ u.cell? ⟨w.heap.size, 1, none⟩ = some (.int .i64 b) ∧ u.cell? ⟨w.heap.size, 2, none⟩ = some (.int .i64 c) ∧ u.cell? ⟨w.heap.size, 3, none⟩ = some (.int .i64 d) ∧ u.cell? ⟨w.heap.size, 4, none⟩ = some (.int .i64 e) ∧ u.cell? ⟨w.heap.size, 5, none⟩ = some (.int .i64 f) ∧ Below (w.heap.size + 1) W u) ((refine k0 _ ?_; first | with_reducible exact (Below.refl _ _).drew | with_reducible assumption | (with_reducible refine Below.drew ?_; with_reducible refine below_put6 ?_ (Nat.le_refl _) _ _ _ _ _ _; with_reducible exact Below.refl _ _))) (first | (go_at_call 63; refine (unhide K _ _ _ _).mono ?_; rintro r w4 ⟨rfl, rfl⟩))
  all_goals
    rename_i hH
    clear hH
    obtain ⟨V, hV⟩ : ∃ V, V = (((((((W.setCell ⟨w.heap.size + 1, 0, none⟩ (.int .i64 (cl a (-1048576) 1048576))).setCell ⟨w.heap.size + 1, 1, none⟩ (.int .i64 (cl b (-1048576) 1048576))).setCell ⟨w.heap.size + 1, 2, none⟩ (.int .i64 (cl c (-1048576) 1048576))).setCell ⟨w.heap.size + 1, 3, none⟩ (.int .i64 (cl d (-1048576) 1048576))).setCell ⟨w.heap.size + 1, 4, none⟩ (.int .i64 (cl e (-8388608) 8388608))).setCell ⟨w.heap.size + 1, 5, none⟩ (.int .i64 (cl f (-8388608) 8388608))).drew) := ⟨_, rfl⟩
    rw [← hV]
    have q0 : V.cell? ⟨w.heap.size + 1, 0, none⟩ = some (.int .i64 (cl a (-1048576) 1048576)) := by rw [hV, cell_drew]; with_reducible exact put6_0 r0 _ _ _ _ _ _
    have q1 : V.cell? ⟨w.heap.size + 1, 1, none⟩ = some (.int .i64 (cl b (-1048576) 1048576)) := by rw [hV, cell_drew]; with_reducible exact put6_1 r1 _ _ _ _ _ _
    have q2 : V.cell? ⟨w.heap.size + 1, 2, none⟩ = some (.int .i64 (cl c (-1048576) 1048576)) := by rw [hV, cell_drew]; with_reducible exact put6_2 r2 _ _ _ _ _ _
    have q3 : V.cell? ⟨w.heap.size + 1, 3, none⟩ = some (.int .i64 (cl d (-1048576) 1048576)) := by rw [hV, cell_drew]; with_reducible exact put6_3 r3 _ _ _ _ _ _
    have q4 : V.cell? ⟨w.heap.size + 1, 4, none⟩ = some (.int .i64 (cl e (-8388608) 8388608)) := by rw [hV, cell_drew]; with_reducible exact put6_4 r4 _ _ _ _ _ _
    have q5 : V.cell? ⟨w.heap.size + 1, 5, none⟩ = some (.int .i64 (cl f (-8388608) 8388608)) := by rw [hV, cell_drew]; with_reducible exact put6_5 r5 _ _ _ _ _ _
    have HV := hide (show Below w.heap.size w V by rw [hV]; exact (below_put6 (unhide HB) (by omega) _ _ _ _ _ _).drew)
    clear hV r0 r1 r2 r3 r4 r5 f0 f1 f2 f3 f4 f5 k0
    go_wp2_with fail
    refine bodyPost_ret (v := .agg #[.int .i64 (cl a (-1048576) 1048576), .int .i64 (cl b (-1048576) 1048576), .int .i64 (cl c (-1048576) 1048576), .int .i64 (cl d (-1048576) 1048576), .int .i64 (cl e (-8388608) 8388608), .int .i64 (cl f (-8388608) 8388608)]) (by simp [results, Try.results40, go_sem, q0, q1, q2, q3, q4, q5]) rfl ⟨rfl, unhide HV⟩

end Go.Proofs.Ytdbphpekhmlmdaa

/-
  The walks of the program's chapter 4: points and mats.
-/
namespace Go.Proofs.Ytdbphpekhmlmdaa
open Go.RowKit

theorem clamp_inB (x a b : Int) : decide (x = clampI x a b) = inB x a b := by
  unfold clampI inB
  by_cases h1 : x < a
  · have : ¬ a ≤ x := by omega
    simp [h1, this]
    omega
  · by_cases h2 : b < x
    · have h3 : ¬ x ≤ b := by omega
      simp [h1, h2, h3]
      omega
    · have h3 : x ≤ b := by omega
      have h4 : a ≤ x := by omega
      simp [h1, h2, h3, h4]

theorem eqlPoint (x y a b : Int) (w : World) : (Op.equalIn 10000 37 (.agg #[.int .i64 x, .int .i64 y]) (.agg #[.int .i64 a, .int .i64 b])).run Try.prog w = .ok (decide (x = a) && decide (y = b)) w := by
  have u3 := Try.underlying3
  have a3 := Try.isAgg3
  have z3 := Try.sizeOf3
  have hS : Try.prog.underlying 37 = some (.struct (Try.prog.fieldsOf 37)) := by kernel_rfl
  rw [show (10000 : Nat) = 9999 + 1 from rfl, run_equalIn_agg w 9999 37 _ _ hS (by kernel_rfl)]
  simp only [Program.fieldsOf, Try.underlying37]
  go_simp
  by_cases h1 : x = a <;> by_cases h2 : y = b <;> simp [h1, h2]

theorem eqlMat (a b c d e f g h i j k l : Int) (w : World) : (Op.equalIn 10000 29 (.agg #[.int .i64 a, .int .i64 b, .int .i64 c, .int .i64 d, .int .i64 e, .int .i64 f]) (.agg #[.int .i64 g, .int .i64 h, .int .i64 i, .int .i64 j, .int .i64 k, .int .i64 l])).run Try.prog w = .ok (decide (a = g) && (decide (b = h) && (decide (c = i) && (decide (d = j) && (decide (e = k) && decide (f = l)))))) w := by
  have u3 := Try.underlying3
  have a3 := Try.isAgg3
  have z3 := Try.sizeOf3
  have hS : Try.prog.underlying 29 = some (.struct (Try.prog.fieldsOf 29)) := by kernel_rfl
  rw [show (10000 : Nat) = 9999 + 1 from rfl, run_equalIn_agg w 9999 29 _ _ hS (by kernel_rfl)]
  simp only [Program.fieldsOf, Try.underlying29]
  go_simp
  by_cases h1 : a = g
  · by_cases h2 : b = h
    · by_cases h3 : c = i
      · by_cases h4 : d = j
        · by_cases h5 : e = k
          · by_cases h6 : f = l <;> simp [h1, h2, h3, h4, h5, h6]
          · simp [h1, h2, h3, h4, h5]
        · simp [h1, h2, h3, h4]
      · simp [h1, h2, h3]
    · simp [h1, h2]
  · simp [h1]

set_option maxHeartbeats 1000000 in
theorem implNearPoint_any (x y : Int) (w : World) :
    Calls Try.prog 95 #[.agg #[.int .i64 x, .int .i64 y]] w fun r w' => r = .returned (.agg #[.int .i64 (clampI x (-8388608) 8388608), .int .i64 (clampI y (-8388608) 8388608)]) ∧ Below w.heap.size w w' := by
  have K0 := hide (implClamp_any x (-8388608) 8388608)
  have K1 := hide (implClamp_any y (-8388608) 8388608)
  generalize clampI x (-8388608) 8388608 = o0 at K0 ⊢
  generalize clampI y (-8388608) 8388608 = o1 at K1 ⊢
  go_enter Try.func95, Try.ntmps95
  go_wp2_with fail
  obtain ⟨W, hW⟩ : ∃ W, W = (w.alloc (.cells #[.int .i64 x, .int .i64 y] 37)).alloc (.cells #[.int .i64 0, .int .i64 0] 37) := ⟨_, rfl⟩
  obtain ⟨a0, a1⟩ := row2 (w1 := W) (b := w.heap.size) (by rw [hW]; exact al2_0 _ _ _)
  have R : W.heap[w.heap.size + 1]? = some (.cells #[.int .i64 0, .int .i64 0] 37 (0, 0)) := by rw [hW]; exact al2_1 _ _ _
  obtain ⟨r0, r1⟩ := row2 R
  obtain ⟨f0, f1⟩ := free2 R
  have HB := hide (show Below w.heap.size w W by rw [hW]; exact al2_below _ _ _)
  rw [← hW]
  clear hW R
  have ne1 : ¬ w.heap.size + 1 = w.heap.size := by omega
  have ne2 : ¬ w.heap.size = w.heap.size + 1 := by omega
  go_region_held3 (fun u => u.cell? ⟨w.heap.size, 0, none⟩ = some (.int .i64 x) ∧ u.cell? ⟨w.heap.size, 1, none⟩ = some (.int .i64 y)) (go_keep) (first | (go_at_call 63; (first | go_fit (unhide K0 _) | go_fit (unhide K1 _)); rintro r w4 ⟨rfl, rfl⟩))
  all_goals
    go_wp2_with fail
    refine bodyPost_ret (v := .agg #[.int .i64 o0, .int .i64 o1]) (by simp [results, Try.results95, go_sem, r0, r1]) rfl ⟨rfl, ?_⟩
    exact below_put2 (below_drews (unhide HB) 1) (by omega) _ _

attribute [local go_sem ↓] eqlPoint in
set_option maxHeartbeats 1000000 in
theorem implPointOk_any (x y : Int) (w : World) :
    Calls Try.prog 85 #[.agg #[.int .i64 x, .int .i64 y]] w fun e w' => e = .returned (.bool (pointOkB x y)) ∧ Below w.heap.size w w' := by
  have HN := hide (implNearPoint_any x y)
  have H : Hid ((decide (x = clampI x (-8388608) 8388608) && decide (y = clampI y (-8388608) 8388608)) = pointOkB x y) := by unfold Hid pointOkB; rw [clamp_inB, clamp_inB]
  generalize clampI x (-8388608) 8388608 = o0 at HN H
  generalize clampI y (-8388608) 8388608 = o1 at HN H
  go_enter Try.func85, Try.ntmps85
  go_wp2_with fail
  obtain ⟨W, hW⟩ : ∃ W, W = (w.alloc (.cells #[.int .i64 x, .int .i64 y] 37)) := ⟨_, rfl⟩
  have A : W.heap[w.heap.size]? = some (.cells #[.int .i64 x, .int .i64 y] 37 (0, 0)) := by rw [hW]; exact al1_0 _ _
  obtain ⟨a0, a1⟩ := row2 A
  have HB := hide (show Below w.heap.size w W by rw [hW]; exact al1_below _ _)
  rw [← hW]
  clear hW
  have k0 : ∀ u, Below W.heap.size W u → (u.cell? ⟨w.heap.size, 0, none⟩ = some (.int .i64 x) ∧ u.cell? ⟨w.heap.size, 1, none⟩ = some (.int .i64 y) ∧ Below W.heap.size W u) := fun u h => keep2 A (heap_lt A) h
  have kS : ∀ u, (u.cell? ⟨w.heap.size, 0, none⟩ = some (.int .i64 x) ∧ u.cell? ⟨w.heap.size, 1, none⟩ = some (.int .i64 y) ∧ Below W.heap.size W u) → Below W.heap.size W u := fun u h => h.2.2
  go_region_held3 (fun u => u.cell? ⟨w.heap.size, 0, none⟩ = some (.int .i64 x) ∧ u.cell? ⟨w.heap.size, 1, none⟩ = some (.int .i64 y) ∧ Below W.heap.size W u) ((refine k0 _ ?_; first | with_reducible exact (Below.refl _ _).drew | (with_reducible refine below_after (by assumption) ?_ (Nat.le_refl _); with_reducible exact (Below.refl _ _).drew))) (first | (go_at_call 95; go_fit (unhide HN _); rintro r w4 ⟨rfl, hb⟩))
  all_goals
    go_wp2_with fail
    go_ret
    exact ⟨ret_bool (unhide H), below_after (kS _ (by assumption)) (unhide HB) (Nat.le_refl _)⟩

attribute [local go_sem ↓] eqlMat in
set_option maxHeartbeats 2000000 in
set_option maxRecDepth 100000 in
theorem implMatOk_any (a b c d e f : Int) (w : World) :
    Calls Try.prog 24 #[.agg #[.int .i64 a, .int .i64 b, .int .i64 c, .int .i64 d, .int .i64 e, .int .i64 f]] w fun r w' => r = .returned (.bool (matOkB a b c d e f)) ∧ Below w.heap.size w w' := by
  have HN := hide (implNearMat_any a b c d e f)
  have H : Hid ((decide (a = clampI a (-1048576) 1048576) && (decide (b = clampI b (-1048576) 1048576) && (decide (c = clampI c (-1048576) 1048576) && (decide (d = clampI d (-1048576) 1048576) && (decide (e = clampI e (-8388608) 8388608) && decide (f = clampI f (-8388608) 8388608)))))) = matOkB a b c d e f) := by unfold Hid matOkB; rw [clamp_inB, clamp_inB, clamp_inB, clamp_inB, clamp_inB, clamp_inB]
  generalize clampI a (-1048576) 1048576 = o0 at HN H
  generalize clampI b (-1048576) 1048576 = o1 at HN H
  generalize clampI c (-1048576) 1048576 = o2 at HN H
  generalize clampI d (-1048576) 1048576 = o3 at HN H
  generalize clampI e (-8388608) 8388608 = o4 at HN H
  generalize clampI f (-8388608) 8388608 = o5 at HN H
  go_enter Try.func24, Try.ntmps24
  go_wp2_with fail
  obtain ⟨W, hW⟩ : ∃ W, W = (w.alloc (.cells #[.int .i64 a, .int .i64 b, .int .i64 c, .int .i64 d, .int .i64 e, .int .i64 f] 29)) := ⟨_, rfl⟩
  have A : W.heap[w.heap.size]? = some (.cells #[.int .i64 a, .int .i64 b, .int .i64 c, .int .i64 d, .int .i64 e, .int .i64 f] 29 (0, 0)) := by rw [hW]; exact al1_0 _ _
  obtain ⟨a0, a1, a2, a3, a4, a5⟩ := row6 A
  have HB := hide (show Below w.heap.size w W by rw [hW]; exact al1_below _ _)
  rw [← hW]
  clear hW
  have k0 : ∀ u, Below W.heap.size W u → (u.cell? ⟨w.heap.size, 0, none⟩ = some (.int .i64 a) ∧ u.cell? ⟨w.heap.size, 1, none⟩ = some (.int .i64 b) ∧ u.cell? ⟨w.heap.size, 2, none⟩ = some (.int .i64 c) ∧ u.cell? ⟨w.heap.size, 3, none⟩ = some (.int .i64 d) ∧ u.cell? ⟨w.heap.size, 4, none⟩ = some (.int .i64 e) ∧ u.cell? ⟨w.heap.size, 5, none⟩ = some (.int .i64 f) ∧ Below W.heap.size W u) := fun u h => keep6 A (heap_lt A) h
  have kS : ∀ u, (u.cell? ⟨w.heap.size, 0, none⟩ = some (.int .i64 a) ∧ u.cell? ⟨w.heap.size, 1, none⟩ = some (.int .i64 b) ∧ u.cell? ⟨w.heap.size, 2, none⟩ = some (.int .i64 c) ∧ u.cell? ⟨w.heap.size, 3, none⟩ = some (.int .i64 d) ∧ u.cell? ⟨w.heap.size, 4, none⟩ = some (.int .i64 e) ∧ u.cell? ⟨w.heap.size, 5, none⟩ = some (.int .i64 f) ∧ Below W.heap.size W u) → Below W.heap.size W u := fun u h => h.2.2.2.2.2.2
  go_region_held3 (fun u => u.cell? ⟨w.heap.size, 0, none⟩ = some (.int .i64 a) ∧ u.cell? ⟨w.heap.size, 1, none⟩ = some (.int .i64 b) ∧ u.cell? ⟨w.heap.size, 2, none⟩ = some (.int .i64 c) ∧ u.cell? ⟨w.heap.size, 3, none⟩ = some (.int .i64 d) ∧ u.cell? ⟨w.heap.size, 4, none⟩ = some (.int .i64 e) ∧ u.cell? ⟨w.heap.size, 5, none⟩ = some (.int .i64 f) ∧ Below W.heap.size W u) ((refine k0 _ ?_; first | with_reducible exact (Below.refl _ _).drew | (with_reducible refine below_after (by assumption) ?_ (Nat.le_refl _); with_reducible exact (Below.refl _ _).drew))) (first | (go_at_call 40; go_fit (unhide HN _); rintro r w4 ⟨rfl, hb⟩))
  all_goals
    go_wp2_with fail
    go_ret
    exact ⟨ret_bool (unhide H), below_after (kS _ (by assumption)) (unhide HB) (Nat.le_refl _)⟩

end Go.Proofs.Ytdbphpekhmlmdaa

/-
  The walk of the program's turn.
-/
namespace Go.Proofs.Ytdbphpekhmlmdaa
open Go.RowKit

theorem cross_bd {a c x y : Int} (a1 : -1048576 ≤ a) (a2 : a ≤ 1048576) (c1 : -1048576 ≤ c) (c2 : c ≤ 1048576) (x1 : -8388608 ≤ x) (x2 : x ≤ 8388608) (y1 : -8388608 ≤ y) (y2 : y ≤ 8388608) : -17592186044417 ≤ crossI a x c y ∧ crossI a x c y ≤ 17592186044417 := by
  obtain ⟨ax1, ax2⟩ := mul_bd a1 a2 x1 x2
  obtain ⟨cy1, cy2⟩ := mul_bd c1 c2 y1 y2
  obtain ⟨h1, h2⟩ := rdiv_bd (n := a * x + c * y) (m := 17592186044416) (by omega) (by omega)
  exact ⟨h1, h2⟩

set_option maxHeartbeats 8000000 in
set_option maxRecDepth 100000 in
theorem implTurn_any (a b c d e f x y : Int) (a1 : -1048576 ≤ a) (a2 : a ≤ 1048576) (b1 : -1048576 ≤ b) (b2 : b ≤ 1048576) (c1 : -1048576 ≤ c) (c2 : c ≤ 1048576) (d1 : -1048576 ≤ d) (d2 : d ≤ 1048576) (x1 : -8388608 ≤ x) (x2 : x ≤ 8388608) (y1 : -8388608 ≤ y) (y2 : y ≤ 8388608) (w : World) :
    Calls Try.prog 25 #[.agg #[.int .i64 a, .int .i64 b, .int .i64 c, .int .i64 d, .int .i64 e, .int .i64 f], .agg #[.int .i64 x, .int .i64 y]] w fun r w' => r = .returned (.agg #[.int .i64 (crossI a x c y), .int .i64 (crossI b x d y)]) ∧ Below w.heap.size w w' := by
  obtain ⟨ax1, ax2⟩ := mul_bd a1 a2 x1 x2
  obtain ⟨cy1, cy2⟩ := mul_bd c1 c2 y1 y2
  obtain ⟨bx1, bx2⟩ := mul_bd b1 b2 x1 x2
  obtain ⟨dy1, dy2⟩ := mul_bd d1 d2 y1 y2
  have HX := hide (implRoundDiv_any (a * x + c * y) 65536 (by omega) (by omega) (by omega))
  have HY := hide (implRoundDiv_any (b * x + d * y) 65536 (by omega) (by omega) (by omega))
  have EX : Hid (rdivI (a * x + c * y) 65536 = crossI a x c y) := rfl
  have EY : Hid (rdivI (b * x + d * y) 65536 = crossI b x d y) := rfl
  generalize rdivI (a * x + c * y) 65536 = qx at HX EX
  generalize rdivI (b * x + d * y) 65536 = qy at HY EY
  have u1 : IntKind.i64.wrap (a * x) = a * x := IntWalk.i64_in _ (by omega)
  have u2 : IntKind.i64.wrap (c * y) = c * y := IntWalk.i64_in _ (by omega)
  have u3 : IntKind.i64.wrap (a * x + c * y) = a * x + c * y := IntWalk.i64_in _ (by omega)
  have u5 : IntKind.i64.wrap (b * x) = b * x := IntWalk.i64_in _ (by omega)
  have u6 : IntKind.i64.wrap (d * y) = d * y := IntWalk.i64_in _ (by omega)
  have u7 : IntKind.i64.wrap (b * x + d * y) = b * x + d * y := IntWalk.i64_in _ (by omega)
  clear ax1 ax2 cy1 cy2 bx1 bx2 dy1 dy2 a1 a2 b1 b2 c1 c2 d1 d2 x1 x2 y1 y2
  go_enter Try.func25, Try.ntmps25
  go_wp2_with fail
  obtain ⟨W, hW⟩ : ∃ W, W = ((w.alloc (.cells #[.int .i64 a, .int .i64 b, .int .i64 c, .int .i64 d, .int .i64 e, .int .i64 f] 29)).alloc (.cells #[.int .i64 x, .int .i64 y] 37)).alloc (.cells #[.int .i64 0, .int .i64 0] 37) := ⟨_, rfl⟩
  have A : W.heap[w.heap.size]? = some (.cells #[.int .i64 a, .int .i64 b, .int .i64 c, .int .i64 d, .int .i64 e, .int .i64 f] 29 (0, 0)) := by rw [hW]; exact al3_0 _ _ _ _
  have P : W.heap[w.heap.size + 1]? = some (.cells #[.int .i64 x, .int .i64 y] 37 (0, 0)) := by rw [hW]; exact al3_1 _ _ _ _
  have R : W.heap[w.heap.size + 1 + 1]? = some (.cells #[.int .i64 0, .int .i64 0] 37 (0, 0)) := by rw [hW]; exact al3_2 _ _ _ _
  have HB := hide (show Below w.heap.size w W by rw [hW]; exact al3_below _ _ _ _)
  rw [← hW]
  clear hW
  have B0 : w.heap.size + 2 ≤ W.heap.size := by have := heap_lt R; omega
  have k0 : ∀ u, Below (w.heap.size + 2) W u → (u.cell? ⟨w.heap.size, 0, none⟩ = some (.int .i64 a) ∧ u.cell? ⟨w.heap.size, 1, none⟩ = some (.int .i64 b) ∧ u.cell? ⟨w.heap.size, 2, none⟩ = some (.int .i64 c) ∧ u.cell? ⟨w.heap.size, 3, none⟩ = some (.int .i64 d) ∧ u.cell? ⟨w.heap.size + 1, 0, none⟩ = some (.int .i64 x) ∧ u.cell? ⟨w.heap.size + 1, 1, none⟩ = some (.int .i64 y) ∧ Below (w.heap.size + 2) W u) := fun u h => by
    have A' := (h.block _ (by omega)).trans A
    have P' := (h.block _ (by omega)).trans P
    obtain ⟨m0, m1, m2, m3, _, _⟩ := row6 A'
    obtain ⟨p0, p1⟩ := row2 P'
    exact ⟨m0, m1, m2, m3, p0, p1, h⟩
  have kS : ∀ u, (u.cell? ⟨w.heap.size, 0, none⟩ = some (.int .i64 a) ∧ u.cell? ⟨w.heap.size, 1, none⟩ = some (.int .i64 b) ∧ u.cell? ⟨w.heap.size, 2, none⟩ = some (.int .i64 c) ∧ u.cell? ⟨w.heap.size, 3, none⟩ = some (.int .i64 d) ∧ u.cell? ⟨w.heap.size + 1, 0, none⟩ = some (.int .i64 x) ∧ u.cell? ⟨w.heap.size + 1, 1, none⟩ = some (.int .i64 y) ∧ Below (w.heap.size + 2) W u) → Below (w.heap.size + 2) W u := fun u h => h.2.2.2.2.2.2
  have k1 : ∀ u, Below W.heap.size W u → u.cell? ⟨w.heap.size + 1 + 1, 0, none⟩ = some (.int .i64 0) ∧ u.cell? ⟨w.heap.size + 1 + 1, 1, none⟩ = some (.int .i64 0) ∧ u.frozen? ⟨w.heap.size + 1 + 1, 0, none⟩ = false ∧ u.frozen? ⟨w.heap.size + 1 + 1, 1, none⟩ = false := fun u h => by
    have R' := (h.block _ (heap_lt R)).trans R
    obtain ⟨r0, r1⟩ := row2 R'
    obtain ⟨f0, f1⟩ := free2 R'
    exact ⟨r0, r1, f0, f1⟩
  have HA := hide A
  have HP := hide P
  have HR := hide R
  clear A P R
  go_region_held3 (fun u => u.cell? ⟨w.heap.size, 0, none⟩ = some (.int .i64 a) ∧ u.cell? ⟨w.heap.size, 1, none⟩ = some (.int .i64 b) ∧ u.cell? ⟨w.heap.size, 2, none⟩ = some (.int .i64 c) ∧ u.cell? ⟨w.heap.size, 3, none⟩ = some (.int .i64 d) ∧ u.cell? ⟨w.heap.size + 1, 0, none⟩ = some (.int .i64 x) ∧ u.cell? ⟨w.heap.size + 1, 1, none⟩ = some (.int .i64 y) ∧ Below (w.heap.size + 2) W u) ((refine k0 _ ?_; first | with_reducible exact (Below.refl _ _).drew | with_reducible exact Below.mono (by assumption) B0 | (with_reducible refine below_put2 ?_ (Nat.le_refl _) _ _; with_reducible exact Below.mono (by assumption) B0))) (first | (go_at_call 41; go_fit (unhide HX _); rintro r w4 ⟨rfl, hb4⟩; have h4 := below_after hb4 (Below.refl W.heap.size W).drew (Nat.le_refl _)) | (go_at_call 41; go_fit (unhide HY _); rintro r w5 ⟨rfl, hb5⟩; have h5 := below_after hb5 h4 (Nat.le_refl _); obtain ⟨r0, r1, f0, f1⟩ := k1 _ h5; clear h4 hb4 hb5))
  all_goals
    go_wp2_with fail
    refine bodyPost_ret (v := .agg #[.int .i64 qx, .int .i64 qy]) (by simp [results, Try.results25, go_sem, r0, r1]) rfl ⟨ret_p (unhide EX) (unhide EY), ?_⟩
    exact below_put2 (below_two (unhide HB) h5) (by omega) _ _
end Go.Proofs.Ytdbphpekhmlmdaa

/-
  The walk of the program's Apply.
-/
namespace Go.Proofs.Ytdbphpekhmlmdaa
open Go.RowKit

end Go.Proofs.Ytdbphpekhmlmdaa

/-
  The walk of the program's Compose.
-/
namespace Go.Proofs.Ytdbphpekhmlmdaa
open Go.RowKit

set_option maxHeartbeats 1000000 in
set_option maxRecDepth 100000 in
theorem implCompose_no (a b c d e f g h i j k l : Int) (hno : (matOkB a b c d e f && matOkB g h i j k l) = false) (w : World) :
    Calls Try.prog 10 #[.agg #[.int .i64 a, .int .i64 b, .int .i64 c, .int .i64 d, .int .i64 e, .int .i64 f], .agg #[.int .i64 g, .int .i64 h, .int .i64 i, .int .i64 j, .int .i64 k, .int .i64 l]] w fun r w' => r = .returned (.tuple #[.agg #[.int .i64 0, .int .i64 0, .int .i64 0, .int .i64 0, .int .i64 0, .int .i64 0], .bool false]) ∧ Below w.heap.size w w' := by
  have HM := hide (implMatOk_any a b c d e f)
  have HP := hide (implMatOk_any g h i j k l)
  generalize matOkB a b c d e f = pm at HM hno
  generalize matOkB g h i j k l = pp at HP hno
  go_enter Try.func10, Try.ntmps10
  go_wp2_with fail
  obtain ⟨W, hW⟩ : ∃ W, W = ((w.alloc (.cells #[.int .i64 a, .int .i64 b, .int .i64 c, .int .i64 d, .int .i64 e, .int .i64 f] 29)).alloc (.cells #[.int .i64 g, .int .i64 h, .int .i64 i, .int .i64 j, .int .i64 k, .int .i64 l] 29)).alloc (.cells #[.int .i64 0, .int .i64 0, .int .i64 0, .int .i64 0, .int .i64 0, .int .i64 0] 29) := ⟨_, rfl⟩
  have A : W.heap[w.heap.size]? = some (.cells #[.int .i64 a, .int .i64 b, .int .i64 c, .int .i64 d, .int .i64 e, .int .i64 f] 29 (0, 0)) := by rw [hW]; exact al3_0 _ _ _ _
  have P : W.heap[w.heap.size + 1]? = some (.cells #[.int .i64 g, .int .i64 h, .int .i64 i, .int .i64 j, .int .i64 k, .int .i64 l] 29 (0, 0)) := by rw [hW]; exact al3_1 _ _ _ _
  have R : W.heap[w.heap.size + 1 + 1]? = some (.cells #[.int .i64 0, .int .i64 0, .int .i64 0, .int .i64 0, .int .i64 0, .int .i64 0] 29 (0, 0)) := by rw [hW]; exact al3_2 _ _ _ _
  have HB := hide (show Below w.heap.size w W by rw [hW]; exact al3_below _ _ _ _)
  rw [← hW]
  clear hW
  obtain ⟨m0, m1, m2, m3, m4, m5⟩ := row6 A
  go_wp2_with fail
  refine (unhide HM _).mono ?_
  rintro r w1 ⟨rfl, hb⟩
  clear m0 m1 m2 m3 m4 m5
  replace A := (hb.block _ (heap_lt A)).trans A
  replace P := (hb.block _ (heap_lt P)).trans P
  replace R := (hb.block _ (heap_lt R)).trans R
  replace HB := hide (below_two (unhide HB) hb)
  clear hb
  cases pm
  · obtain ⟨r0, r1, r2, r3, r4, r5⟩ := row6 R
    obtain ⟨f0, f1, f2, f3, f4, f5⟩ := free6 R
    clear R
    go_wp2_with fail
    obtain ⟨V, hV⟩ : ∃ V, V = ((((((w1.setCell ⟨w.heap.size + 1 + 1, 0, none⟩ (.int .i64 0)).setCell ⟨w.heap.size + 1 + 1, 1, none⟩ (.int .i64 0)).setCell ⟨w.heap.size + 1 + 1, 2, none⟩ (.int .i64 0)).setCell ⟨w.heap.size + 1 + 1, 3, none⟩ (.int .i64 0)).setCell ⟨w.heap.size + 1 + 1, 4, none⟩ (.int .i64 0)).setCell ⟨w.heap.size + 1 + 1, 5, none⟩ (.int .i64 0)) := ⟨_, rfl⟩
    rw [← hV]
    have q0 : V.cell? ⟨w.heap.size + 1 + 1, 0, none⟩ = some (.int .i64 0) := by rw [hV]; with_reducible exact put6_0 r0 _ _ _ _ _ _
    have q1 : V.cell? ⟨w.heap.size + 1 + 1, 1, none⟩ = some (.int .i64 0) := by rw [hV]; with_reducible exact put6_1 r1 _ _ _ _ _ _
    have q2 : V.cell? ⟨w.heap.size + 1 + 1, 2, none⟩ = some (.int .i64 0) := by rw [hV]; with_reducible exact put6_2 r2 _ _ _ _ _ _
    have q3 : V.cell? ⟨w.heap.size + 1 + 1, 3, none⟩ = some (.int .i64 0) := by rw [hV]; with_reducible exact put6_3 r3 _ _ _ _ _ _
    have q4 : V.cell? ⟨w.heap.size + 1 + 1, 4, none⟩ = some (.int .i64 0) := by rw [hV]; with_reducible exact put6_4 r4 _ _ _ _ _ _
    have q5 : V.cell? ⟨w.heap.size + 1 + 1, 5, none⟩ = some (.int .i64 0) := by rw [hV]; with_reducible exact put6_5 r5 _ _ _ _ _ _
    have HV := hide (show Below w.heap.size w V by rw [hV]; exact below_put6 (unhide HB) (by omega) _ _ _ _ _ _)
    clear hV r0 r1 r2 r3 r4 r5 f0 f1 f2 f3 f4 f5
    refine bodyPost_ret (v := .tuple #[.agg #[.int .i64 0, .int .i64 0, .int .i64 0, .int .i64 0, .int .i64 0, .int .i64 0], .bool false]) (by simp [results, Try.results10, go_sem, q0, q1, q2, q3, q4, q5]) rfl ⟨rfl, unhide HV⟩
  obtain rfl : pp = false := by simpa using hno
  obtain ⟨p0, p1, p2, p3, p4, p5⟩ := row6 P
  go_wp2_with fail
  refine (unhide HP _).mono ?_
  rintro r w2 ⟨rfl, hb⟩
  clear p0 p1 p2 p3 p4 p5
  replace A := (hb.block _ (heap_lt A)).trans A
  replace P := (hb.block _ (heap_lt P)).trans P
  replace R := (hb.block _ (heap_lt R)).trans R
  replace HB := hide (below_two (unhide HB) hb)
  clear hb
  obtain ⟨r0, r1, r2, r3, r4, r5⟩ := row6 R
  obtain ⟨f0, f1, f2, f3, f4, f5⟩ := free6 R
  clear R
  go_wp2_with fail
  obtain ⟨V, hV⟩ : ∃ V, V = ((((((w2.setCell ⟨w.heap.size + 1 + 1, 0, none⟩ (.int .i64 0)).setCell ⟨w.heap.size + 1 + 1, 1, none⟩ (.int .i64 0)).setCell ⟨w.heap.size + 1 + 1, 2, none⟩ (.int .i64 0)).setCell ⟨w.heap.size + 1 + 1, 3, none⟩ (.int .i64 0)).setCell ⟨w.heap.size + 1 + 1, 4, none⟩ (.int .i64 0)).setCell ⟨w.heap.size + 1 + 1, 5, none⟩ (.int .i64 0)) := ⟨_, rfl⟩
  rw [← hV]
  have q0 : V.cell? ⟨w.heap.size + 1 + 1, 0, none⟩ = some (.int .i64 0) := by rw [hV]; with_reducible exact put6_0 r0 _ _ _ _ _ _
  have q1 : V.cell? ⟨w.heap.size + 1 + 1, 1, none⟩ = some (.int .i64 0) := by rw [hV]; with_reducible exact put6_1 r1 _ _ _ _ _ _
  have q2 : V.cell? ⟨w.heap.size + 1 + 1, 2, none⟩ = some (.int .i64 0) := by rw [hV]; with_reducible exact put6_2 r2 _ _ _ _ _ _
  have q3 : V.cell? ⟨w.heap.size + 1 + 1, 3, none⟩ = some (.int .i64 0) := by rw [hV]; with_reducible exact put6_3 r3 _ _ _ _ _ _
  have q4 : V.cell? ⟨w.heap.size + 1 + 1, 4, none⟩ = some (.int .i64 0) := by rw [hV]; with_reducible exact put6_4 r4 _ _ _ _ _ _
  have q5 : V.cell? ⟨w.heap.size + 1 + 1, 5, none⟩ = some (.int .i64 0) := by rw [hV]; with_reducible exact put6_5 r5 _ _ _ _ _ _
  have HV := hide (show Below w.heap.size w V by rw [hV]; exact below_put6 (unhide HB) (by omega) _ _ _ _ _ _)
  clear hV r0 r1 r2 r3 r4 r5 f0 f1 f2 f3 f4 f5
  refine bodyPost_ret (v := .tuple #[.agg #[.int .i64 0, .int .i64 0, .int .i64 0, .int .i64 0, .int .i64 0, .int .i64 0], .bool false]) (by simp [results, Try.results10, go_sem, q0, q1, q2, q3, q4, q5]) rfl ⟨rfl, unhide HV⟩

set_option maxHeartbeats 4000000 in
set_option maxRecDepth 100000 in
theorem implCompose_yes (a b c d e f g h i j k l : Int) (hm : matOkB a b c d e f = true) (hn : matOkB g h i j k l = true) (w : World) :
    Calls Try.prog 10 #[.agg #[.int .i64 a, .int .i64 b, .int .i64 c, .int .i64 d, .int .i64 e, .int .i64 f], .agg #[.int .i64 g, .int .i64 h, .int .i64 i, .int .i64 j, .int .i64 k, .int .i64 l]] w fun r w' => r = .returned (compV a b c d e f g h i j k l) ∧ Below w.heap.size w w' := by
  have HM := hide (implMatOk_any a b c d e f)
  have HP := hide (implMatOk_any g h i j k l)
  rw [hm] at HM
  rw [hn] at HP
  obtain ⟨⟨a1, a2⟩, ⟨b1, b2⟩, ⟨c1, c2⟩, ⟨d1, d2⟩, ⟨e1, e2⟩, ⟨f1, f2⟩⟩ := mat_bd hm
  obtain ⟨⟨g1, g2⟩, ⟨h1, h2⟩, ⟨i1, i2⟩, ⟨j1, j2⟩, ⟨k1, k2⟩, ⟨l1, l2⟩⟩ := mat_bd hn
  clear hm hn
  have T1 := hide (implTurn_any a b c d e f g h a1 a2 b1 b2 c1 c2 d1 d2 (by omega) (by omega) (by omega) (by omega))
  have T2 := hide (implTurn_any a b c d e f i j a1 a2 b1 b2 c1 c2 d1 d2 (by omega) (by omega) (by omega) (by omega))
  have T3 := hide (implTurn_any a b c d e f k l a1 a2 b1 b2 c1 c2 d1 d2 (by omega) (by omega) (by omega) (by omega))
  obtain ⟨qE1, qE2⟩ := cross_bd a1 a2 c1 c2 k1 k2 l1 l2
  obtain ⟨qF1, qF2⟩ := cross_bd b1 b2 d1 d2 k1 k2 l1 l2
  have HO := hide (implMatOk_any (crossI a g c h) (crossI b g d h) (crossI a i c j) (crossI b i d j) (crossI a k c l + e) (crossI b k d l + f))
  have HV : Hid (∀ p, matOkB (crossI a g c h) (crossI b g d h) (crossI a i c j) (crossI b i d j) (crossI a k c l + e) (crossI b k d l + f) = p → compV a b c d e f g h i j k l = bif p then .tuple #[.agg #[.int .i64 (crossI a g c h), .int .i64 (crossI b g d h), .int .i64 (crossI a i c j), .int .i64 (crossI b i d j), .int .i64 (crossI a k c l + e), .int .i64 (crossI b k d l + f)], .bool true] else .tuple #[.agg #[.int .i64 0, .int .i64 0, .int .i64 0, .int .i64 0, .int .i64 0, .int .i64 0], .bool false]) := fun p hp => by unfold compV; rw [hp]
  generalize crossI a g c h = qA at T1 HO HV
  generalize crossI b g d h = qB at T1 HO HV
  generalize crossI a i c j = qC at T2 HO HV
  generalize crossI b i d j = qD at T2 HO HV
  generalize crossI a k c l = qE at T3 HO HV qE1 qE2
  generalize crossI b k d l = qF at T3 HO HV qF1 qF2
  generalize matOkB qA qB qC qD (qE + e) (qF + f) = po at HO HV
  have HV' := hide (unhide HV po rfl)
  clear HV
  have u4 : IntKind.i64.wrap (qE + e) = qE + e := IntWalk.i64_in _ (by omega)
  have u8 : IntKind.i64.wrap (qF + f) = qF + f := IntWalk.i64_in _ (by omega)
  clear a1 a2 b1 b2 c1 c2 d1 d2 e1 e2 f1 f2 g1 g2 h1 h2 i1 i2 j1 j2 k1 k2 l1 l2 qE1 qE2 qF1 qF2
  go_enter Try.func10, Try.ntmps10
  go_wp2_with fail
  obtain ⟨W, hW⟩ : ∃ W, W = ((w.alloc (.cells #[.int .i64 a, .int .i64 b, .int .i64 c, .int .i64 d, .int .i64 e, .int .i64 f] 29)).alloc (.cells #[.int .i64 g, .int .i64 h, .int .i64 i, .int .i64 j, .int .i64 k, .int .i64 l] 29)).alloc (.cells #[.int .i64 0, .int .i64 0, .int .i64 0, .int .i64 0, .int .i64 0, .int .i64 0] 29) := ⟨_, rfl⟩
  have A : W.heap[w.heap.size]? = some (.cells #[.int .i64 a, .int .i64 b, .int .i64 c, .int .i64 d, .int .i64 e, .int .i64 f] 29 (0, 0)) := by rw [hW]; exact al3_0 _ _ _ _
  have P : W.heap[w.heap.size + 1]? = some (.cells #[.int .i64 g, .int .i64 h, .int .i64 i, .int .i64 j, .int .i64 k, .int .i64 l] 29 (0, 0)) := by rw [hW]; exact al3_1 _ _ _ _
  have R : W.heap[w.heap.size + 1 + 1]? = some (.cells #[.int .i64 0, .int .i64 0, .int .i64 0, .int .i64 0, .int .i64 0, .int .i64 0] 29 (0, 0)) := by rw [hW]; exact al3_2 _ _ _ _
  have HB := hide (show Below w.heap.size w W by rw [hW]; exact al3_below _ _ _ _)
  rw [← hW]
  clear hW
  obtain ⟨m0, m1, m2, m3, m4, m5⟩ := row6 A
  go_wp2_with fail
  refine (unhide HM _).mono ?_
  rintro r w1 ⟨rfl, hb⟩
  clear m0 m1 m2 m3 m4 m5
  replace A := (hb.block _ (heap_lt A)).trans A
  replace P := (hb.block _ (heap_lt P)).trans P
  replace R := (hb.block _ (heap_lt R)).trans R
  replace HB := hide (below_two (unhide HB) hb)
  clear hb
  obtain ⟨p0, p1, p2, p3, p4, p5⟩ := row6 P
  go_wp2_with fail
  refine (unhide HP _).mono ?_
  rintro r w2 ⟨rfl, hb⟩
  clear p0 p1 p2 p3 p4 p5
  replace A := (hb.block _ (heap_lt A)).trans A
  replace P := (hb.block _ (heap_lt P)).trans P
  replace R := (hb.block _ (heap_lt R)).trans R
  replace HB := hide (below_two (unhide HB) hb)
  clear hb
  obtain ⟨m0, m1, m2, m3, m4, m5⟩ := row6 A
  obtain ⟨p0, p1, p2, p3, p4, p5⟩ := row6 P
  go_wp2_with fail
  refine (unhide T1 _).mono ?_
  rintro r w3 ⟨rfl, hb⟩
  clear m0 m1 m2 m3 m4 m5 p0 p1 p2 p3 p4 p5
  replace A := (hb.block _ (heap_lt A)).trans A
  replace P := (hb.block _ (heap_lt P)).trans P
  replace R := (hb.block _ (heap_lt R)).trans R
  replace HB := hide (below_two (unhide HB) hb)
  clear hb
  obtain ⟨m0, m1, m2, m3, m4, m5⟩ := row6 A
  obtain ⟨p0, p1, p2, p3, p4, p5⟩ := row6 P
  obtain ⟨s0, s1, s2, s3, s4, s5⟩ := past6 (heap_lt A) m0 m1 m2 m3 m4 m5
  obtain ⟨t0, t1, t2, t3, t4, t5⟩ := past6 (heap_lt P) p0 p1 p2 p3 p4 p5
  go_wp2_with fail
  obtain ⟨W3, hW3⟩ : ∃ W3, W3 = w3.alloc (.cells #[.int .i64 qA, .int .i64 qB] 37) := ⟨_, rfl⟩
  replace A := (congrArg (fun u : World => u.heap[_]?) hW3).trans ((heap_alloc_old _ _ (heap_lt A)).trans A)
  replace P := (congrArg (fun u : World => u.heap[_]?) hW3).trans ((heap_alloc_old _ _ (heap_lt P)).trans P)
  replace R := (congrArg (fun u : World => u.heap[_]?) hW3).trans ((heap_alloc_old _ _ (heap_lt R)).trans R)
  have X : W3.heap[w3.heap.size]? = some (.cells #[.int .i64 qA, .int .i64 qB] 37 (0, 0)) := by rw [hW3]; exact al1_0 _ _
  replace HB := hide (show Below w.heap.size w W3 by rw [hW3]; exact below_two (unhide HB) (al1_below _ _))
  rw [← hW3]
  clear hW3 m0 m1 m2 m3 m4 m5 p0 p1 p2 p3 p4 p5 s0 s1 s2 s3 s4 s5 t0 t1 t2 t3 t4 t5
  generalize w3.heap.size = bX at X ⊢
  refine (unhide T2 _).mono ?_
  rintro r w4 ⟨rfl, hb⟩
  replace A := (hb.block _ (heap_lt A)).trans A
  replace P := (hb.block _ (heap_lt P)).trans P
  replace R := (hb.block _ (heap_lt R)).trans R
  replace X := (hb.block _ (heap_lt X)).trans X
  replace HB := hide (below_two (unhide HB) hb)
  clear hb
  obtain ⟨m0, m1, m2, m3, m4, m5⟩ := row6 A
  obtain ⟨p0, p1, p2, p3, p4, p5⟩ := row6 P
  obtain ⟨s0, s1, s2, s3, s4, s5⟩ := past6 (heap_lt A) m0 m1 m2 m3 m4 m5
  obtain ⟨t0, t1, t2, t3, t4, t5⟩ := past6 (heap_lt P) p0 p1 p2 p3 p4 p5
  go_wp2_with fail
  obtain ⟨W4, hW4⟩ : ∃ W4, W4 = w4.alloc (.cells #[.int .i64 qC, .int .i64 qD] 37) := ⟨_, rfl⟩
  replace A := (congrArg (fun u : World => u.heap[_]?) hW4).trans ((heap_alloc_old _ _ (heap_lt A)).trans A)
  replace P := (congrArg (fun u : World => u.heap[_]?) hW4).trans ((heap_alloc_old _ _ (heap_lt P)).trans P)
  replace R := (congrArg (fun u : World => u.heap[_]?) hW4).trans ((heap_alloc_old _ _ (heap_lt R)).trans R)
  replace X := (congrArg (fun u : World => u.heap[_]?) hW4).trans ((heap_alloc_old _ _ (heap_lt X)).trans X)
  have Y : W4.heap[w4.heap.size]? = some (.cells #[.int .i64 qC, .int .i64 qD] 37 (0, 0)) := by rw [hW4]; exact al1_0 _ _
  replace HB := hide (show Below w.heap.size w W4 by rw [hW4]; exact below_two (unhide HB) (al1_below _ _))
  rw [← hW4]
  clear hW4 m0 m1 m2 m3 m4 m5 p0 p1 p2 p3 p4 p5 s0 s1 s2 s3 s4 s5 t0 t1 t2 t3 t4 t5
  generalize w4.heap.size = bY at Y ⊢
  refine (unhide T3 _).mono ?_
  rintro r w5 ⟨rfl, hb⟩
  replace A := (hb.block _ (heap_lt A)).trans A
  replace P := (hb.block _ (heap_lt P)).trans P
  replace R := (hb.block _ (heap_lt R)).trans R
  replace X := (hb.block _ (heap_lt X)).trans X
  replace Y := (hb.block _ (heap_lt Y)).trans Y
  replace HB := hide (below_two (unhide HB) hb)
  clear hb
  obtain ⟨m0, m1, m2, m3, m4, m5⟩ := row6 A
  obtain ⟨p0, p1, p2, p3, p4, p5⟩ := row6 P
  obtain ⟨s0, s1, s2, s3, s4, s5⟩ := past6 (heap_lt A) m0 m1 m2 m3 m4 m5
  obtain ⟨t0, t1, t2, t3, t4, t5⟩ := past6 (heap_lt P) p0 p1 p2 p3 p4 p5
  obtain ⟨c0, c1⟩ := row2 X
  obtain ⟨d0, d1⟩ := row2 Y
  obtain ⟨v0, v1⟩ := past2 (heap_lt X) c0 c1
  obtain ⟨y0, y1⟩ := past2 (heap_lt Y) d0 d1
  go_wp2_with fail
  obtain ⟨W5, hW5⟩ : ∃ W5, W5 = (w5.alloc (.cells #[.int .i64 qE, .int .i64 qF] 37)).alloc (.cells #[.int .i64 qA, .int .i64 qB, .int .i64 qC, .int .i64 qD, .int .i64 (qE + e), .int .i64 (qF + f)] 29) := ⟨_, rfl⟩
  replace R : W5.heap[w.heap.size + 1 + 1]? = some (.cells #[.int .i64 0, .int .i64 0, .int .i64 0, .int .i64 0, .int .i64 0, .int .i64 0] 29 (0, 0)) := by rw [hW5]; exact (heap_alloc_old _ _ (Nat.lt_trans (heap_lt R) (new_lt _ _))).trans ((heap_alloc_old _ _ (heap_lt R)).trans R)
  have O : W5.heap[w5.heap.size + 1]? = some (.cells #[.int .i64 qA, .int .i64 qB, .int .i64 qC, .int .i64 qD, .int .i64 (qE + e), .int .i64 (qF + f)] 29 (0, 0)) := by rw [hW5]; exact al2_1 _ _ _
  replace HB := hide (show Below w.heap.size w W5 by rw [hW5]; exact below_two (unhide HB) (al2_below _ _ _))
  rw [← hW5]
  clear hW5 A P X Y m0 m1 m2 m3 m4 m5 p0 p1 p2 p3 p4 p5 s0 s1 s2 s3 s4 s5 t0 t1 t2 t3 t4 t5 c0 c1 d0 d1 v0 v1 y0 y1
  generalize w5.heap.size + 1 = bO at O ⊢
  refine (unhide HO _).mono ?_
  rintro r w6 ⟨rfl, hb⟩
  replace R := (hb.block _ (heap_lt R)).trans R
  replace O := (hb.block _ (heap_lt O)).trans O
  replace HB := hide (below_two (unhide HB) hb)
  clear hb
  cases po
  · obtain ⟨r0, r1, r2, r3, r4, r5⟩ := row6 R
    obtain ⟨f0, f1, f2, f3, f4, f5⟩ := free6 R
    obtain ⟨o0, o1, o2, o3, o4, o5⟩ := row6 O
    clear R O
    go_wp2_with fail
    obtain ⟨V, hV⟩ : ∃ V, V = ((((((w6.setCell ⟨w.heap.size + 1 + 1, 0, none⟩ (.int .i64 0)).setCell ⟨w.heap.size + 1 + 1, 1, none⟩ (.int .i64 0)).setCell ⟨w.heap.size + 1 + 1, 2, none⟩ (.int .i64 0)).setCell ⟨w.heap.size + 1 + 1, 3, none⟩ (.int .i64 0)).setCell ⟨w.heap.size + 1 + 1, 4, none⟩ (.int .i64 0)).setCell ⟨w.heap.size + 1 + 1, 5, none⟩ (.int .i64 0)) := ⟨_, rfl⟩
    rw [← hV]
    have q0 : V.cell? ⟨w.heap.size + 1 + 1, 0, none⟩ = some (.int .i64 0) := by rw [hV]; with_reducible exact put6_0 r0 _ _ _ _ _ _
    have q1 : V.cell? ⟨w.heap.size + 1 + 1, 1, none⟩ = some (.int .i64 0) := by rw [hV]; with_reducible exact put6_1 r1 _ _ _ _ _ _
    have q2 : V.cell? ⟨w.heap.size + 1 + 1, 2, none⟩ = some (.int .i64 0) := by rw [hV]; with_reducible exact put6_2 r2 _ _ _ _ _ _
    have q3 : V.cell? ⟨w.heap.size + 1 + 1, 3, none⟩ = some (.int .i64 0) := by rw [hV]; with_reducible exact put6_3 r3 _ _ _ _ _ _
    have q4 : V.cell? ⟨w.heap.size + 1 + 1, 4, none⟩ = some (.int .i64 0) := by rw [hV]; with_reducible exact put6_4 r4 _ _ _ _ _ _
    have q5 : V.cell? ⟨w.heap.size + 1 + 1, 5, none⟩ = some (.int .i64 0) := by rw [hV]; with_reducible exact put6_5 r5 _ _ _ _ _ _
    replace HB := hide (show Below w.heap.size w V by rw [hV]; exact below_put6 (unhide HB) (by omega) _ _ _ _ _ _)
    clear hV r0 r1 r2 r3 r4 r5 f0 f1 f2 f3 f4 f5
    refine bodyPost_ret (v := .tuple #[.agg #[.int .i64 0, .int .i64 0, .int .i64 0, .int .i64 0, .int .i64 0, .int .i64 0], .bool false]) (by simp [results, Try.results10, go_sem, q0, q1, q2, q3, q4, q5]) rfl ⟨by rw [unhide HV']; rfl, unhide HB⟩
  · obtain ⟨r0, r1, r2, r3, r4, r5⟩ := row6 R
    obtain ⟨f0, f1, f2, f3, f4, f5⟩ := free6 R
    obtain ⟨o0, o1, o2, o3, o4, o5⟩ := row6 O
    clear R O
    go_wp2_with fail
    obtain ⟨V, hV⟩ : ∃ V, V = ((((((w6.setCell ⟨w.heap.size + 1 + 1, 0, none⟩ (.int .i64 qA)).setCell ⟨w.heap.size + 1 + 1, 1, none⟩ (.int .i64 qB)).setCell ⟨w.heap.size + 1 + 1, 2, none⟩ (.int .i64 qC)).setCell ⟨w.heap.size + 1 + 1, 3, none⟩ (.int .i64 qD)).setCell ⟨w.heap.size + 1 + 1, 4, none⟩ (.int .i64 (qE + e))).setCell ⟨w.heap.size + 1 + 1, 5, none⟩ (.int .i64 (qF + f))) := ⟨_, rfl⟩
    rw [← hV]
    have q0 : V.cell? ⟨w.heap.size + 1 + 1, 0, none⟩ = some (.int .i64 qA) := by rw [hV]; with_reducible exact put6_0 r0 _ _ _ _ _ _
    have q1 : V.cell? ⟨w.heap.size + 1 + 1, 1, none⟩ = some (.int .i64 qB) := by rw [hV]; with_reducible exact put6_1 r1 _ _ _ _ _ _
    have q2 : V.cell? ⟨w.heap.size + 1 + 1, 2, none⟩ = some (.int .i64 qC) := by rw [hV]; with_reducible exact put6_2 r2 _ _ _ _ _ _
    have q3 : V.cell? ⟨w.heap.size + 1 + 1, 3, none⟩ = some (.int .i64 qD) := by rw [hV]; with_reducible exact put6_3 r3 _ _ _ _ _ _
    have q4 : V.cell? ⟨w.heap.size + 1 + 1, 4, none⟩ = some (.int .i64 (qE + e)) := by rw [hV]; with_reducible exact put6_4 r4 _ _ _ _ _ _
    have q5 : V.cell? ⟨w.heap.size + 1 + 1, 5, none⟩ = some (.int .i64 (qF + f)) := by rw [hV]; with_reducible exact put6_5 r5 _ _ _ _ _ _
    replace HB := hide (show Below w.heap.size w V by rw [hV]; exact below_put6 (unhide HB) (by omega) _ _ _ _ _ _)
    clear hV r0 r1 r2 r3 r4 r5 f0 f1 f2 f3 f4 f5
    refine bodyPost_ret (v := .tuple #[.agg #[.int .i64 qA, .int .i64 qB, .int .i64 qC, .int .i64 qD, .int .i64 (qE + e), .int .i64 (qF + f)], .bool true]) (by simp [results, Try.results10, go_sem, q0, q1, q2, q3, q4, q5]) rfl ⟨by rw [unhide HV']; rfl, unhide HB⟩
end Go.Proofs.Ytdbphpekhmlmdaa

/-
  What Compose answers at any argument, on both sides.
-/
namespace Go.Proofs.Ytdbphpekhmlmdaa
open Go.RowKit

def compOk (a b c d e f g h i j k l : Int) : Bool := (matOkB a b c d e f && matOkB g h i j k l) && matOkB (crossI a g c h) (crossI b g d h) (crossI a i c j) (crossI b i d j) (crossI a k c l + e) (crossI b k d l + f)
def compA (a b c d e f g h i j k l : Int) : Int := bif compOk a b c d e f g h i j k l then crossI a g c h else 0
def compB (a b c d e f g h i j k l : Int) : Int := bif compOk a b c d e f g h i j k l then crossI b g d h else 0
def compC (a b c d e f g h i j k l : Int) : Int := bif compOk a b c d e f g h i j k l then crossI a i c j else 0
def compD (a b c d e f g h i j k l : Int) : Int := bif compOk a b c d e f g h i j k l then crossI b i d j else 0
def compE (a b c d e f g h i j k l : Int) : Int := bif compOk a b c d e f g h i j k l then crossI a k c l + e else 0
def compF (a b c d e f g h i j k l : Int) : Int := bif compOk a b c d e f g h i j k l then crossI b k d l + f else 0

theorem specCompose_any (a b c d e f g h i j k l : Int) (w : World) :
    Calls Try.prog 23 #[.agg #[.int .i64 a, .int .i64 b, .int .i64 c, .int .i64 d, .int .i64 e, .int .i64 f], .agg #[.int .i64 g, .int .i64 h, .int .i64 i, .int .i64 j, .int .i64 k, .int .i64 l]] w fun r w' => r = .returned (.tuple #[.agg #[.int .i64 (compA a b c d e f g h i j k l), .int .i64 (compB a b c d e f g h i j k l), .int .i64 (compC a b c d e f g h i j k l), .int .i64 (compD a b c d e f g h i j k l), .int .i64 (compE a b c d e f g h i j k l), .int .i64 (compF a b c d e f g h i j k l)], .bool (compOk a b c d e f g h i j k l)]) ∧ Below w.heap.size w w' := by
  unfold compA compB compC compD compE compF compOk
  cases hm : (matOkB a b c d e f && matOkB g h i j k l)
  · exact specCompose_no a b c d e f g h i j k l hm w
  · rw [Bool.and_eq_true] at hm
    have h := specCompose_yes a b c d e f g h i j k l hm.1 hm.2 w
    unfold compV at h
    revert h
    cases matOkB (crossI a g c h) (crossI b g d h) (crossI a i c j) (crossI b i d j) (crossI a k c l + e) (crossI b k d l + f) <;> exact fun h => h

theorem implCompose_any (a b c d e f g h i j k l : Int) (w : World) :
    Calls Try.prog 10 #[.agg #[.int .i64 a, .int .i64 b, .int .i64 c, .int .i64 d, .int .i64 e, .int .i64 f], .agg #[.int .i64 g, .int .i64 h, .int .i64 i, .int .i64 j, .int .i64 k, .int .i64 l]] w fun r w' => r = .returned (.tuple #[.agg #[.int .i64 (compA a b c d e f g h i j k l), .int .i64 (compB a b c d e f g h i j k l), .int .i64 (compC a b c d e f g h i j k l), .int .i64 (compD a b c d e f g h i j k l), .int .i64 (compE a b c d e f g h i j k l), .int .i64 (compF a b c d e f g h i j k l)], .bool (compOk a b c d e f g h i j k l)]) ∧ Below w.heap.size w w' := by
  unfold compA compB compC compD compE compF compOk
  cases hm : (matOkB a b c d e f && matOkB g h i j k l)
  · exact implCompose_no a b c d e f g h i j k l hm w
  · rw [Bool.and_eq_true] at hm
    have h := implCompose_yes a b c d e f g h i j k l hm.1 hm.2 w
    unfold compV at h
    revert h
    cases matOkB (crossI a g c h) (crossI b g d h) (crossI a i c j) (crossI b i d j) (crossI a k c l + e) (crossI b k d l + f) <;> exact fun h => h
end Go.Proofs.Ytdbphpekhmlmdaa

/-
  The walks of the specification's chapter 5: boxes.
-/
namespace Go.Proofs.Ytdbphpekhmlmdaa
open Go.RowKit

def emptyB (a b c d : Int) : Bool := decide (c ≤ a) || decide (d ≤ b)
def leastI (a b : Int) : Int := if a < b then a else b
def mostI (a b : Int) : Int := if b < a then a else b

def inBoxB (a b c d x y : Int) : Bool := decide (a ≤ x) && (decide (x < c) && (decide (b ≤ y) && decide (y < d)))

theorem ret_bool' {a b : Bool} (h : a = b) : Ending.returned (.bool a) = .returned (.bool b) := by rw [h]

set_option maxHeartbeats 1000000 in
theorem specEmpty_any (a b c d : Int) (w : World) :
    Calls Try.prog 94 #[.agg #[.int .i64 a, .int .i64 b, .int .i64 c, .int .i64 d]] w fun r w' => r = .returned (.bool (emptyB a b c d)) ∧ Below w.heap.size w w' := by
  by_cases h1 : c ≤ a
  · have H : Hid (true = emptyB a b c d) := by unfold Hid emptyB; simp [h1]
    have d1 : decide (c ≤ a) = true := decide_eq_true h1
    go_enter Try.func94, Try.ntmps94
    go_wp2
    go_ret
    exact ⟨ret_bool' (unhide H), al1_below _ _⟩
  · have d1 : decide (c ≤ a) = false := decide_eq_false h1
    by_cases h2 : d ≤ b
    · have H : Hid (true = emptyB a b c d) := by unfold Hid emptyB; simp [h2]
      have d2 : decide (d ≤ b) = true := decide_eq_true h2
      go_enter Try.func94, Try.ntmps94
      go_wp2
      go_ret
      exact ⟨ret_bool' (unhide H), al1_below _ _⟩
    · have H : Hid (false = emptyB a b c d) := by unfold Hid emptyB; simp [h1, h2]
      have d2 : decide (d ≤ b) = false := decide_eq_false h2
      go_enter Try.func94, Try.ntmps94
      go_wp2
      go_ret
      exact ⟨ret_bool' (unhide H), al1_below _ _⟩

end Go.Proofs.Ytdbphpekhmlmdaa

/-
  The walk of JoinBox (spec).
-/
namespace Go.Proofs.Ytdbphpekhmlmdaa
open Go.RowKit

def join0 (a b c d e f g h : Int) : Int := bif emptyB a b c d then (bif emptyB e f g h then 0 else e) else (bif emptyB e f g h then a else leastI a e)
def join1 (a b c d e f g h : Int) : Int := bif emptyB a b c d then (bif emptyB e f g h then 0 else f) else (bif emptyB e f g h then b else leastI b f)
def join2 (a b c d e f g h : Int) : Int := bif emptyB a b c d then (bif emptyB e f g h then 0 else g) else (bif emptyB e f g h then c else mostI c g)
def join3 (a b c d e f g h : Int) : Int := bif emptyB a b c d then (bif emptyB e f g h then 0 else h) else (bif emptyB e f g h then d else mostI d h)

end Go.Proofs.Ytdbphpekhmlmdaa

/-
  Rows of a struct: written as a whole, and rows beside it.
-/
namespace Go.Proofs.Ytdbphpekhmlmdaa
open Go.RowKit

theorem setc_other {u : World} {b r j : Nat} {v : Value} {o : Obj} (hne : r ≠ b) (h : u.heap[r]? = some o) : (u.setCell ⟨b, j, none⟩ v).heap[r]? = some o := by
  rw [← h]; simp [World.setCell, Array.getElem?_modify]; intro e; exact absurd e.symm hne
theorem put2_other {u : World} {b r : Nat} {x y : Value} {o : Obj} (hne : r ≠ b) (h : u.heap[r]? = some o) : ((u.setCell ⟨b, 0, none⟩ x).setCell ⟨b, 1, none⟩ y).heap[r]? = some o := setc_other hne (setc_other hne h)
theorem put4_other {u : World} {b r : Nat} {x y z t : Value} {o : Obj} (hne : r ≠ b) (h : u.heap[r]? = some o) : ((((u.setCell ⟨b, 0, none⟩ x).setCell ⟨b, 1, none⟩ y).setCell ⟨b, 2, none⟩ z).setCell ⟨b, 3, none⟩ t).heap[r]? = some o := setc_other hne (setc_other hne (put2_other hne h))
theorem put2_row {u : World} {b : Nat} {x0 x1 y0 y1 : Value} {t : TypeId} (h : u.heap[b]? = some (.cells #[x0, x1] t (0, 0))) : ((u.setCell ⟨b, 0, none⟩ y0).setCell ⟨b, 1, none⟩ y1).heap[b]? = some (.cells #[y0, y1] t (0, 0)) := by
  simp [World.setCell, Array.getElem?_modify, h]
theorem put4_row {u : World} {b : Nat} {x0 x1 x2 x3 y0 y1 y2 y3 : Value} {t : TypeId} (h : u.heap[b]? = some (.cells #[x0, x1, x2, x3] t (0, 0))) : ((((u.setCell ⟨b, 0, none⟩ y0).setCell ⟨b, 1, none⟩ y1).setCell ⟨b, 2, none⟩ y2).setCell ⟨b, 3, none⟩ y3).heap[b]? = some (.cells #[y0, y1, y2, y3] t (0, 0)) := by
  simp [World.setCell, Array.getElem?_modify, h]
theorem new_row (u : World) (o : Obj) : (u.alloc o).heap[u.heap.size]? = some o := heap_alloc_new u o
theorem old_row {u : World} {b : Nat} {o : Obj} (o' : Obj) (h : u.heap[b]? = some o) : (u.alloc o').heap[b]? = some o := (heap_alloc_old u o' (heap_lt h)).trans h
theorem row_next {u v : World} {b : Nat} {o : Obj} (hb : Below u.heap.size u v) (h : u.heap[b]? = some o) : v.heap[b]? = some o := (hb.block _ (heap_lt h)).trans h
theorem set4_0 {u : World} {b : Nat} {x0 x1 x2 x3 v : Value} {t : TypeId} (h : u.heap[b]? = some (.cells #[x0, x1, x2, x3] t (0, 0))) : (u.setCell ⟨b, 0, none⟩ v).heap[b]? = some (.cells #[v, x1, x2, x3] t (0, 0)) := by
  simp [World.setCell, Array.getElem?_modify, h]
theorem set4_1 {u : World} {b : Nat} {x0 x1 x2 x3 v : Value} {t : TypeId} (h : u.heap[b]? = some (.cells #[x0, x1, x2, x3] t (0, 0))) : (u.setCell ⟨b, 1, none⟩ v).heap[b]? = some (.cells #[x0, v, x2, x3] t (0, 0)) := by
  simp [World.setCell, Array.getElem?_modify, h]
theorem set4_2 {u : World} {b : Nat} {x0 x1 x2 x3 v : Value} {t : TypeId} (h : u.heap[b]? = some (.cells #[x0, x1, x2, x3] t (0, 0))) : (u.setCell ⟨b, 2, none⟩ v).heap[b]? = some (.cells #[x0, x1, v, x3] t (0, 0)) := by
  simp [World.setCell, Array.getElem?_modify, h]
theorem set4_3 {u : World} {b : Nat} {x0 x1 x2 x3 v : Value} {t : TypeId} (h : u.heap[b]? = some (.cells #[x0, x1, x2, x3] t (0, 0))) : (u.setCell ⟨b, 3, none⟩ v).heap[b]? = some (.cells #[x0, x1, x2, v] t (0, 0)) := by
  simp [World.setCell, Array.getElem?_modify, h]
theorem row_drew {u : World} {b : Nat} {o : Obj} (h : u.heap[b]? = some o) : u.drew.heap[b]? = some o := h
end Go.Proofs.Ytdbphpekhmlmdaa

/-
  Boxes joined one behind the other: the least box around all.
-/
namespace Go.Proofs.Ytdbphpekhmlmdaa
open Go.RowKit

structure B4 where
  x0 : Int
  y0 : Int
  x1 : Int
  y1 : Int

def B4.none : B4 := ⟨0, 0, 0, 0⟩
def B4.bare (p : B4) : Bool := emptyB p.x0 p.y0 p.x1 p.y1
def joinB (p q : B4) : B4 := ⟨join0 p.x0 p.y0 p.x1 p.y1 q.x0 q.y0 q.x1 q.y1, join1 p.x0 p.y0 p.x1 p.y1 q.x0 q.y0 q.x1 q.y1, join2 p.x0 p.y0 p.x1 p.y1 q.x0 q.y0 q.x1 q.y1, join3 p.x0 p.y0 p.x1 p.y1 q.x0 q.y0 q.x1 q.y1⟩
def joinN (F : Nat → B4) : Nat → B4
  | 0 => B4.none
  | n + 1 => joinB (joinN F n) (F n)

/-- Four numbers of a box lie in a row of boxes. -/
def HasBox (w : World) (s i : Nat) (p : B4) : Prop :=
  w.cell? ⟨s, i * 4, none⟩ = some (.int .i64 p.x0) ∧ w.cell? ⟨s, i * 4 + 1, none⟩ = some (.int .i64 p.y0) ∧ w.cell? ⟨s, i * 4 + 2, none⟩ = some (.int .i64 p.x1) ∧ w.cell? ⟨s, i * 4 + 3, none⟩ = some (.int .i64 p.y1)
theorem HasBox.next {w w1 : World} {s i : Nat} {p : B4} (h : HasBox w s i p) (hb : Below w.heap.size w w1) : HasBox w1 s i p := ⟨kc hb h.1, kc hb h.2.1, kc hb h.2.2.1, kc hb h.2.2.2⟩

theorem joinB_bare {p q : B4} (h : q.bare = true) (hp : p.bare = true → p = B4.none) : joinB p q = p := by
  unfold B4.bare at h hp
  unfold joinB join0 join1 join2 join3
  rw [h]
  cases e : emptyB p.x0 p.y0 p.x1 p.y1
  · simp
  · have := hp e; simp [this, B4.none]
theorem joinB_first {p q : B4} (h : q.bare = false) (hp : p.bare = true) : joinB p q = q := by
  unfold B4.bare at h hp
  unfold joinB join0 join1 join2 join3
  rw [h, hp]
  simp
theorem joinB_both {p q : B4} (h : q.bare = false) (hp : p.bare = false) : joinB p q = ⟨min p.x0 q.x0, min p.y0 q.y0, max p.x1 q.x1, max p.y1 q.y1⟩ := by
  unfold B4.bare at h hp
  unfold joinB join0 join1 join2 join3
  rw [h, hp]
  simp only [cond_false, leastI, mostI, Int.min_def, Int.max_def]
  congr 1 <;> (split <;> split <;> omega)
theorem joinN_none (F : Nat → B4) (n : Nat) : (joinN F n).bare = true → joinN F n = B4.none := by
  induction n with
  | zero => intro _; rfl
  | succ n ih =>
    intro h
    change (joinB (joinN F n) (F n)).bare = true at h
    change joinB (joinN F n) (F n) = B4.none
    cases e1 : (F n).bare
    · cases e2 : (joinN F n).bare
      · rw [joinB_both e1 e2] at h
        unfold B4.bare emptyB at e1 e2 h
        simp at e1 e2 h
        omega
      · rw [joinB_first e1 e2] at h; rw [e1] at h; exact absurd h (by decide)
    · rw [joinB_bare e1 ih] at h ⊢; exact ih h
end Go.Proofs.Ytdbphpekhmlmdaa

/-
  Paints: what both sides reckon. Right colours, laid ones, right paints, how far along a slope a square lies, the colour there.
-/
namespace Go.Proofs.Ytdbphpekhmlmdaa
open Go.RowKit
set_option linter.unusedVariables false

/-- A colour: R, G, B, A as the four numbers of a B4. -/
def colorOkB (c : B4) : Bool := inB c.x0 0 255 && (inB c.y0 0 255 && (inB c.x1 0 255 && inB c.y1 0 255))
theorem colorOk_iff {c : B4} : colorOkB c = true ↔ (0 ≤ c.x0 ∧ c.x0 ≤ 255) ∧ (0 ≤ c.y0 ∧ c.y0 ≤ 255) ∧ (0 ≤ c.x1 ∧ c.x1 ≤ 255) ∧ (0 ≤ c.y1 ∧ c.y1 ≤ 255) := by
  unfold colorOkB
  rw [Bool.and_eq_true, Bool.and_eq_true, Bool.and_eq_true, inB_true, inB_true, inB_true, inB_true]
def laidC (c : B4) : B4 := if colorOkB c = true then ⟨t255I c.x0 c.y1, t255I c.y0 c.y1, t255I c.x1 c.y1, c.y1⟩ else ⟨0, 0, 0, 0⟩
theorem rdiv_pos {a b : Int} (hb : 1 ≤ b) (h : 0 ≤ a) : 0 ≤ rdivI a b := by
  unfold rdivI
  have := Int.ediv_nonneg h (show 0 ≤ b by omega)
  split
  · omega
  · split <;> omega
theorem rdiv_le {a b m : Int} (hb : 1 ≤ b) (h : a ≤ m * b) : rdivI a b ≤ m := by
  unfold rdivI
  rw [if_neg (by omega)]
  have h1 := Int.mul_ediv_add_emod a b
  have h2 := emod_bd a b hb
  have h3 : a / b ≤ m := Int.ediv_le_of_le_mul (by omega) h
  split
  · by_cases e : a / b = m
    · exfalso
      rw [e] at h1
      have : b * m = m * b := Int.mul_comm _ _
      omega
    · omega
  · exact h3
theorem clamp_id {x : Int} (h : 0 ≤ x ∧ x ≤ 255) : clampI x 0 255 = x := by unfold clampI; rw [if_neg (by omega), if_neg (by omega)]
theorem clamp_bd {x lo hi : Int} (h : lo ≤ hi) : lo ≤ clampI x lo hi ∧ clampI x lo hi ≤ hi := by unfold clampI; split <;> (try split) <;> omega
/-- Times255 of two parts is in 0 .. the second. -/
theorem t255_bd (a : Int) {b : Int} (hb : 0 ≤ b ∧ b ≤ 255) : 0 ≤ t255I a b ∧ t255I a b ≤ b := by
  unfold t255I
  rw [clamp_id hb]
  have ha := clamp_bd (x := a) (lo := 0) (hi := 255) (by omega)
  generalize clampI a 0 255 = x at ha
  exact ⟨rdiv_pos (by omega) (Int.mul_nonneg (by omega) (by omega)), rdiv_le (by omega) (by rw [Int.mul_comm b 255]; exact Int.mul_le_mul_of_nonneg_right (by omega) (by omega))⟩
/-- A laid colour is right, and none of its parts is above A. -/
theorem laid_ok (c : B4) : colorOkB (laidC c) = true ∧ (laidC c).x0 ≤ (laidC c).y1 ∧ (laidC c).y0 ≤ (laidC c).y1 ∧ (laidC c).x1 ≤ (laidC c).y1 := by
  unfold laidC
  split
  · rename_i h
    obtain ⟨_, _, _, h4⟩ := colorOk_iff.1 h
    have q0 := t255_bd c.x0 h4
    have q1 := t255_bd c.y0 h4
    have q2 := t255_bd c.x1 h4
    rw [colorOk_iff]
    dsimp only
    omega
  · exact ⟨by decide, by decide, by decide, by decide⟩
/-- A paint: its kind, its colours, where it begins and where it ends. -/
structure P13 where
  k : Int
  f : B4
  l : B4
  fx : Int
  fy : Int
  tx : Int
  ty : Int
def zeroB (c : B4) : Bool := decide (c.x0 = 0) && (decide (c.y0 = 0) && (decide (c.x1 = 0) && decide (c.y1 = 0)))
def paintOkB (p : P13) : Bool :=
  colorOkB p.f && ((decide (p.k = 1) && (zeroB p.l && (decide (p.fx = 0 ∧ p.fy = 0) && decide (p.tx = 0 ∧ p.ty = 0)))) || (decide (p.k = 2) && (colorOkB p.l && (pointOkB p.fx p.fy && (pointOkB p.tx p.ty && !decide (p.fx = p.tx ∧ p.fy = p.ty))))))
/-- How far along: what is divided, and by what. -/
def alongI (p : P13) (x y : Int) : Int := (256 * clampI x (-2000) 2000 + 128 - p.fx) * (p.tx - p.fx) + (256 * clampI y (-2000) 2000 + 128 - p.fy) * (p.ty - p.fy)
def spanI (p : P13) : Int := (p.tx - p.fx) * (p.tx - p.fx) + (p.ty - p.fy) * (p.ty - p.fy)
def partI (p : P13) (x y : Int) : Int := if p.k = 2 ∧ paintOkB p = true then clampI (fdivI (256 * alongI p x y) (spanI p)) 0 256 else 0
def mixI (a b t : Int) : Int := rdivI ((256 - t) * a + t * b) 256
def mixC (f l : B4) (t : Int) : B4 := ⟨mixI f.x0 l.x0 t, mixI f.y0 l.y0 t, mixI f.x1 l.x1 t, mixI f.y1 l.y1 t⟩
def colorAtC (p : P13) (x y : Int) : B4 := if paintOkB p = true then (if p.k = 1 then laidC p.f else laidC (mixC p.f p.l (partI p x y))) else ⟨0, 0, 0, 0⟩
theorem part_bd (p : P13) (x y : Int) : 0 ≤ partI p x y ∧ partI p x y ≤ 256 := by
  unfold partI
  split
  · exact clamp_bd (by omega)
  · omega
theorem mix_bd {a b t : Int} (ha : 0 ≤ a ∧ a ≤ 255) (hb : 0 ≤ b ∧ b ≤ 255) (ht : 0 ≤ t ∧ t ≤ 256) : 0 ≤ (256 - t) * a + t * b ∧ (256 - t) * a + t * b ≤ 255 * 256 ∧ 0 ≤ mixI a b t ∧ mixI a b t ≤ 255 := by
  have h1 : 0 ≤ (256 - t) * a := Int.mul_nonneg (by omega) (by omega)
  have h2 : 0 ≤ t * b := Int.mul_nonneg (by omega) (by omega)
  have h3 : (256 - t) * a ≤ (256 - t) * 255 := Int.mul_le_mul_of_nonneg_left (by omega) (by omega)
  have h4 : t * b ≤ t * 255 := Int.mul_le_mul_of_nonneg_left (by omega) (by omega)
  refine ⟨by omega, by omega, rdiv_pos (by omega) (by omega), rdiv_le (by omega) (by omega)⟩
theorem mix_ok {f l : B4} {t : Int} (hf : colorOkB f = true) (hl : colorOkB l = true) (ht : 0 ≤ t ∧ t ≤ 256) : colorOkB (mixC f l t) = true := by
  obtain ⟨f1, f2, f3, f4⟩ := colorOk_iff.1 hf
  obtain ⟨l1, l2, l3, l4⟩ := colorOk_iff.1 hl
  rw [colorOk_iff]
  exact ⟨(mix_bd f1 l1 ht).2.2, (mix_bd f2 l2 ht).2.2, (mix_bd f3 l3 ht).2.2, (mix_bd f4 l4 ht).2.2⟩
theorem mix_none (a b : Int) : mixI a b 0 = a := by
  unfold mixI rdivI
  rw [if_neg (by omega), show (256 - 0) * a + 0 * b = 256 * a by omega, if_neg (by omega)]; omega
theorem mix_all (a b : Int) : mixI a b 256 = b := by
  unfold mixI rdivI
  rw [if_neg (by omega), show (256 - 256) * a + 256 * b = 256 * b by omega, if_neg (by omega)]; omega
theorem far_bd {d : Int} {L : Int} (h : -L ≤ d ∧ d ≤ L) : 0 ≤ d * d ∧ d * d ≤ L * L := by
  have hL : 0 ≤ L := by omega
  constructor
  · by_cases h0 : 0 ≤ d
    · exact Int.mul_nonneg h0 h0
    · have : 0 ≤ (-d) * (-d) := Int.mul_nonneg (by omega) (by omega)
      rw [Int.neg_mul_neg] at this; exact this
  · by_cases h0 : 0 ≤ d
    · exact Int.mul_le_mul h.2 h.2 h0 hL
    · have : (-d) * (-d) ≤ L * L := Int.mul_le_mul (by omega) (by omega) (by omega) hL
      rw [Int.neg_mul_neg] at this; exact this
theorem prod_bds {a b A B : Int} (ha : -A ≤ a ∧ a ≤ A) (hb : -B ≤ b ∧ b ≤ B) : -(A * B) ≤ a * b ∧ a * b ≤ A * B := by
  have hA : 0 ≤ A := by omega
  have hB : 0 ≤ B := by omega
  have h1 : a * b ≤ A * B := by
    by_cases h0 : 0 ≤ a
    · by_cases h2 : 0 ≤ b
      · exact Int.mul_le_mul ha.2 hb.2 h2 hA
      · have : a * b ≤ 0 := Int.mul_nonpos_of_nonneg_of_nonpos h0 (by omega)
        have := Int.mul_nonneg hA hB
        omega
    · by_cases h2 : 0 ≤ b
      · have : a * b ≤ 0 := Int.mul_nonpos_of_nonpos_of_nonneg (by omega) h2
        have := Int.mul_nonneg hA hB
        omega
      · have : (-a) * (-b) ≤ A * B := Int.mul_le_mul (by omega) (by omega) (by omega) hA
        rw [Int.neg_mul_neg] at this; exact this
  have h3 : (-a) * b ≤ A * B := by
    by_cases h0 : 0 ≤ -a
    · by_cases h2 : 0 ≤ b
      · exact Int.mul_le_mul (by omega) hb.2 h2 hA
      · have : (-a) * b ≤ 0 := Int.mul_nonpos_of_nonneg_of_nonpos h0 (by omega)
        have := Int.mul_nonneg hA hB
        omega
    · by_cases h2 : 0 ≤ b
      · have : (-a) * b ≤ 0 := Int.mul_nonpos_of_nonpos_of_nonneg (by omega) h2
        have := Int.mul_nonneg hA hB
        omega
      · have : (- -a) * (-b) ≤ A * B := Int.mul_le_mul (by omega) (by omega) (by omega) hA
        rw [Int.neg_neg] at this
        have e : (-a) * b = a * (-b) := by rw [Int.neg_mul, Int.mul_neg]
        rw [e]; exact this
  rw [Int.neg_mul] at h3
  omega
end Go.Proofs.Ytdbphpekhmlmdaa

/-
  The specification's paints.
-/
namespace Go.Proofs.Ytdbphpekhmlmdaa
open Go.RowKit
set_option linter.unusedVariables false

set_option maxHeartbeats 4000000 in
set_option maxRecDepth 100000 in
theorem specColorOk_any (r g b a : Int) (w : World) :
    Calls Try.prog 84 #[.agg #[.int .i64 r, .int .i64 g, .int .i64 b, .int .i64 a]] w fun e w' => e = .returned (.bool (colorOkB ⟨r, g, b, a⟩)) ∧ Below w.heap.size w w' := by
  have E0 := hide (l01In_any r 0 255)
  have E1 := hide (l01In_any g 0 255)
  have E2 := hide (l01In_any b 0 255)
  have E3 := hide (l01In_any a 0 255)
  have H : Hid ((inB r 0 255 && (inB g 0 255 && (inB b 0 255 && inB a 0 255))) = colorOkB ⟨r, g, b, a⟩) := rfl
  generalize inB r 0 255 = i0 at E0 H
  generalize inB g 0 255 = i1 at E1 H
  generalize inB b 0 255 = i2 at E2 H
  generalize inB a 0 255 = i3 at E3 H
  generalize colorOkB ⟨r, g, b, a⟩ = X at H ⊢
  go_enter Try.func84, Try.ntmps84
  go_upto_region 1 with fail
  have R := hide (new_row w (.cells #[.int .i64 r, .int .i64 g, .int .i64 b, .int .i64 a] 35))
  have HB := hide (al1_below w (.cells #[.int .i64 r, .int .i64 g, .int .i64 b, .int .i64 a] 35))
  generalize w.alloc (.cells #[.int .i64 r, .int .i64 g, .int .i64 b, .int .i64 a] 35) = W at R HB ⊢
  obtain ⟨r0, r1, r2, r3⟩ := row4 (unhide R)
  go_wp2_with fail
  go_fit (unhide E0 _)
  rintro e u2 ⟨rfl, rfl⟩
  cases i0 with
  | false =>
    go_wp2_with fail
    go_ret
    exact ⟨ret_bool (unhide H), unhide HB⟩
  | true =>
  go_wp2_with fail
  go_fit (unhide E1 _)
  rintro e u2 ⟨rfl, rfl⟩
  cases i1 with
  | false =>
    go_wp2_with fail
    go_ret
    exact ⟨ret_bool (unhide H), unhide HB⟩
  | true =>
  go_wp2_with fail
  go_fit (unhide E2 _)
  rintro e u2 ⟨rfl, rfl⟩
  cases i2 with
  | false =>
    go_wp2_with fail
    go_ret
    exact ⟨ret_bool (unhide H), unhide HB⟩
  | true =>
  go_wp2_with fail
  go_fit (unhide E3 _)
  rintro e u2 ⟨rfl, rfl⟩
  go_wp2_with fail
  go_ret
  exact ⟨ret_bool (unhide H), unhide HB⟩

end Go.Proofs.Ytdbphpekhmlmdaa
