/-
  The program's verbOf and readSigned.
-/
import Derived.Test.YtkhacppaemilgaaDoorLooseP
import Derived.Test.YtkhacppaemilgaaDoorReadDec
import Derived.Test.YtkhacppaemilgaaDoorParseS
import Derived.Test.YtkhacppaemilgaaDoorShelf3
namespace Go.Proofs.YtkhacppaemilgaaDoor
open Go.RowKit

theorem index_letter (c : UInt8) : Lib.indexByte [77, 76, 81, 67, 90] c + 1 = (verbOf [c] : Int) := by
  by_cases h1 : c = 77
  · subst h1; rfl
  by_cases h2 : c = 76
  · subst h2; rfl
  by_cases h3 : c = 81
  · subst h3; rfl
  by_cases h4 : c = 67
  · subst h4; rfl
  by_cases h5 : c = 90
  · subst h5; rfl
  have e : verbOf [c] = 0 := by simp [verbOf, h1, h2, h3, h4, h5]
  rw [e]
  have n : ∀ d : UInt8, c ≠ d → (d == c) = false := fun d h => by simp [Ne.symm h]
  simp [Lib.indexByte, n 77 h1, n 76 h2, n 81 h3, n 67 h4, n 90 h5]

set_option maxHeartbeats 1000000 in
theorem implVerbOf_any (x : ByteArray) (w : World) :
    Calls Tryd.prog 48 #[.string x] w fun r w' => r = .returned (.int .i64 (verbOf x.data.toList : Nat)) ∧ w' = w := by
  by_cases h1 : x.size = 1
  · obtain ⟨c, rfl⟩ : ∃ c, x = ⟨#[c]⟩ := by
      obtain ⟨d⟩ := x
      have hd : d.size = 1 := h1
      obtain ⟨c, hc⟩ : ∃ c, d.toList = [c] := List.length_eq_one_iff.1 (by rw [Array.length_toList]; exact hd)
      exact ⟨c, by rw [← Array.toArray_toList (xs := d), hc]⟩
    have E := hide (Tryd.strings_Index_one ⟨#[77, 76, 81, 67, 90]⟩ c)
    have e := index_letter c
    have hle := verbOf_le [c]
    have h1' : (((⟨#[c]⟩ : ByteArray).size : Nat) : Int) = 1 := by rw [h1]; rfl
    have hv : Hid ((verbOf (⟨#[c]⟩ : ByteArray).data.toList : Nat) = verbOf [c]) := rfl
    rw [unhide hv]
    have e2 : Hid (Lib.indexByte (⟨#[77, 76, 81, 67, 90]⟩ : ByteArray).data.toList c = (verbOf [c] : Int) - 1) := by
      have : Lib.indexByte (⟨#[77, 76, 81, 67, 90]⟩ : ByteArray).data.toList c = Lib.indexByte [77, 76, 81, 67, 90] c := rfl
      unfold Hid; rw [this]; omega
    rw [unhide e2] at E
    generalize verbOf [c] = v at E hle ⊢
    clear e e2 hv h1
    generalize (⟨#[c]⟩ : ByteArray) = x at E h1' ⊢
    go_enter Tryd.func48, Tryd.ntmps48
    go_wp2_with fail
    go_fit (unhide E _)
    rintro r w1 ⟨rfl, rfl⟩
    have hw : IntKind.i64.wrap ((v : Int) - 1 + 1) = (v : Int) := by rw [IntWalk.i64_in _ (by omega)]; omega
    go_wp2_with fail
    go_ret
    exact ⟨by simp, rfl⟩
  · have h0 : verbOf x.data.toList = 0 := by
      have no : ∀ c : UInt8, x.data.toList ≠ [c] := fun c e => h1 (by show x.data.size = 1; rw [← Array.length_toList, e]; rfl)
      unfold verbOf
      rw [if_neg (no _), if_neg (no _), if_neg (no _), if_neg (no _), if_neg (no _)]
    rw [h0]
    have h1' : ¬ ((x.size : Int) = 1) := by omega
    go_enter Tryd.func48, Tryd.ntmps48
    go_wp2_with fail
    go_ret
    exact ⟨rfl, rfl⟩

set_option maxHeartbeats 1000000 in
theorem signed_walk (x : ByteArray) (t : ByteArray) (below ok : Bool) (m : Nat) (hm : m ≤ 1000000000) (w : World)
    (h1 : Lib.trimPrefix x.data.toList [45] = t.data.toList) (h2 : Lib.hasPrefix x.data.toList [45] = below)
    (E : Calls Tryd.prog 69 #[.string t] w fun e w' => e = .returned (.tuple #[.int .i64 (m : Int), .bool ok]) ∧ Below w.heap.size w w') :
    Calls Tryd.prog 49 #[.string x] w fun r w' => r = .returned (.tuple #[.int .i64 (if below then -(m : Int) else (m : Int)), .bool ok]) ∧ Below w.heap.size w w' := by
  have C := hide (Tryd.strings_CutPrefix x ⟨#[45]⟩ w)
  have e1 : Hid (Lib.trimPrefix x.data.toList (⟨#[45]⟩ : ByteArray).data.toList = t.data.toList) := h1
  have e2 : Hid (Lib.hasPrefix x.data.toList (⟨#[45]⟩ : ByteArray).data.toList = below) := h2
  have e3 : Hid ((⟨t.data.toList.toArray⟩ : ByteArray) = t) := by unfold Hid; obtain ⟨d⟩ := t; simp
  rw [unhide e1, unhide e2, unhide e3] at C
  replace E := hide E
  clear h1 h2 e1 e2 e3
  cases below with
  | true =>
    go_enter Tryd.func49, Tryd.ntmps49
    go_wp2_with fail
    go_fit (unhide C)
    rintro r w1 ⟨rfl, rfl⟩
    go_wp2_with fail
    go_fit (unhide E)
    rintro r w2 ⟨rfl, hb⟩
    replace hb := hide hb
    have hw : IntKind.i64.wrap (-(m : Int)) = -(m : Int) := IntWalk.i64_in _ (by omega)
    go_wp2_with fail
    go_ret2
    exact ⟨by simp, unhide hb⟩
  | false =>
    go_enter Tryd.func49, Tryd.ntmps49
    go_wp2_with fail
    go_fit (unhide C)
    rintro r w1 ⟨rfl, rfl⟩
    go_wp2_with fail
    go_fit (unhide E)
    rintro r w2 ⟨rfl, hb⟩
    replace hb := hide hb
    go_wp2_with fail
    go_ret2
    exact ⟨by simp, unhide hb⟩

abbrev Pow (w : World) : Prop := Lib.TabIs Tryd.prog w "internal/strconv.uint64pow10" .u64 Lib.pow10Tab

theorem dec_tell (t : ByteArray) (ht : t.size ≤ 1048576) : ∃ (m : Nat) (ok : Bool), m ≤ 1000000000 ∧ (∀ k, isDec t.data.toList k → ok = true ∧ m = k) ∧ ∀ w, Pow w → Calls Tryd.prog 69 #[.string t] w fun e w' => e = .returned (.tuple #[.int .i64 (m : Int), .bool ok]) ∧ Below w.heap.size w w' := by
  by_cases h : ∃ m, isDec t.data.toList m
  · obtain ⟨m, hm⟩ := h
    exact ⟨m, true, hm.1, fun k hk => ⟨rfl, isDec_unique hm hk⟩, fun w hw => implReadDec_yes t ht m hm w hw⟩
  · exact ⟨0, false, by omega, fun k hk => absurd ⟨k, hk⟩ h, fun w hw => (implReadDec_no t ht (fun m hm => h ⟨m, hm⟩) w hw).mono fun e w' ⟨h1, h2⟩ => ⟨by rw [h1]; rfl, h2⟩⟩

/-- What readSigned answers at a word. -/
theorem signed_tell (l : List UInt8) : ∃ p : Int × Bool, (-1000000000 ≤ p.1 ∧ p.1 ≤ 1000000000) ∧ (∀ x, isNum l x → p = (x, true)) ∧ (l.length ≤ 1048576 → ∀ w, Pow w → Calls Tryd.prog 49 #[.string ⟨l.toArray⟩] w fun r w' => r = .returned (.tuple #[.int .i64 p.1, .bool p.2]) ∧ Below w.heap.size w w') := by
  by_cases hlen : l.length ≤ 1048576
  · have el : (⟨l.toArray⟩ : ByteArray).data.toList = l := by simp
    by_cases hm : ∃ t, l = 45 :: t
    · obtain ⟨t, rfl⟩ := hm
      have et : (⟨t.toArray⟩ : ByteArray).data.toList = t := by simp
      obtain ⟨m, ok, h1, h2, h3⟩ := dec_tell ⟨t.toArray⟩ (by show t.toArray.size ≤ _; rw [List.size_toArray]; simp at hlen; omega)
      rw [et] at h2
      refine ⟨(-(m : Int), ok), ⟨by omega, by omega⟩, fun x hx => ?_, fun _ w hw => ?_⟩
      · by_cases h0 : 0 ≤ x
        · have := (isDec_val (isNum_dec hx h0)).2 45 (by simp)
          exact absurd this (by decide)
        · obtain ⟨t', ht', hd⟩ := isNum_neg hx (by omega)
          have e := (List.cons.inj ht').2
          subst e
          obtain ⟨rfl, h5⟩ := h2 _ hd
          rw [h5, show -(((-x).toNat : Nat) : Int) = x by omega]
      · exact (signed_walk ⟨(45 :: t).toArray⟩ ⟨t.toArray⟩ true ok m h1 w (by rw [el, et]; simp [Lib.trimPrefix, Lib.hasPrefix]) (by rw [el]; simp [Lib.hasPrefix]) (h3 w hw)).mono fun r w' ⟨e1, e2⟩ => ⟨by rw [e1]; rfl, e2⟩
    · have hp : Lib.hasPrefix l [45] = false := by
        cases l with
        | nil => rfl
        | cons b l =>
          have hb : b ≠ 45 := fun e => hm ⟨l, by rw [e]⟩
          have h45 : ((45 : UInt8) == b) = false := by simp [Ne.symm hb]
          simp [Lib.hasPrefix, List.isPrefixOf, h45]
      obtain ⟨m, ok, h1, h2, h3⟩ := dec_tell ⟨l.toArray⟩ (by show l.toArray.size ≤ _; rw [List.size_toArray]; exact hlen)
      rw [el] at h2
      refine ⟨((m : Int), ok), ⟨by omega, by omega⟩, fun x hx => ?_, fun _ w hw => ?_⟩
      · by_cases h0 : 0 ≤ x
        · obtain ⟨rfl, h5⟩ := h2 _ (isNum_dec hx h0)
          rw [h5, show ((x.toNat : Nat) : Int) = x by omega]
        · obtain ⟨t', ht', hd⟩ := isNum_neg hx (by omega)
          exact absurd ⟨t', ht'⟩ hm
      · exact (signed_walk ⟨l.toArray⟩ ⟨l.toArray⟩ false ok m h1 w (by rw [el, Lib.trimPrefix, hp]; rfl) (by rw [el]; exact hp) (h3 w hw)).mono fun r w' ⟨e1, e2⟩ => ⟨by rw [e1]; rfl, e2⟩
  · by_cases h : ∃ x, isNum l x
    · obtain ⟨x, hx⟩ := h
      refine ⟨(x, true), ⟨hx.1, hx.2.1⟩, fun y hy => by rw [isNum_unique hx hy], fun h => absurd h hlen⟩
    · exact ⟨(0, false), ⟨by omega, by omega⟩, fun x hx => absurd ⟨x, hx⟩ h, fun h => absurd h hlen⟩

noncomputable def sg (l : List UInt8) : Int × Bool := Classical.choose (signed_tell l)
theorem sg_bounds (l : List UInt8) : -1000000000 ≤ (sg l).1 ∧ (sg l).1 ≤ 1000000000 := (Classical.choose_spec (signed_tell l)).1
theorem sg_reads : Reads sg := fun l x h => (Classical.choose_spec (signed_tell l)).2.1 x h
theorem sg_calls (l : List UInt8) : l.length ≤ 1048576 → ∀ w, Pow w → Calls Tryd.prog 49 #[.string ⟨l.toArray⟩] w fun r w' => r = .returned (.tuple #[.int .i64 (sg l).1, .bool (sg l).2]) ∧ Below w.heap.size w w' := (Classical.choose_spec (signed_tell l)).2.2

set_option maxRecDepth 100000 in
theorem implReadSigned_any (x : Wd) (w : World) (hw : Pow w) : Calls Tryd.prog 49 #[.string x.1] w fun r w' => r = .returned (.tuple #[.int .i64 (sg x.1.data.toList).1, .bool (sg x.1.data.toList).2]) ∧ Below w.heap.size w w' := by
  have h := sg_calls x.1.data.toList (by rw [Array.length_toList]; exact x.2) w hw
  obtain ⟨⟨⟨d⟩⟩, hx⟩ := x
  exact h
end Go.Proofs.YtkhacppaemilgaaDoor
