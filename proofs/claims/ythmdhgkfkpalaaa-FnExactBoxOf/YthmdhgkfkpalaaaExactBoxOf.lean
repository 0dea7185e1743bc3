/-
  The law of BoxOf: the program and the specification answer alike.
-/
import Derived.Test.YthmdhgkfkpalaaaBoxOfI
import Derived.Test.YthmdhgkfkpalaaaToPts
namespace Go.Proofs.Ythmdhgkfkpalaaa
open Go.RowKit

set_option maxHeartbeats 4000000 in
set_option maxRecDepth 100000 in
theorem fnExactBoxOf_walk (ao : Option Addr) (n cap : Nat) (f : Nat → Int × Int) (w : World) (hw : n ≤ maxLen ∧ ∀ i, i < n → PtArg w ao i (f i)) :
    Calls Try.prog 4 #[.slice ao n cap] w fun r w' => r = .returned (.bool true) ∧ Below w.heap.size w w' := by
  obtain ⟨hm, H⟩ := hw
  have hz := hide (szPointS_any ao n cap 1048576 (by omega) hm)
  by_cases hbig : (1048576 : Int) < n
  · rw [if_pos hbig] at hz
    clear H
    go_enter Try.func4, Try.ntmps4
    go_wp2_with fail
    go_fit (unhide hz _)
    rintro r w1 ⟨rfl, rfl⟩
    go_wp2_with fail
    go_ret
    exact ⟨rfl, Below.refl _ _⟩
  · rw [if_neg hbig] at hz
    have hn : n ≤ 1048576 := by omega
    have hpos : ¬ ((1048576 : Int) - n < 0) := by omega
    have T := hide (fun w => toPointS_any f ao n cap hn w)
    have S := hide (fun a w => specBoxOf_any f a n n hn w)
    have I := hide (fun a w => implBoxOf_any f a n n hn w)
    generalize joinN (fun i => pbox (f i)) n = J at S I
    obtain ⟨J0, J1, J2, J3⟩ := J
    have Eb := hide (eqBox_same J0 J1 J2 J3)
    have Ep := hide (fun a b w => eqPointS_same f a b n n n hn w)
    replace H := hide H
    clear hm hbig
    go_enter Try.func4, Try.ntmps4
    go_wp2_with fail
    go_fit (unhide hz _)
    rintro r w1 ⟨rfl, rfl⟩
    clear hz
    go_wp2_with fail
    go_fit (unhide T _ (unhide H))
    rintro r w1 ⟨rfl, hp, hb⟩
    replace H := hide (fun i hi => (unhide H i hi).next hb)
    have HB := hide hb
    clear hb
    go_wp2_with fail
    go_fit (unhide S _ _ hp)
    rintro r w2 ⟨rfl, hb⟩
    replace H := hide (fun i hi => (unhide H i hi).next hb)
    replace HB := hide (below_two (unhide HB) hb)
    clear hb hp S
    dsimp only
    go_wp2_with fail
    obtain ⟨V2, hV⟩ : ∃ V, V = w2.alloc (.cells #[.int .i64 J0, .int .i64 J1, .int .i64 J2, .int .i64 J3] 27) := ⟨_, rfl⟩
    have hn2 := hide (show Below w2.heap.size w2 V2 by rw [hV]; exact below_new _ (Below.refl _ _) (Nat.le_refl _))
    have rA := hide (show V2.heap[w2.heap.size]? = some (.cells #[.int .i64 J0, .int .i64 J1, .int .i64 J2, .int .i64 J3] 27 (0, 0)) by rw [hV]; exact new_row _ _)
    rw [← hV]
    clear hV
    replace H := hide (fun i hi => (unhide H i hi).next (unhide hn2))
    replace HB := hide (below_two (unhide HB) (unhide hn2))
    clear hn2
    go_fit (unhide T _ (unhide H))
    rintro r w3 ⟨rfl, hp, hb⟩
    replace H := hide (fun i hi => (unhide H i hi).next hb)
    replace HB := hide (below_two (unhide HB) hb)
    replace rA := hide (row_next hb (unhide rA))
    replace hp := hide hp
    clear hb
    go_wp2_with fail
    go_fit (unhide I _ _ (unhide hp))
    rintro r w4 ⟨rfl, hb⟩
    replace H := hide (fun i hi => (unhide H i hi).next hb)
    replace HB := hide (below_two (unhide HB) hb)
    replace rA := hide (row_next hb (unhide rA))
    replace hp := hide (fun i hi => (unhide hp i hi).next hb)
    clear hb I
    dsimp only
    obtain ⟨r0, r1, r2, r3⟩ := row4 (old_row (.cells #[.int .i64 J0, .int .i64 J1, .int .i64 J2, .int .i64 J3] 27) (unhide rA))
    go_wp2_with fail
    clear r0 r1 r2 r3
    obtain ⟨V4, hV⟩ : ∃ V, V = w4.alloc (.cells #[.int .i64 J0, .int .i64 J1, .int .i64 J2, .int .i64 J3] 27) := ⟨_, rfl⟩
    have hn2 := hide (show Below w4.heap.size w4 V4 by rw [hV]; exact below_new _ (Below.refl _ _) (Nat.le_refl _))
    rw [← hV]
    clear hV
    replace H := hide (fun i hi => (unhide H i hi).next (unhide hn2))
    replace HB := hide (below_two (unhide HB) (unhide hn2))
    replace hp := hide (fun i hi => (unhide hp i hi).next (unhide hn2))
    clear hn2 rA
    go_fit (unhide Eb _)
    rintro r w5 ⟨rfl, hb⟩
    replace H := hide (fun i hi => (unhide H i hi).next hb)
    replace HB := hide (below_two (unhide HB) hb)
    replace hp := hide (fun i hi => (unhide hp i hi).next hb)
    clear hb Eb
    go_wp2_with fail
    go_fit (unhide T _ (unhide H))
    rintro r w6 ⟨rfl, hq, hb⟩
    replace HB := hide (below_two (unhide HB) hb)
    replace hp := hide (fun i hi => (unhide hp i hi).next hb)
    clear hb T H
    go_wp2_with fail
    go_fit (unhide Ep _ _ _ (unhide hp) hq)
    rintro r w7 ⟨rfl, hb⟩
    replace HB := hide (below_two (unhide HB) hb)
    clear hb Ep
    go_wp2_with fail
    go_ret
    exact ⟨rfl, unhide HB⟩
end Go.Proofs.Ythmdhgkfkpalaaa
