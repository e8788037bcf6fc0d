/- Packets: the value, when one is right; the model's and the program's PacketRight; a law's own turned into the program's. -/
import Derived.Test.YtglealihdkecpaaGreatB3
import Derived.Test.YtglealihdkecpaaGreatB3
namespace Go.Proofs.YtglealihdkecpaaGreat
open Go.RowKit

def pkV (e c n a : Int) (t : ByteArray) : Value := .agg #[.int .i64 e, .int .i64 c, .int .i64 n, .int .i64 a, .string t]
def isEpoch (n : Int) : Bool := inR n 1 1000000
def pkRight (e c n a : Int) (t : ByteArray) : Bool := isEpoch e && (isTime c && (isTime n && (isTime a && (decide (t.size ≤ 60) && (decide (n ≠ 0) || decide (t.size = 0))))))
inductive PkWay (e c n a : Int) (t : ByteArray) : Prop
  | w1 (h1 : isEpoch e = false) (hr : Hid (pkRight e c n a t = false))
  | w2 (h1 : isEpoch e = true) (h2 : isTime c = false) (hr : Hid (pkRight e c n a t = false))
  | w3 (h1 : isEpoch e = true) (h2 : isTime c = true) (h3 : isTime n = false) (hr : Hid (pkRight e c n a t = false))
  | w4 (h1 : isEpoch e = true) (h2 : isTime c = true) (h3 : isTime n = true) (h4 : isTime a = false) (hr : Hid (pkRight e c n a t = false))
  | w5 (h1 : isEpoch e = true) (h2 : isTime c = true) (h3 : isTime n = true) (h4 : isTime a = true) (h5 : ¬ t.size ≤ 60) (hr : Hid (pkRight e c n a t = false))
  | w6 (h1 : isEpoch e = true) (h2 : isTime c = true) (h3 : isTime n = true) (h4 : isTime a = true) (h5 : t.size ≤ 60) (h6 : 0 < n) (h7 : ¬ n = 0) (hr : Hid (pkRight e c n a t = true))
  | w7 (h1 : isEpoch e = true) (h2 : isTime c = true) (h3 : isTime n = true) (h4 : isTime a = true) (h5 : t.size ≤ 60) (h6 : n = 0) (h7 : t.toList.isEmpty = false) (hr : Hid (pkRight e c n a t = false))
  | w8 (h1 : isEpoch e = true) (h2 : isTime c = true) (h3 : isTime n = true) (h4 : isTime a = true) (h6 : n = 0) (h7 : t = ⟨#[]⟩) (hr : Hid (pkRight e c n a t = true))
theorem not_empty {t : ByteArray} (h : ¬ t.size = 0) : t.toList.isEmpty = false := by
  rw [List.isEmpty_eq_false_iff]
  intro e
  have := congrArg List.length e
  rw [ByteArray.toList_eq, ← size_list] at this
  exact h this
theorem isTime_pos {n : Int} (h : isTime n = true) (h0 : ¬ n = 0) : 0 < n := by
  unfold isTime inR at h
  simp at h
  omega
theorem pk_way (e c n a : Int) (t : ByteArray) : PkWay e c n a t := by
  cases h1 : isEpoch e
  · exact .w1 h1 (Lib.hid (by simp [pkRight, h1]))
  cases h2 : isTime c
  · exact .w2 h1 h2 (Lib.hid (by simp [pkRight, h2]))
  cases h3 : isTime n
  · exact .w3 h1 h2 h3 (Lib.hid (by simp [pkRight, h3]))
  cases h4 : isTime a
  · exact .w4 h1 h2 h3 h4 (Lib.hid (by simp [pkRight, h4]))
  by_cases h5 : t.size ≤ 60
  · by_cases h6 : n = 0
    · by_cases h7 : t = ⟨#[]⟩
      · exact .w8 h1 h2 h3 h4 h6 h7 (Lib.hid (by subst h6 h7; simp [pkRight, h1, h2, h3, h4, ByteArray.size]))
      · have h8 : ¬ t.size = 0 := fun h => h7 (size_zero h)
        exact .w7 h1 h2 h3 h4 h5 h6 (not_empty h8) (Lib.hid (by subst h6; unfold pkRight; rw [decide_eq_false h8]; simp))
    · exact .w6 h1 h2 h3 h4 h5 (isTime_pos h3 h6) h6 (Lib.hid (by simp [pkRight, h1, h2, h3, h4, h5, h6]))
  · exact .w5 h1 h2 h3 h4 h5 (Lib.hid (by simp [pkRight, h5]))
theorem implEpoch_any (n : Int) (w : World) : Calls Tryz.prog 58 #[.int .i64 n] w fun e w' => e = .returned (.bool (isEpoch n)) ∧ w = w' := by
  by_cases h1 : 1 ≤ n
  · have HR : Hid (isEpoch n = decide (n ≤ 1000000)) := Lib.hid (by rw [isEpoch, inR, decide_eq_true h1]; rfl)
    go_enter Tryz.func58, Tryz.ntmps58
    go_wp2
    go_ret
    exact ⟨bool_ret HR.out.symm, rfl⟩
  · have HR : Hid (isEpoch n = false) := Lib.hid (by rw [isEpoch, inR, decide_eq_false h1]; rfl)
    go_enter Tryz.func58, Tryz.ntmps58
    go_wp2
    go_ret
    exact ⟨bool_ret HR.out.symm, rfl⟩
theorem implMessage_yes (t : ByteArray) (w : World) (h : t.size ≤ 60) : Calls Tryz.prog 192 #[.string t] w fun e w' => e = .returned (.bool true) ∧ w = w' := by
  go_enter Tryz.func192, Tryz.ntmps192
  go_wp2
  go_ret
  exact ⟨bool_ret (decide_eq_true (by omega)), rfl⟩
theorem implMessage_no (t : ByteArray) (w : World) (h : ¬ t.size ≤ 60) : Calls Tryz.prog 192 #[.string t] w fun e w' => e = .returned (.bool false) ∧ w = w' := by
  go_enter Tryz.func192, Tryz.ntmps192
  go_wp2
  go_ret
  exact ⟨bool_ret (decide_eq_false (by omega)), rfl⟩
theorem specTimeP_any (n : Int) (w : World) : Calls Tryz.prog 43 #[.int .i64 n] w fun e w' => e = .returned (.bool (isTime n)) ∧ w = w' := by
  unfold isTime
  go_enter Tryz.func43, Tryz.ntmps43
  go_wp2_with (go_at_call 44; refine (specIs_any _ _ _ _).mono ?_; rintro e w' ⟨rfl, rfl⟩)
  go_ret
  exact ⟨rfl, rfl⟩
theorem specEpoch_any (n : Int) (w : World) : Calls Tryz.prog 44 #[.int .i64 n, .int .i64 1, .int .i64 1000000] w fun e w' => e = .returned (.bool (isEpoch n)) ∧ w = w' := specIs_any _ _ _ _
def SzPost1 (t : ByteArray) (w : World) (e : Ending) (w' : World) : Prop := ∃ x : Int, e = .returned (.int .i64 x) ∧ (0 ≤ x → t.size ≤ 1048576) ∧ Below w.heap.size w w'
end Go.Proofs.YtglealihdkecpaaGreat
