/- Packets: the value, when one is right; the model's and the program's PacketRight; a law's own turned into the program's. -/
import Derived.Test.YtfmhccmaeonbhaaB3
import Derived.Test.YtfmhccmaeonbhaaB3
namespace Go.Proofs.Ytfmhccmaeonbhaa
open Go.RowKit

def pkV (e c n a : Int) (t : ByteArray) : Value := .agg #[.int .i64 e, .int .i64 c, .int .i64 n, .int .i64 a, .string t]
def isEpoch (n : Int) : Bool := inR n 1 1000000
def pkRight (e c n a : Int) (t : ByteArray) : Bool := isEpoch e && (isTime c && (isTime n && (isTime a && (decide (t.size ≤ 60) && (decide (n ≠ 0) || decide (t.size = 0))))))
inductive PkWay (e c n a : Int) (t : ByteArray) : Prop
  | w1 (h1 : isEpoch e = false) (hr : Hid (pkRight e c n a t = false))
  | w2 (h1 : isEpoch e = true) (h2 : isTime c = false) (hr : Hid (pkRight e c n a t = false))
  | w3 (h1 : isEpoch e = true) (h2 : isTime c = true) (h3 : isTime n = false) (hr : Hid (pkRight e c n a t = false))
  | w4 (h1 : isEpoch e = true) (h2 : isTime c = true) (h3 : isTime n = true) (h4 : isTime a = false) (hr : Hid (pkRight e c n a t = false))
  | w5 (h1 : isEpoch e = true) (h2 : isTime c = true) (h3 : isTime n = true) (h4 : isTime a = true) (h5 : ¬ t.size ≤ 60) (hr : Hid (pkRight e c n a t = false))
  | w6 (h1 : isEpoch e = true) (h2 : isTime c = true) (h3 : isTime n = true) (h4 : isTime a = true) (h5 : t.size ≤ 60) (h6 : 0 < n) (h7 : ¬ n = 0) (hr : Hid (pkRight e c n a t = true))
  | w7 (h1 : isEpoch e = true) (h2 : isTime c = true) (h3 : isTime n = true) (h4 : isTime a = true) (h5 : t.size ≤ 60) (h6 : n = 0) (h7 : t.toList.isEmpty = false) (hr : Hid (pkRight e c n a t = false))
  | w8 (h1 : isEpoch e = true) (h2 : isTime c = true) (h3 : isTime n = true) (h4 : isTime a = true) (h6 : n = 0) (h7 : t = ⟨#[]⟩) (hr : Hid (pkRight e c n a t = true))
theorem not_empty {t : ByteArray} (h : ¬ t.size = 0) : t.toList.isEmpty = false := by
  rw [List.isEmpty_eq_false_iff]
  intro e
  have := congrArg List.length e
  rw [ByteArray.toList_eq, ← size_list] at this
  exact h this
theorem isTime_pos {n : Int} (h : isTime n = true) (h0 : ¬ n = 0) : 0 < n := by
  unfold isTime inR at h
  simp at h
  omega
theorem pk_way (e c n a : Int) (t : ByteArray) : PkWay e c n a t := by
  cases h1 : isEpoch e
  · exact .w1 h1 (Lib.hid (by simp [pkRight, h1]))
  cases h2 : isTime c
  · exact .w2 h1 h2 (Lib.hid (by simp [pkRight, h2]))
  cases h3 : isTime n
  · exact .w3 h1 h2 h3 (Lib.hid (by simp [pkRight, h3]))
  cases h4 : isTime a
  · exact .w4 h1 h2 h3 h4 (Lib.hid (by simp [pkRight, h4]))
  by_cases h5 : t.size ≤ 60
  · by_cases h6 : n = 0
    · by_cases h7 : t = ⟨#[]⟩
      · exact .w8 h1 h2 h3 h4 h6 h7 (Lib.hid (by subst h6 h7; simp [pkRight, h1, h2, h3, h4, ByteArray.size]))
      · have h8 : ¬ t.size = 0 := fun h => h7 (size_zero h)
        exact .w7 h1 h2 h3 h4 h5 h6 (not_empty h8) (Lib.hid (by subst h6; unfold pkRight; rw [decide_eq_false h8]; simp))
    · exact .w6 h1 h2 h3 h4 h5 (isTime_pos h3 h6) h6 (Lib.hid (by simp [pkRight, h1, h2, h3, h4, h5, h6]))
  · exact .w5 h1 h2 h3 h4 h5 (Lib.hid (by simp [pkRight, h5]))
theorem implEpoch_any (n : Int) (w : World) : Calls Try.prog 59 #[.int .i64 n] w fun e w' => e = .returned (.bool (isEpoch n)) ∧ w = w' := by
  by_cases h1 : 1 ≤ n
  · have HR : Hid (isEpoch n = decide (n ≤ 1000000)) := Lib.hid (by rw [isEpoch, inR, decide_eq_true h1]; rfl)
    go_enter Try.func59, Try.ntmps59
    go_wp2
    go_ret
    exact ⟨bool_ret HR.out.symm, rfl⟩
  · have HR : Hid (isEpoch n = false) := Lib.hid (by rw [isEpoch, inR, decide_eq_false h1]; rfl)
    go_enter Try.func59, Try.ntmps59
    go_wp2
    go_ret
    exact ⟨bool_ret HR.out.symm, rfl⟩
theorem implMessage_yes (t : ByteArray) (w : World) (h : t.size ≤ 60) : Calls Try.prog 61 #[.string t] w fun e w' => e = .returned (.bool true) ∧ w = w' := by
  go_enter Try.func61, Try.ntmps61
  go_wp2
  go_ret
  exact ⟨bool_ret (decide_eq_true (by omega)), rfl⟩
theorem implMessage_no (t : ByteArray) (w : World) (h : ¬ t.size ≤ 60) : Calls Try.prog 61 #[.string t] w fun e w' => e = .returned (.bool false) ∧ w = w' := by
  go_enter Try.func61, Try.ntmps61
  go_wp2
  go_ret
  exact ⟨bool_ret (decide_eq_false (by omega)), rfl⟩
theorem specTime_any (n : Int) (w : World) : Calls Try.prog 58 #[.int .i64 n] w fun e w' => e = .returned (.bool (isTime n)) ∧ w = w' := by
  unfold isTime
  go_enter Try.func58, Try.ntmps58
  go_wp2_with (go_at_call 57; refine (specIs_any _ _ _ _).mono ?_; rintro e w' ⟨rfl, rfl⟩)
  go_ret
  exact ⟨rfl, rfl⟩
theorem specEpoch_any (n : Int) (w : World) : Calls Try.prog 57 #[.int .i64 n, .int .i64 1, .int .i64 1000000] w fun e w' => e = .returned (.bool (isEpoch n)) ∧ w = w' := specIs_any _ _ _ _
set_option maxHeartbeats 1000000 in
theorem specPacketRight_any (e c n a : Int) (t : ByteArray) (w : World) : Calls Try.prog 15 #[pkV e c n a t] w fun x w' => x = .returned (.bool (pkRight e c n a t)) ∧ Below w.heap.size w w' := by
  have hw := pk_way e c n a t
  unfold pkV
  rcases hw with ⟨h1, hr⟩ | ⟨h1, h2, hr⟩ | ⟨h1, h2, h3, hr⟩ | ⟨h1, h2, h3, h4, hr⟩ | ⟨h1, h2, h3, h4, h5, hr⟩ | ⟨h1, h2, h3, h4, h5, h6, h7, hr⟩ | ⟨h1, h2, h3, h4, h5, h6, h7, hr⟩ | ⟨h1, h2, h3, h4, h6, h7, hr⟩
  all_goals
    try subst h6
    try subst h7
    go_enter Try.func15, Try.ntmps15
    go_wp2_with (first | (go_at_call 58; refine (specTime_any _ _).mono ?_; rintro e w' ⟨rfl, rfl⟩) | (go_at_call 57; refine (specEpoch_any _ _).mono ?_; rintro e w' ⟨rfl, rfl⟩))
    go_ret
    refine ⟨bool_ret (by first | exact hr.out.symm | (rw [hr.out]; exact h7)), ?_⟩
    go_grown
set_option maxHeartbeats 1000000 in
theorem implPacketRight_any (e c n a : Int) (t : ByteArray) (w : World) : Calls Try.prog 17 #[pkV e c n a t] w fun x w' => x = .returned (.bool (pkRight e c n a t)) ∧ Below w.heap.size w w' := by
  have hw := pk_way e c n a t
  unfold pkV
  rcases hw with ⟨h1, hr⟩ | ⟨h1, h2, hr⟩ | ⟨h1, h2, h3, hr⟩ | ⟨h1, h2, h3, h4, hr⟩ | ⟨h1, h2, h3, h4, h5, hr⟩ | ⟨h1, h2, h3, h4, h5, h6, h7, hr⟩ | ⟨h1, h2, h3, h4, h5, h6, h7, hr⟩ | ⟨h1, h2, h3, h4, h6, h7, hr⟩
  all_goals
    try subst h6
    try subst h7
    go_enter Try.func17, Try.ntmps17
    go_wp2_with (first | (go_at_call 60; refine (implTime_any _ _).mono ?_; rintro e w' ⟨rfl, rfl⟩) | (go_at_call 59; refine (implEpoch_any _ _).mono ?_; rintro e w' ⟨rfl, rfl⟩) | (go_at_call 61; refine (implMessage_yes _ _ (by first | assumption | decide)).mono ?_; rintro e w' ⟨rfl, rfl⟩) | (go_at_call 61; refine (implMessage_no _ _ (by assumption)).mono ?_; rintro e w' ⟨rfl, rfl⟩))
    go_ret
    refine ⟨bool_ret (by first | exact hr.out.symm | (rw [hr.out]; exact h7)), ?_⟩
    go_grown
set_option maxHeartbeats 1000000 in
theorem toPacket_any (e c n a : Int) (t : ByteArray) (w : World) : Calls Try.prog 16 #[pkV e c n a t] w fun x w' => x = .returned (pkV e c n a t) ∧ Below w.heap.size w w' := by
  unfold pkV
  go_enter Try.func16, Try.ntmps16
  go_wp2
  refine bodyPost_ret (v := pkV e c n a t) (by simp [results, Try.results16, go_sem, pkV]) rfl ⟨rfl, ?_⟩
  go_grown
set_option maxHeartbeats 1000000 in
theorem eqPacket_same (e c n a : Int) (t : ByteArray) (w : World) : Calls Try.prog 83 #[pkV e c n a t, pkV e c n a t] w fun x w' => x = .returned (.bool true) ∧ Below w.heap.size w w' := by
  unfold pkV
  go_enter Try.func83, Try.ntmps83
  go_wp2
  go_ret
  refine ⟨rfl, ?_⟩
  go_grown
def SzPost1 (t : ByteArray) (w : World) (e : Ending) (w' : World) : Prop := ∃ x : Int, e = .returned (.int .i64 x) ∧ (0 ≤ x → t.size ≤ 1048576) ∧ Below w.heap.size w w'
theorem szPacket_any (e c n a L : Int) (t : ByteArray) (w : World) (hb : t.size ≤ maxLen) (h0 : 0 ≤ L) (h1 : L ≤ 1048576) : Calls Try.prog 14 #[pkV e c n a t, .int .i64 L] w (SzPost1 t w) := by
  unfold maxLen at hb
  unfold pkV
  by_cases h : L < (t.size : Int)
  · have hneg : (L - (t.size : Int) : Int) < 0 := by omega
    go_enter Try.func14, Try.ntmps14
    go_wp2
    go_ret
    refine ⟨_, rfl, fun h => absurd h (by omega), ?_⟩
    go_grown
  · have hneg : ¬ (L - (t.size : Int) : Int) < 0 := by omega
    go_enter Try.func14, Try.ntmps14
    go_wp2
    go_ret
    refine ⟨_, rfl, fun _ => by omega, ?_⟩
    go_grown
theorem cells_lpacket : Try.prog.cellsOf 23 = 5 := by kernel_rfl
set_option maxRecDepth 100000 in
theorem packet_open {H : Type} {enc : TypeId × Value → H} {w : World} {base : Nat} {sp : Nat → Bool} {held : Bool} {r : Reach} {b0 : Nat} {v : Value} {d : DataW H} {p : List MemPlace} (o : Value.okWide Try.prog w r b0 23 v) (h : DataW.Trod enc Try.prog w base sp held 23 v d p) : ∃ e c n a t, v = pkV e c n a t ∧ t.size ≤ maxLen := by
  obtain ⟨cs, rfl, hsz, hf⟩ := struct_open Try.underlying23 o h
  obtain ⟨a0, e0, _⟩ := int_at Try.underlying2 cells_int (hf 0 _ rfl)
  obtain ⟨a1, e1, _⟩ := int_at Try.underlying2 cells_int (hf 1 _ rfl)
  obtain ⟨a2, e2, _⟩ := int_at Try.underlying2 cells_int (hf 2 _ rfl)
  obtain ⟨a3, e3, _⟩ := int_at Try.underlying2 cells_int (hf 3 _ rfl)
  obtain ⟨t, e4, ht⟩ := string_at Try.underlying9 cells_str (hf 4 _ rfl)
  obtain rfl := arr5 (hsz.trans cells_lpacket) e0 e1 e2 e3 e4
  exact ⟨a0, a1, a2, a3, t, rfl, ht⟩
end Go.Proofs.Ytfmhccmaeonbhaa
