/- Contracts of the two NameRight functions. -/
import Derived.Test.YtdnfnlmeccchbaaBase
namespace Go.Proofs.Ytdnfnlmeccchbaa
open Go.RowKit

def byteAt (s : ByteArray) (j : Nat) : Nat := if h : j < s.size then s[j].toNat else 0
theorem byteAt_lt (s : ByteArray) (j : Nat) (h : j < s.size) : byteAt s j = s[j].toNat := by simp [byteAt, h]
def lowB (c : Nat) : Bool := decide (97 ≤ c ∧ c ≤ 122)
def digB (c : Nat) : Bool := decide (48 ≤ c ∧ c ≤ 57)
def okAt (s : ByteArray) (j : Nat) : Bool := lowB (byteAt s j) || (decide (1 ≤ j) && (digB (byteAt s j) || decide (byteAt s j = 95)))
def nameB (s : ByteArray) : Bool := decide (1 ≤ s.size ∧ s.size ≤ 20 ∧ ∀ j, j < s.size → okAt s j = true)

theorem nameB_short (s : ByteArray) (h : s.size < 1) : nameB s = false := by simp [nameB]; omega
theorem nameB_long (s : ByteArray) (h : 20 < s.size) : nameB s = false := by simp [nameB]; omega
theorem nameB_bad (s : ByteArray) (k : Nat) (h : k < s.size) (hk : okAt s k = false) : nameB s = false := by
  simp only [nameB, decide_eq_false_iff_not]; rintro ⟨_, _, h3⟩; have := h3 k h; rw [hk] at this; cases this
theorem nameB_good (s : ByteArray) (h1 : 1 ≤ s.size) (h2 : s.size ≤ 20) (h : ∀ j, j < s.size → okAt s j = true) : nameB s = true := by
  simp only [nameB, decide_eq_true_eq]; exact ⟨h1, h2, h⟩
theorem low_eq (c : Nat) (h : 97 ≤ (c : Int)) : decide ((c : Int) ≤ 122) = lowB c := by
  unfold lowB; by_cases h2 : (c : Int) ≤ 122
  · rw [decide_eq_true h2, decide_eq_true (by omega)]
  · rw [decide_eq_false h2, decide_eq_false (by omega)]
theorem low_no (c : Nat) (h : (c : Int) < 97) : false = lowB c := by
  unfold lowB; rw [decide_eq_false (by omega)]
theorem dig_eq (c : Nat) (h : 48 ≤ (c : Int)) : decide ((c : Int) ≤ 57) = digB c := by
  unfold digB; by_cases h2 : (c : Int) ≤ 57
  · rw [decide_eq_true h2, decide_eq_true (by omega)]
  · rw [decide_eq_false h2, decide_eq_false (by omega)]
theorem dig_no (c : Nat) (h : (c : Int) < 48) : false = digB c := by
  unfold digB; rw [decide_eq_false (by omega)]

theorem okAt_eq (s : ByteArray) (k : Nat) (b : Bool) (h : k < s.size) (c : Int) (hc : c = s[k].toNat) (hb : (97 ≤ c ∧ c ≤ 122 ∨ 1 ≤ k ∧ (48 ≤ c ∧ c ≤ 57 ∨ c = 95)) ↔ b = true) : Hid (okAt s k = b) := by
  show okAt s k = b
  rw [Bool.eq_iff_iff, ← hb]; simp only [okAt, lowB, digB, byteAt_lt s k h, Bool.or_eq_true, Bool.and_eq_true, decide_eq_true_eq]; omega
theorem okCases (s : ByteArray) (k : Nat) (h : k < s.size) (c : Int) (hc : c = s[k].toNat) :
    (97 ≤ c ∧ c ≤ 122 ∧ Hid (okAt s k = true)) ∨ (k = 0 ∧ c < 97 ∧ Hid (okAt s k = false)) ∨ (k = 0 ∧ 122 < c ∧ Hid (okAt s k = false)) ∨
    (1 ≤ k ∧ 48 ≤ c ∧ c ≤ 57 ∧ Hid (okAt s k = true)) ∨ (1 ≤ k ∧ c = 95 ∧ Hid (okAt s k = true)) ∨
    (1 ≤ k ∧ c < 48 ∧ Hid (okAt s k = false)) ∨ (1 ≤ k ∧ 57 < c ∧ c < 95 ∧ Hid (okAt s k = false)) ∨ (1 ≤ k ∧ 95 < c ∧ c < 97 ∧ Hid (okAt s k = false)) ∨ (1 ≤ k ∧ 122 < c ∧ Hid (okAt s k = false)) := by
  have ht := okAt_eq s k true h c hc
  have hf := okAt_eq s k false h c hc
  by_cases a1 : 97 ≤ c ∧ c ≤ 122
  · exact .inl ⟨a1.1, a1.2, ht (by simp; omega)⟩
  by_cases a0 : k = 0
  · by_cases a2 : c < 97
    · exact .inr (.inl ⟨a0, a2, hf (by simp; omega)⟩)
    · exact .inr (.inr (.inl ⟨a0, by omega, hf (by simp; omega)⟩))
  by_cases a3 : 48 ≤ c ∧ c ≤ 57
  · exact .inr (.inr (.inr (.inl ⟨by omega, a3.1, a3.2, ht (by simp; omega)⟩)))
  by_cases a4 : c = 95
  · exact .inr (.inr (.inr (.inr (.inl ⟨by omega, a4, ht (by simp; omega)⟩))))
  by_cases a5 : c < 48
  · exact .inr (.inr (.inr (.inr (.inr (.inl ⟨by omega, a5, hf (by simp; omega)⟩)))))
  by_cases a6 : c < 95
  · exact .inr (.inr (.inr (.inr (.inr (.inr (.inl ⟨by omega, by omega, a6, hf (by simp; omega)⟩))))))
  by_cases a7 : c < 97
  · exact .inr (.inr (.inr (.inr (.inr (.inr (.inr (.inl ⟨by omega, by omega, a7, hf (by simp; omega)⟩)))))))
  · exact .inr (.inr (.inr (.inr (.inr (.inr (.inr (.inr ⟨by omega, by omega, hf (by simp; omega)⟩)))))))
theorem okStep {s : ByteArray} {k : Nat} (HA : Hid (∀ j, j < k → okAt s j = true)) (h : Hid (okAt s k = true)) : ∀ j, j < k + 1 → okAt s j = true := by
  intro j hj
  by_cases e : j = k
  · rw [e]; exact h.out
  · exact HA.out j (by omega)

set_option maxHeartbeats 400000 in
theorem isLetter_any (c : UInt8) (w : World) :
    Calls Try.prog 43 #[.int .u8 (c.toNat : Int)] w fun e w' => e = .returned (.bool (lowB c.toNat)) ∧ w = w' := by
  go_enter Try.func43, Try.ntmps43
  go_wp2
  all_goals go_ret
  · exact ⟨bool_ret (low_eq _ (by assumption)), rfl⟩
  · exact ⟨bool_ret (low_no _ (by omega)), rfl⟩
set_option maxHeartbeats 400000 in
theorem isDigit_any (c : UInt8) (w : World) :
    Calls Try.prog 44 #[.int .u8 (c.toNat : Int)] w fun e w' => e = .returned (.bool (digB c.toNat)) ∧ w = w' := by
  go_enter Try.func44, Try.ntmps44
  go_wp2
  all_goals go_ret
  · exact ⟨bool_ret (dig_eq _ (by assumption)), rfl⟩
  · exact ⟨bool_ret (dig_no _ (by omega)), rfl⟩

set_option maxHeartbeats 1000000 in
theorem specName_any (s : ByteArray) (w : World) (hs : s.size ≤ maxLen) :
    Calls Try.prog 24 #[.string s] w fun e w' => e = .returned (.bool (nameB s)) ∧ w = w' := by
  unfold maxLen at hs
  by_cases h1 : s.size < 1
  · have := nameB_short s h1
    have H := Lib.hid this; clear this
    go_enter Try.func24, Try.ntmps24
    go_wp2
    go_ret
    exact ⟨bool_ret H.out.symm, rfl⟩
  by_cases h2 : 20 < s.size
  · have := nameB_long s h2
    have H := Lib.hid this; clear this
    go_enter Try.func24, Try.ntmps24
    go_wp2
    go_ret
    exact ⟨bool_ret H.out.symm, rfl⟩
  have b1 : decide ((s.size : Int) < 1) = false := by simp; omega
  have b2 : decide (20 < (s.size : Int)) = false := by simp; omega
  go_enter Try.func24, Try.ntmps24
  go_wp2
  go_loop [3] (fun i => ∃ k : Nat, k ≤ s.size ∧ i = .int .i64 k ∧ ∀ j, j < k → okAt s j = true) (fun i => s.size - (intOf i).toNat)
  case atStart => exact ⟨0, Nat.zero_le _, rfl, fun j hj => absurd hj (Nat.not_lt_zero _)⟩
  case round =>
    obtain ⟨k, hk, rfl, hall⟩ := hrel
    have HA := Lib.hid hall; clear hall
    by_cases hlt : k < s.size
    · rcases okCases s k hlt _ rfl with ⟨c1, c2, hok⟩ | ⟨c1, c2, hok⟩ | ⟨c1, c2, hok⟩ | ⟨c1, c2, c3, hok⟩ | ⟨c1, c2, hok⟩ | ⟨c1, c2, hok⟩ | ⟨c1, c2, c3, hok⟩ | ⟨c1, c2, c3, hok⟩ | ⟨c1, c2, hok⟩
      case inl =>
        go_wp2
        go_round
        case rel => exact ⟨k + 1, by omega, by go_num, okStep HA hok⟩
        case measure => simp [intOf]; omega
      case inr.inl =>
        subst c1
        try (have d2 : decide ((s[0].toNat : Int) ≤ 122) = false := by simp; omega)
        go_wp2
        go_ret
        exact ⟨bool_ret (nameB_bad s 0 hlt hok.out).symm, rfl⟩
      case inr.inr.inl =>
        subst c1
        try (have d2 : decide ((s[0].toNat : Int) ≤ 122) = false := by simp; omega)
        go_wp2
        go_ret
        exact ⟨bool_ret (nameB_bad s 0 hlt hok.out).symm, rfl⟩
      all_goals have kb : ((k : Int) == 0) = false := by simp; omega
      case inr.inr.inr.inl =>
        go_wp2
        go_round
        case rel => exact ⟨k + 1, by omega, by go_num, okStep HA hok⟩
        case measure => simp [intOf]; omega
      case inr.inr.inr.inr.inl =>
        have cb : ((s[k].toNat : Int) != 95) = false := by simp; omega
        have d1 : (57 : Int) < s[k].toNat := by omega
        have d2 : (s[k].toNat : Int) < 97 := by omega
        have d3 : decide ((s[k].toNat : Int) ≤ 57) = false := by simp; omega
        clear c2
        go_wp2
        go_round
        case rel => exact ⟨k + 1, by omega, by go_num, okStep HA hok⟩
        case measure => simp [intOf]; omega
      all_goals
        have cb : ((s[k].toNat : Int) != 95) = true := by simp; omega
        try (have d1 : decide ((s[k].toNat : Int) ≤ 57) = false := by simp; omega)
        try (have d2 : decide ((s[k].toNat : Int) ≤ 122) = false := by simp; omega)
        go_wp2
        go_ret
        exact ⟨bool_ret (nameB_bad s k hlt hok.out).symm, rfl⟩
    · go_wp2
      go_ret
      exact ⟨bool_ret (nameB_good s (by omega) (by omega) (fun j hj => HA.out j (by omega))).symm, rfl⟩

theorem okAt_of (s : ByteArray) (k : Nat) (h : k < s.size) (h1 : 1 ≤ k) : okAt s k = (lowB s[k].toNat || (digB s[k].toNat || decide (s[k].toNat = 95))) := by
  simp [okAt, byteAt_lt s k h, h1]
theorem okAt_zero (s : ByteArray) (h : 0 < s.size) : okAt s 0 = lowB s[0].toNat := by
  simp [okAt, byteAt_lt s 0 h]
theorem okZero {s : ByteArray} (h : okAt s 0 = true) : ∀ j, j < 1 → okAt s j = true := by
  intro j hj; obtain rfl : j = 0 := by omega
  exact h

set_option maxHeartbeats 1000000 in
theorem implName_any (s : ByteArray) (w : World) (hs : s.size ≤ maxLen) :
    Calls Try.prog 25 #[.string s] w fun e w' => e = .returned (.bool (nameB s)) ∧ w = w' := by
  unfold maxLen at hs
  by_cases h1 : s.size < 1
  · have := nameB_short s h1
    have H := Lib.hid this; clear this
    go_enter Try.func25, Try.ntmps25
    go_wp2
    go_ret
    exact ⟨bool_ret H.out.symm, rfl⟩
  by_cases h2 : 20 < s.size
  · have := nameB_long s h2
    have H := Lib.hid this; clear this
    go_enter Try.func25, Try.ntmps25
    go_wp2
    go_ret
    exact ⟨bool_ret H.out.symm, rfl⟩
  have b1 : decide ((s.size : Int) < 1) = false := by simp; omega
  have b2 : decide (20 < (s.size : Int)) = false := by simp; omega
  have h0 : 0 < s.size := by omega
  have z0 := okAt_zero s h0
  have Z := Lib.hid z0; clear z0
  by_cases l0 : lowB s[0].toNat = true
  case neg =>
    have l1 : lowB s[0].toNat = false := by simpa using l0
    clear l0
    have hbad := nameB_bad s 0 h0 (Z.out.trans l1)
    have B := Lib.hid hbad; clear hbad
    go_enter Try.func25, Try.ntmps25
    go_wp2_with (go_at_call 43; refine (isLetter_any _ _).mono ?_; rintro e w' ⟨rfl, rfl⟩)
    go_ret
    exact ⟨bool_ret B.out.symm, rfl⟩
  have hz := okZero (Z.out.trans l0)
  have HZ := Lib.hid hz; clear hz
  go_enter Try.func25, Try.ntmps25
  go_wp2_with (go_at_call 43; refine (isLetter_any _ _).mono ?_; rintro e w' ⟨rfl, rfl⟩)
  go_loop [3] (fun i => ∃ k : Nat, 1 ≤ k ∧ k ≤ s.size ∧ i = .int .i64 k ∧ ∀ j, j < k → okAt s j = true) (fun i => s.size - (intOf i).toNat)
  case atStart => exact ⟨1, by omega, by omega, rfl, HZ.out⟩
  case round =>
    obtain ⟨k, hk1, hk, rfl, hall⟩ := hrel
    have HA := Lib.hid hall; clear hall
    by_cases hlt : k < s.size
    · have ho := okAt_of s k hlt hk1
      have HO := Lib.hid ho; clear ho
      cases e1 : lowB s[k].toNat
      case true =>
        have hok : Hid (okAt s k = true) := by show okAt s k = true; rw [HO.out, e1]; rfl
        clear HO
        go_wp2_with (first | (go_at_call 43; refine (isLetter_any _ _).mono ?_; rintro e w' ⟨rfl, rfl⟩) | (go_at_call 44; refine (isDigit_any _ _).mono ?_; rintro e w' ⟨rfl, rfl⟩))
        go_round
        case rel => exact ⟨k + 1, by omega, by omega, by go_num, okStep HA hok⟩
        case measure => simp [intOf]; omega
      cases e2 : digB s[k].toNat
      case true =>
        have hok : Hid (okAt s k = true) := by show okAt s k = true; rw [HO.out, e1, e2]; rfl
        clear HO
        go_wp2_with (first | (go_at_call 43; refine (isLetter_any _ _).mono ?_; rintro e w' ⟨rfl, rfl⟩) | (go_at_call 44; refine (isDigit_any _ _).mono ?_; rintro e w' ⟨rfl, rfl⟩))
        go_round
        case rel => exact ⟨k + 1, by omega, by omega, by go_num, okStep HA hok⟩
        case measure => simp [intOf]; omega
      by_cases e3 : s[k].toNat = 95
      · have hok : Hid (okAt s k = true) := by show okAt s k = true; rw [HO.out, e1, e2, decide_eq_true e3]; rfl
        have cb : ((s[k].toNat : Int) != 95) = false := by simp; omega
        clear HO e3
        go_wp2_with (first | (go_at_call 43; refine (isLetter_any _ _).mono ?_; rintro e w' ⟨rfl, rfl⟩) | (go_at_call 44; refine (isDigit_any _ _).mono ?_; rintro e w' ⟨rfl, rfl⟩))
        go_round
        case rel => exact ⟨k + 1, by omega, by omega, by go_num, okStep HA hok⟩
        case measure => simp [intOf]; omega
      · have hok : Hid (okAt s k = false) := by show okAt s k = false; rw [HO.out, e1, e2, decide_eq_false e3]; rfl
        have cb : ((s[k].toNat : Int) != 95) = true := by simp; omega
        clear HO e3
        go_wp2_with (first | (go_at_call 43; refine (isLetter_any _ _).mono ?_; rintro e w' ⟨rfl, rfl⟩) | (go_at_call 44; refine (isDigit_any _ _).mono ?_; rintro e w' ⟨rfl, rfl⟩))
        go_ret
        exact ⟨bool_ret (nameB_bad s k hlt hok.out).symm, rfl⟩
    · go_wp2
      go_ret
      exact ⟨bool_ret (nameB_good s (by omega) (by omega) (fun j hj => HA.out j (by omega))).symm, rfl⟩
end Go.Proofs.Ytdnfnlmeccchbaa
