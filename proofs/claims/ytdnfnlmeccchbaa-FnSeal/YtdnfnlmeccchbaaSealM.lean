/- The CRC as plain mathematics: a seal is read back; one byte turned is seen; a CRC goes on over a second string. -/
import Derived.Test.YtdnfnlmeccchbaaUnseal
namespace Go.Proofs.Ytdnfnlmeccchbaa
open Go.RowKit

theorem xor_left {a b c : Nat} (h : a ^^^ b = a ^^^ c) : b = c := by
  have := congrArg (a ^^^ ·) h
  simpa [← Nat.xor_assoc] using this
theorem xor_right {a b c : Nat} (h : a ^^^ c = b ^^^ c) : a = b := xor_left (a := c) (by rw [Nat.xor_comm c a, Nat.xor_comm c b, h])
theorem crcStep_top (r : Nat) (h : r < 4294967296) : (crcStep r).testBit 31 = decide (r % 2 = 1) := by
  unfold crcStep
  have hz : (r / 2).testBit 31 = false := Nat.testBit_lt_two_pow (by omega)
  by_cases e : r % 2 = 1
  · rw [if_pos e, Nat.testBit_xor, hz, decide_eq_true e]; decide
  · rw [if_neg e, hz, decide_eq_false e]
theorem crcStep_inj (a b : Nat) (ha : a < 4294967296) (hb : b < 4294967296) (h : crcStep a = crcStep b) : a = b := by
  have ht := crcStep_top a ha
  rw [h, crcStep_top b hb] at ht
  have hp : (b % 2 = 1) ↔ (a % 2 = 1) := by simpa [decide_eq_decide] using ht
  unfold crcStep at h
  by_cases e : a % 2 = 1
  · rw [if_pos e, if_pos (hp.2 e)] at h
    have h2 : a / 2 = b / 2 := xor_right h
    have := hp.2 e; omega
  · rw [if_neg e, if_neg (fun x => e (hp.1 x))] at h
    have : ¬ b % 2 = 1 := fun x => e (hp.1 x)
    omega
theorem crcSteps_inj (n a b : Nat) (ha : a < 4294967296) (hb : b < 4294967296) (h : crcSteps n a = crcSteps n b) : a = b := by
  induction n with
  | zero => exact h
  | succ n ih => exact ih (crcStep_inj _ _ (crcSteps_lt n a ha) (crcSteps_lt n b hb) h)
theorem crcFold_inj (l : List UInt8) : ∀ a b, a < 4294967296 → b < 4294967296 → crcFold a l = crcFold b l → a = b := by
  induction l with
  | nil => intro a b _ _ h; exact h
  | cons c l ih =>
    intro a b ha hb h
    have := ih _ _ (crcSteps_lt 8 _ (xor_byte_lt a c ha)) (crcSteps_lt 8 _ (xor_byte_lt b c hb)) h
    exact xor_right (crcSteps_inj 8 _ _ (xor_byte_lt a c ha) (xor_byte_lt b c hb) this)
theorem crcFold_append (r : Nat) (l m : List UInt8) : crcFold r (l ++ m) = crcFold (crcFold r l) m := by simp [crcFold]
theorem crcFold_set (r : Nat) (hr : r < 4294967296) (l : List UInt8) (i : Nat) (hi : i < l.length) (c : UInt8) (hc : c ≠ l[i]) : crcFold r (l.set i c) ≠ crcFold r l := by
  have e1 : l = l.take i ++ l[i] :: l.drop (i + 1) := by simp
  have e2 : l.set i c = l.take i ++ c :: l.drop (i + 1) := List.set_eq_take_append_cons_drop.trans (by rw [if_pos hi])
  intro h
  rw [e2] at h
  have h' : crcFold r (l.take i ++ c :: l.drop (i + 1)) = crcFold r (l.take i ++ l[i] :: l.drop (i + 1)) := by rw [h]; congr 1
  rw [crcFold_append, crcFold_append] at h'
  have hq := crcFold_lt (l.take i) r hr
  have h2 := crcFold_inj (l.drop (i + 1)) _ _ (crcSteps_lt 8 _ (xor_byte_lt _ c hq)) (crcSteps_lt 8 _ (xor_byte_lt _ l[i] hq)) h'
  have h3 := xor_left (crcSteps_inj 8 _ _ (xor_byte_lt _ c hq) (xor_byte_lt _ l[i] hq) h2)
  exact hc (UInt8.toNat_inj.1 h3)
theorem not_not (r : Nat) : 4294967295 ^^^ (4294967295 ^^^ r) = r := by rw [← Nat.xor_assoc, Nat.xor_self, Nat.zero_xor]
theorem not_inj {a b : Nat} (h : 4294967295 ^^^ a = 4294967295 ^^^ b) : a = b := xor_left h
theorem crcOf_set (l : List UInt8) (i : Nat) (hi : i < l.length) (c : UInt8) (hc : c ≠ l[i]) : crcOf 0 (strOf (l.set i c)) ≠ crcOf 0 (strOf l) := by
  intro h
  exact crcFold_set _ (not_lt 0 (by omega)) l i hi c hc (by simpa [crcOf, strOf] using not_inj h)
theorem crcOf_more (a b : ByteArray) : crcOf (crcOf 0 a) b = crcOf 0 (strOf (a.data.toList ++ b.data.toList)) := by
  unfold crcOf
  rw [not_not, strOf_list, crcFold_append]
theorem four_inj (n m : Nat) (hn : n < 4294967296) (hm : m < 4294967296) (h : four n = four m) : n = m := by
  simp only [four, List.cons.injEq, and_true] at h
  obtain ⟨h0, h1, h2, h3⟩ := h
  have g : ∀ x y : Nat, UInt8.ofNat (x % 256) = UInt8.ofNat (y % 256) → x % 256 = y % 256 := by
    intro x y h
    have := congrArg UInt8.toNat h
    simpa using this
  have := g _ _ h0; have := g _ _ h1; have := g _ _ h2; have := g _ _ h3
  omega

theorem ext_head (m q : List UInt8) : (strOf (m ++ q)).extract 0 m.length = strOf m := by
  rw [Lib.extract_eq, strOf_list, List.drop_zero, Nat.sub_zero, List.take_left]; rfl
theorem ext_tail (m q : List UInt8) : ((strOf (m ++ q)).extract m.length (m.length + q.length)).toList = q := by
  rw [Lib.extract_toList, strOf_list, List.drop_left, Nat.add_sub_cancel_left, List.take_length]
theorem sumOk_of (m q : List UInt8) (hq : q.length = 4) : sumOk (strOf (m ++ q)) = decide (four (crcOf 0 (strOf m)) = q) := by
  have hs : (strOf (m ++ q)).size = m.length + q.length := by rw [strOf_size, List.length_append]
  have h4 : m.length + q.length - 4 = m.length := by omega
  unfold sumOk
  rw [hs, h4, ext_head, ext_tail]
  show ((strOf (four (crcOf 0 (strOf m)))).toList == q) = _
  rw [Lib.toList_data, strOf_list]
  by_cases e : four (crcOf 0 (strOf m)) = q
  · rw [decide_eq_true e, e]; simp
  · rw [decide_eq_false e]; simpa using e
theorem four_len (n : Nat) : (four n).length = 4 := rfl
theorem unseal_seal (l : List UInt8) (h : l.length ≤ 7996) : unsealV (strOf (l ++ four (crcOf 0 (strOf l)))) = textOutV (strOf l) 0 0 := by
  have hs : (strOf (l ++ four (crcOf 0 (strOf l)))).size = l.length + 4 := by rw [strOf_size, List.length_append, four_len]
  rw [unseal_0 _ (by omega) (by omega) (by rw [sumOk_of _ _ (four_len _)]; simp), hs, Nat.add_sub_cancel, ext_head]
theorem unseal_turned (l : List UInt8) (h : l.length ≤ 7996) (i : Nat) (c : UInt8) (hi : i < (l ++ four (crcOf 0 (strOf l))).length) (hc : c ≠ (l ++ four (crcOf 0 (strOf l)))[i]) :
    unsealV (strOf ((l ++ four (crcOf 0 (strOf l))).set i c)) = textOutV ⟨#[]⟩ 0 5 := by
  have hs : (strOf ((l ++ four (crcOf 0 (strOf l))).set i c)).size = l.length + 4 := by rw [strOf_size, List.length_set, List.length_append, four_len]
  refine unseal_5 _ (by omega) (by omega) ?_
  by_cases hl : i < l.length
  · rw [List.set_append_left _ _ hl, sumOk_of _ _ (four_len _)]
    rw [List.getElem_append_left hl] at hc
    refine decide_eq_false fun e => crcOf_set l i hl c hc (four_inj _ _ (crcOf_lt 0 _ (by omega)) (crcOf_lt 0 _ (by omega)) e)
  · rw [List.set_append_right _ _ (by omega), sumOk_of _ _ (by rw [List.length_set, four_len])]
    rw [List.getElem_append_right (by omega)] at hc
    refine decide_eq_false fun e => hc ?_
    have hlt : i - l.length < (four (crcOf 0 (strOf l))).length := by rw [List.length_append] at hi; omega
    have := congrArg (fun q : List UInt8 => q[i - l.length]?) e
    simp only [List.getElem?_set_self hlt, List.getElem?_eq_getElem hlt, Option.some.injEq] at this
    exact this.symm
theorem more_eq (l m : List UInt8) (h : l.length + m.length ≤ 8000) : crcMoreI (crcI (strOf l)) (strOf m) = crcI (strOf (l ++ m)) := by
  have h1 : ¬ 8000 < (strOf l).size := by rw [strOf_size]; omega
  have h2 : ¬ 8000 < (strOf (l ++ m)).size := by rw [strOf_size, List.length_append]; omega
  have h3 : ¬ 8000 < (strOf m).size := by rw [strOf_size]; omega
  have hb := crcOf_lt 0 (strOf l) (by omega)
  rw [crcI, if_neg h1, crcI, if_neg h2, crcMoreI, if_neg (by omega)]
  have := crcOf_more (strOf l) (strOf m)
  rw [strOf_list, strOf_list] at this
  rw [← this]; rfl
end Go.Proofs.Ytdnfnlmeccchbaa
