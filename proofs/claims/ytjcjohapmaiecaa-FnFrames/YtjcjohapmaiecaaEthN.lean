/- What is accepted is the encoding of the result: mathematics. -/
import Derived.Test.YtjcjohapmaiecaaEthM
namespace Go.Proofs.Ytjcjohapmaiecaa
open Go.RowKit

theorem numAt_list (s : ByteArray) (a b : Nat) : numAt s a b = num ((s.data.toList.drop a).take (b - a)) := by
  have h := numAt_strOf s.data.toList a b; rwa [strOf_self] at h
theorem part_length (s : ByteArray) (a b : Nat) (h : b ≤ s.size) : ((s.data.toList.drop a).take (b - a)).length = b - a := by
  rw [List.length_take, List.length_drop, ← size_list]; omega
theorem be_part (s : ByteArray) (a b : Nat) (h : b ≤ s.size) : be (b - a) (numAt s a b) = (s.data.toList.drop a).take (b - a) := by
  have e := be_num ((s.data.toList.drop a).take (b - a))
  rw [part_length s a b h] at e
  rw [numAt_list]; exact e
theorem numAt_lt (s : ByteArray) (a b : Nat) : numAt s a b < 256 ^ (b - a) := by
  rw [numAt_list]
  exact Nat.lt_of_lt_of_le (num_lt _) (Nat.pow_le_pow_right (by decide) (by rw [List.length_take]; omega))
theorem part_on (l : List UInt8) (a n m : Nat) (h : a + n = m) : (l.drop a).take n ++ l.drop m = l.drop a := by
  rw [← h, ← List.drop_drop]; exact List.take_append_drop n (l.drop a)
theorem inR_of {n lo hi : Int} (h1 : lo ≤ n) (h2 : n ≤ hi) : inR n lo hi = true := by rw [inR, decide_eq_true h1, decide_eq_true h2]; rfl
theorem ext_list (s : ByteArray) (a : Nat) : (s.extract a s.size).data.toList = s.data.toList.drop a := by
  have h := ext_strOf s.data.toList a s.size
  rw [strOf_self] at h
  rw [h, strOf_list, List.take_of_length_le (by rw [List.length_drop, ← size_list]; omega)]

theorem eth_forth (s : ByteArray) (h2 : ¬ s.size < 14) (h3 : ¬ 74 < s.size) : ethB (numAt s 0 6 : Nat) (numAt s 6 12 : Nat) (numAt s 12 14 : Nat) (s.extract 14 s.size) = s := by
  have l1 := numAt_lt s 0 6
  have l2 := numAt_lt s 6 12
  have l3 := numAt_lt s 12 14
  rw [ethB_0 (inR_of (by omega) (by omega)) (inR_of (by omega) (by omega)) (inR_of (by omega) (by omega)) (by simp; omega)]
  rw [Int.toNat_natCast, Int.toNat_natCast, Int.toNat_natCast, ext_list]
  have b1 := be_part s 0 6 (by omega)
  have b2 := be_part s 6 12 (by omega)
  have b3 := be_part s 12 14 (by omega)
  rw [show 6 - 0 = 6 from rfl] at b1
  rw [show 12 - 6 = 6 from rfl] at b2
  rw [show 14 - 12 = 2 from rfl] at b3
  rw [b1, b2, b3, part_on _ 12 2 14 rfl, part_on _ 6 6 12 rfl, part_on _ 0 6 6 rfl, List.drop_zero, strOf_self]

/- the first byte of a frame tells whether it goes to a group -/
theorem num_head (b : UInt8) (X : List UInt8) : num (b :: X) = b.toNat * 256 ^ X.length + num X := by
  refine snoc_ind (P := fun X => num (b :: X) = b.toNat * 256 ^ X.length + num X) (by simp [num]) (fun l c ih => ?_) X
  rw [← List.cons_append, num_snoc, ih, num_snoc, List.length_append, List.length_cons, List.length_nil, Nat.pow_succ]
  rw [Nat.add_mul, Nat.mul_assoc]; omega
theorem group_head (s : ByteArray) (h : 6 ≤ s.size) : isGroup (numAt s 0 6 : Nat) = decide (s[0].toNat % 2 = 1) := by
  have hl : s.data.toList.drop 0 = s[0] :: s.data.toList.drop 1 := List.drop_eq_getElem_cons (by rw [← size_list]; omega)
  have hn : numAt s 0 6 = s[0].toNat * 1099511627776 + num ((s.data.toList.drop 1).take 5) := by
    rw [numAt_list, hl, show 6 - 0 = 5 + 1 from rfl, List.take_succ_cons, num_head, List.length_take, List.length_drop, ← size_list, Nat.min_eq_left (by omega)]
  have hx := num_lt ((s.data.toList.drop 1).take 5)
  rw [List.length_take, List.length_drop, ← size_list, Nat.min_eq_left (by omega)] at hx
  have hb := s[0].toNat_lt
  rw [isGroup, isMac, inR_of (by omega) (by omega), Bool.true_and]
  exact decide_eq_decide.2 (by omega)

theorem arp_length (op mac ip tm ti : Int) (h : arpOk op mac ip tm ti = true) : (arpB op mac ip tm ti).size = 28 := by
  rw [arpB, if_pos h, strOf_size]; simp only [List.length_append, be_length]; rfl
theorem arpOk_parts {op mac ip tm ti : Int} (h : arpOk op mac ip tm ti = true) : inR op 1 2 = true ∧ isMac mac = true ∧ isMac tm = true ∧ isIp ip = true ∧ isIp ti = true := by
  simp only [arpOk, Bool.and_eq_true] at h; exact ⟨h.1.1.1.1, h.1.1.1.2, h.1.1.2, h.1.2, h.2⟩
theorem arp_nums (op mac ip tm ti : Int) (h : arpOk op mac ip tm ti = true) :
    ((numAt (arpB op mac ip tm ti) 6 8 : Nat) : Int) = op ∧ ((numAt (arpB op mac ip tm ti) 8 14 : Nat) : Int) = mac ∧ ((numAt (arpB op mac ip tm ti) 14 18 : Nat) : Int) = ip ∧ ((numAt (arpB op mac ip tm ti) 18 24 : Nat) : Int) = tm ∧ ((numAt (arpB op mac ip tm ti) 24 28 : Nat) : Int) = ti := by
  obtain ⟨h1, h2, h3, h4, h5⟩ := arpOk_parts h
  have m1 := inR_t h1
  have m2 := isMac_t h2
  have m3 := isMac_t h3
  have m4 := isIp_t h4
  have m5 := isIp_t h5
  rw [arpB_0 h1 h2 h3 h4 h5]
  simp only [numAt_strOf]
  refine ⟨?_, ?_, ?_, ?_, ?_⟩
  · rw [show (6 : Nat) = 6 + 0 from rfl, drop_past 0 (by rfl), List.drop_zero, show 8 - (6 + 0) = 2 from rfl, take_be, num_be _ _ (by omega)]; omega
  · rw [show (8 : Nat) = 6 + 2 from rfl, drop_past 2 (by rfl), drop_be, show 14 - (6 + 2) = 6 from rfl, take_be, num_be _ _ (by omega)]; omega
  · rw [show (14 : Nat) = 6 + (2 + 6) from rfl, drop_past _ (by rfl), drop_be_past, drop_be, show 18 - (6 + (2 + 6)) = 4 from rfl, take_be, num_be _ _ (by omega)]; omega
  · rw [show (18 : Nat) = 6 + (2 + (6 + 4)) from rfl, drop_past _ (by rfl), drop_be_past, drop_be_past, drop_be, show 24 - (6 + (2 + (6 + 4))) = 6 from rfl, take_be, num_be _ _ (by omega)]; omega
  · rw [show (24 : Nat) = 6 + (2 + (6 + (4 + 6))) from rfl, drop_past _ (by rfl), drop_be_past, drop_be_past, drop_be_past, drop_be, show 28 - (6 + (2 + (6 + (4 + 6)))) = 4 from rfl, List.take_of_length_le (by rw [be_length]; omega), num_be _ _ (by omega)]; omega
end Go.Proofs.Ytjcjohapmaiecaa
