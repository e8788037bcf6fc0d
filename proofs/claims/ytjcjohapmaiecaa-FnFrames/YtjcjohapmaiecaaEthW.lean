/- What the program's own tests of an encapsulation and of an ARP message say: mathematics. -/
import Derived.Test.YtjcjohapmaiecaaEthV
import Derived.Test.YtjcjohapmaiecaaEthN
namespace Go.Proofs.Ytjcjohapmaiecaa
open Go.RowKit

theorem toList_beq (a b : ByteArray) : (a.toList == b.toList) = decide (a.data.toList = b.data.toList) := by
  rw [Lib.toList_data, Lib.toList_data, Bool.eq_iff_iff, beq_iff_eq, decide_eq_true_eq]
theorem ext_data (s : ByteArray) (a b : Nat) : (s.extract a b).data.toList = (s.data.toList.drop a).take (b - a) := Lib.extract_data s a b
theorem ext_ext (s : ByteArray) (a b c d : Nat) (h : d ≤ b - a) : (s.extract a b).extract c d = s.extract (a + c) (a + d) := by
  apply ByteArray.ext
  apply Array.ext'
  rw [ext_data, ext_data, ext_data, List.drop_take, List.take_take, List.drop_drop, show min (d - c) (b - a - c) = d - c from by omega, show a + d - (a + c) = d - c from by omega]
theorem numAt_ext (s : ByteArray) (a b c d : Nat) (h : d ≤ b - a) : numAt (s.extract a b) c d = numAt s (a + c) (a + d) := by
  rw [numAt, ext_ext s a b c d h, numAt]
theorem list_parts (l : List UInt8) (n : Nat) : l.take n ++ l.drop n = l := List.take_append_drop n l

theorem vx_pre (s : ByteArray) (h : 8 ≤ s.size) : hasPre (s.extract 0 8) ⟨#[8, 0, 0, 0]⟩ = decide (s.data.toList.take 4 = [8, 0, 0, 0]) := by
  rw [hasPre, decide_eq_true (by rw [ByteArray.size_extract]; show 4 ≤ _; omega), Bool.true_and, toList_beq, show (⟨#[8, 0, 0, 0]⟩ : ByteArray).size = 4 from rfl, ext_ext s 0 8 0 4 (by omega), ext_data]
  rfl
theorem vx_suf (s : ByteArray) (h : 8 ≤ s.size) : hasSuf (s.extract 0 8) ⟨#[0]⟩ = decide ((s.data.toList.drop 7).take 1 = [0]) := by
  have e : (s.extract 0 8).size = 8 := by rw [ByteArray.size_extract]; omega
  rw [hasSuf, e, show (⟨#[0]⟩ : ByteArray).size = 1 from rfl, toList_beq, ext_ext s 0 8 (8 - 1) 8 (by omega), ext_data]
  rfl
theorem vx_same (s : ByteArray) (h : 8 ≤ s.size) : ((vxB (numAt s 4 7 : Nat) (s.extract 8 s.size)).toList == s.toList) = (hasPre (s.extract 0 8) ⟨#[8, 0, 0, 0]⟩ && hasSuf (s.extract 0 8) ⟨#[0]⟩ && vxRightB (numAt s 4 7 : Nat) (s.extract 8 s.size)) := by
  rw [vx_pre s h, vx_suf s h, toList_beq]
  cases hv : vxRightB (numAt s 4 7 : Nat) (s.extract 8 s.size)
  · rw [vxB_right _ _ hv, Bool.and_false, decide_eq_false_iff_not]
    intro e
    have := congrArg List.length e
    rw [← size_list, ← size_list] at this
    have e0 : (⟨#[]⟩ : ByteArray).size = 0 := rfl
    omega
  · rw [vxB_wrong _ _ hv, strOf_list, Bool.and_true, Int.toNat_natCast, ext_list, ← Bool.decide_and]
    have b1 := be_part s 4 7 (by omega)
    rw [show 7 - 4 = 3 from rfl] at b1
    rw [b1]
    have e4 := part_on s.data.toList 4 3 7 rfl
    have e7 := part_on s.data.toList 7 1 8 rfl
    apply decide_eq_decide.2
    constructor
    · intro e
      have t4 : s.data.toList.take 4 = [8, 0, 0, 0] := by rw [← e]; exact List.take_left' rfl
      refine ⟨t4, ?_⟩
      have e2 : s.data.toList.drop 4 = (s.data.toList.drop 4).take 3 ++ ([0] ++ s.data.toList.drop 8) := by
        conv => lhs; rw [← e]
        exact List.drop_left' rfl
      have e3 : s.data.toList.drop 7 = [0] ++ s.data.toList.drop 8 := by
        rw [← e4] at e2
        have := congrArg (List.drop 3) e2
        rw [List.drop_left' (by rw [List.length_take, List.length_drop, ← size_list]; omega), List.drop_left' (by rw [List.length_take, List.length_append, List.length_take, List.length_drop, List.length_drop, ← size_list]; omega)] at this
        exact this
      rw [e3]; rfl
    · rintro ⟨t4, t7⟩
      rw [← t4, ← t7, e7, e4]
      exact List.take_append_drop 4 _

theorem arp_pre (s : ByteArray) (h : s.size = 28) : hasPre s ⟨#[0, 1, 8, 0, 6, 4, 0]⟩ = decide (s.data.toList.take 7 = [0, 1, 8, 0, 6, 4, 0]) := by
  rw [hasPre, decide_eq_true (by rw [h]; show 7 ≤ 28; omega), Bool.true_and, toList_beq, show (⟨#[0, 1, 8, 0, 6, 4, 0]⟩ : ByteArray).size = 7 from rfl, ext_data]
  rfl
theorem num_two (s : ByteArray) (h : s.size = 28) : numAt s 6 8 = s[6].toNat * 256 + s[7].toNat := by
  have e6 : s.data.toList.drop 6 = s[6] :: s.data.toList.drop 7 := List.drop_eq_getElem_cons (by rw [← size_list]; omega)
  have e7 : s.data.toList.drop 7 = s[7] :: s.data.toList.drop 8 := List.drop_eq_getElem_cons (by rw [← size_list]; omega)
  rw [numAt_list, e6, e7]
  show num [s[6], s[7]] = _
  simp [num]
theorem take7 (s : ByteArray) (h : s.size = 28) : s.data.toList.take 7 = s.data.toList.take 6 ++ [s[6]] := take_snoc s 6 (by omega)
theorem arp_same (s : ByteArray) (h : s.size = 28) : ((arpB (numAt s 6 8 : Nat) (numAt s 8 14 : Nat) (numAt s 14 18 : Nat) (numAt s 18 24 : Nat) (numAt s 24 28 : Nat)).toList == s.toList) =
    (hasPre s ⟨#[0, 1, 8, 0, 6, 4, 0]⟩ && arpOk (s[7].toNat : Nat) (numAt s 8 14 : Nat) (numAt s 14 18 : Nat) (numAt s 18 24 : Nat) (numAt s 24 28 : Nat)) := by
  rw [arp_pre s h, toList_beq, take7 s h]
  have hn := num_two s h
  have hb7 := s[7].toNat_lt
  have hparts : s.data.toList.take 6 ++ ((s.data.toList.drop 6).take 2 ++ ((s.data.toList.drop 8).take 6 ++ ((s.data.toList.drop 14).take 4 ++ ((s.data.toList.drop 18).take 6 ++ (s.data.toList.drop 24).take 4)))) = s.data.toList := by
    rw [show (s.data.toList.drop 24).take 4 = s.data.toList.drop 24 from List.take_of_length_le (by rw [List.length_drop, ← size_list]; omega), part_on _ 18 6 24 rfl, part_on _ 14 4 18 rfl, part_on _ 8 6 14 rfl, part_on _ 6 2 8 rfl]
    exact List.take_append_drop 6 _
  have harp : ∀ op : Int, op = (numAt s 6 8 : Nat) → arpOk op (numAt s 8 14 : Nat) (numAt s 14 18 : Nat) (numAt s 18 24 : Nat) (numAt s 24 28 : Nat) = true →
      (arpB op (numAt s 8 14 : Nat) (numAt s 14 18 : Nat) (numAt s 18 24 : Nat) (numAt s 24 28 : Nat)).data.toList = [0, 1, 8, 0, 6, 4] ++ ((s.data.toList.drop 6).take 2 ++ ((s.data.toList.drop 8).take 6 ++ ((s.data.toList.drop 14).take 4 ++ ((s.data.toList.drop 18).take 6 ++ (s.data.toList.drop 24).take 4)))) := by
    intro op hop hok
    have b1 := be_part s 6 8 (by omega)
    have b2 := be_part s 8 14 (by omega)
    have b3 := be_part s 14 18 (by omega)
    have b4 := be_part s 18 24 (by omega)
    have b5 := be_part s 24 28 (by omega)
    rw [arpB, if_pos hok, strOf_list, hop]
    simp only [Int.toNat_natCast]
    rw [show 8 - 6 = 2 from rfl] at b1
    rw [show 14 - 8 = 6 from rfl] at b2
    rw [show 18 - 14 = 4 from rfl] at b3
    rw [show 24 - 18 = 6 from rfl] at b4
    rw [show 28 - 24 = 4 from rfl] at b5
    rw [b1, b2, b3, b4, b5]
  rw [Bool.eq_iff_iff, decide_eq_true_eq, Bool.and_eq_true, decide_eq_true_eq]
  constructor
  · intro e
    have hok : arpOk (numAt s 6 8 : Nat) (numAt s 8 14 : Nat) (numAt s 14 18 : Nat) (numAt s 18 24 : Nat) (numAt s 24 28 : Nat) = true := by
      cases hk : arpOk (numAt s 6 8 : Nat) (numAt s 8 14 : Nat) (numAt s 14 18 : Nat) (numAt s 18 24 : Nat) (numAt s 24 28 : Nat)
      · rw [arpB_no hk] at e
        have := congrArg List.length e
        rw [← size_list, ← size_list] at this
        have e0 : (⟨#[]⟩ : ByteArray).size = 0 := rfl
        omega
      · rfl
    rw [harp _ rfl hok] at e
    have hop := inR_t (arpOk_t hok).1
    have h6 : s[6].toNat = 0 := by omega
    have h6' : s[6] = 0 := by rw [← UInt8.toNat_inj]; exact h6
    have e7 : ((s[7].toNat : Nat) : Int) = (numAt s 6 8 : Nat) := by omega
    refine ⟨?_, by rw [e7]; exact hok⟩
    have t6 : s.data.toList.take 6 = [0, 1, 8, 0, 6, 4] := by rw [← e]; exact List.take_left' rfl
    rw [t6, h6']; rfl
  · rintro ⟨t, hok⟩
    have h6 : s[6] = 0 := by
      have := congrArg List.getLast? t
      rw [List.getLast?_concat] at this
      exact Option.some.inj this
    have h60 : s[6].toNat = 0 := by rw [h6]; rfl
    have e7 : ((s[7].toNat : Nat) : Int) = (numAt s 6 8 : Nat) := by omega
    rw [e7] at hok
    rw [harp _ rfl hok]
    have t6 : s.data.toList.take 6 = [0, 1, 8, 0, 6, 4] := by
      have := congrArg List.dropLast t
      rw [List.dropLast_concat] at this
      exact this
    rw [← t6]; exact hparts
end Go.Proofs.Ytjcjohapmaiecaa
