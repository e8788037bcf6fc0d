/- What the law of chapter 3 needs of the model's frames: mathematics. -/
import Derived.Test.YtjcjohapmaiecaaEthX
import Derived.Test.YtjcjohapmaiecaaEthL
namespace Go.Proofs.Ytjcjohapmaiecaa
open Go.RowKit

theorem eq_of_toList {a b : ByteArray} (h : (a.toList == b.toList) = true) : a = b := by
  rw [toList_beq, decide_eq_true_eq] at h
  exact ByteArray.ext (Array.ext' h)
theorem eth_shapes (u : ByteArray) (hu : u.size ≤ 1000) : ∃ (X0 X1 X2 : Int) (Xb : ByteArray) (Xc : Int), ethR u = ethOutV X0 X1 X2 Xb Xc ∧ Xb.size ≤ maxLen ∧ (Xc = 0 → ethB X0 X1 X2 Xb = u ∧ ∃ h : 0 < u.size, isGroup X0 = decide (u[0].toNat % 2 = 1)) := by
  have e0 : (⟨#[]⟩ : ByteArray).size ≤ maxLen := by decide
  by_cases h2 : u.size < 14
  · exact ⟨_, _, _, _, _, ethR_4 u (by omega) h2, e0, fun h => by cases h⟩
  by_cases h3 : 74 < u.size
  · exact ⟨_, _, _, _, _, ethR_3 u (by omega) h2 h3, e0, fun h => by cases h⟩
  exact ⟨_, _, _, _, _, ethR_0 u (by omega) h2 h3, by rw [ByteArray.size_extract]; unfold maxLen; omega, fun _ => ⟨eth_forth u h2 h3, by omega, group_head u (by omega)⟩⟩
theorem arp_shapes (v : ByteArray) (hv : v.size ≤ 1000) : ∃ (Y0 Y1 Y2 Y3 Y4 Yc : Int), arpR v = arpOutV Y0 Y1 Y2 Y3 Y4 Yc ∧ (Yc = 0 → arpB Y0 Y1 Y2 Y3 Y4 = v) := by
  by_cases h2 : v.size = 28
  · cases h3 : (arpB (numAt v 6 8 : Nat) (numAt v 8 14 : Nat) (numAt v 14 18 : Nat) (numAt v 18 24 : Nat) (numAt v 24 28 : Nat)).toList == v.toList
    · exact ⟨_, _, _, _, _, _, arpR_3 v h2 h3, fun h => by cases h⟩
    · exact ⟨_, _, _, _, _, _, arpR_0 v h2 h3, fun _ => eq_of_toList h3⟩
  · exact ⟨_, _, _, _, _, _, arpR_n v (by omega) h2, fun h => by cases h⟩
theorem vx_shapes (t : ByteArray) (ht : t.size ≤ 1000) : ∃ (Z0 : Int) (Zt : ByteArray) (Zc : Int), vxR t = vxOutV Z0 Zt Zc ∧ Zt.size ≤ maxLen ∧ (Zc = 0 → vxB Z0 Zt = t) := by
  have e0 : (⟨#[]⟩ : ByteArray).size ≤ maxLen := by decide
  by_cases h2 : t.size < 8
  · exact ⟨_, _, _, vxR_4 t (by omega) h2, e0, fun h => by cases h⟩
  cases h3 : (vxB (numAt t 4 7 : Nat) (t.extract 8 t.size)).toList == t.toList
  · exact ⟨_, _, _, vxR_3 t (by omega) h2 h3, e0, fun h => by cases h⟩
  · exact ⟨_, _, _, vxR_0 t (by omega) h2 h3, by rw [ByteArray.size_extract]; unfold maxLen; omega, fun _ => eq_of_toList h3⟩
theorem eth_full (to fr k : Int) (b : ByteArray) : ((ethB to fr k b).toList == (⟨#[]⟩ : ByteArray).toList) = true ∨ (((ethB to fr k b).toList == (⟨#[]⟩ : ByteArray).toList) = false ∧ ethR (ethB to fr k b) = ethOutV to fr k b 0) := by
  cases h : ethOk to fr k b
  · left; rw [ethB_no h]; simp
  · obtain ⟨h1, h2, h3, h4⟩ := ethOk_t h
    refine .inr ⟨?_, eth_back to fr k b h1 h2 h3 h4⟩
    rw [ethB_ok h, toList_beq, decide_eq_false_iff_not, strOf_list]
    intro e
    have := congrArg List.length e
    simp [be_length] at this
theorem vx_full (v : Int) (t : ByteArray) : ((vxB v t).toList == (⟨#[]⟩ : ByteArray).toList) = true ∨ (((vxB v t).toList == (⟨#[]⟩ : ByteArray).toList) = false ∧ vxR (vxB v t) = vxOutV v t 0) := by
  cases h : vxRightB v t
  · left; rw [vxB_right v t h]; simp
  · have h' := h
    rw [vxRightB, Bool.and_eq_true, decide_eq_true_eq] at h'
    refine .inr ⟨?_, vx_back v t h'.1 h'.2⟩
    rw [vxB_wrong v t h, toList_beq, decide_eq_false_iff_not, strOf_list]
    intro e
    have := congrArg List.length e
    simp [be_length] at this
theorem arp_back (op mac ip tm ti : Int) (h : arpOk op mac ip tm ti = true) : arpR (arpB op mac ip tm ti) = arpOutV op mac ip tm ti 0 := by
  obtain ⟨e1, e2, e3, e4, e5⟩ := arp_nums op mac ip tm ti h
  have hl := arp_length op mac ip tm ti h
  have h3 : ((arpB (numAt (arpB op mac ip tm ti) 6 8 : Nat) (numAt (arpB op mac ip tm ti) 8 14 : Nat) (numAt (arpB op mac ip tm ti) 14 18 : Nat) (numAt (arpB op mac ip tm ti) 18 24 : Nat) (numAt (arpB op mac ip tm ti) 24 28 : Nat)).toList == (arpB op mac ip tm ti).toList) = true := by
    rw [e1, e2, e3, e4, e5]; simp
  rw [arpR_0 _ hl h3, e1, e2, e3, e4, e5]
theorem arp_full (op mac ip tm ti : Int) : ((arpB op mac ip tm ti).toList == (⟨#[]⟩ : ByteArray).toList) = true ∨ (((arpB op mac ip tm ti).toList == (⟨#[]⟩ : ByteArray).toList) = false ∧ arpR (arpB op mac ip tm ti) = arpOutV op mac ip tm ti 0) := by
  cases h : arpOk op mac ip tm ti
  · left; rw [arpB_no h]; simp
  · refine .inr ⟨?_, arp_back op mac ip tm ti h⟩
    rw [toList_beq, decide_eq_false_iff_not]
    intro e
    have := congrArg List.length e
    rw [← size_list, arp_length _ _ _ _ _ h] at this
    simp at this
end Go.Proofs.Ytjcjohapmaiecaa
