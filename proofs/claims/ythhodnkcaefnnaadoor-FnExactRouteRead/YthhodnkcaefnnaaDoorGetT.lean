/- Contracts of GetText, impl's and spec's. -/
import Derived.Test.YthhodnkcaefnnaaDoorGetN
import Derived.Test.YthhodnkcaefnnaaDoorClone
import Derived.Test.YthhodnkcaefnnaaDoorTextOut
namespace Go.Proofs.YthhodnkcaefnnaaDoor
open Go.RowKit

structure TextO where
  t : ByteArray
  at_ : Int
  code : Int
def TextO.v (o : TextO) : Value := textOutV o.t o.at_ o.code
def textOf (s : ByteArray) (o : NumO) : TextO :=
  if o.code ≠ 0 then ⟨⟨#[]⟩, 0, o.code⟩ else if o.n < 0 ∨ 8000 < o.n then ⟨⟨#[]⟩, 0, 3⟩ else if (s.size : Int) < o.at_ + o.n then ⟨⟨#[]⟩, 0, 4⟩ else ⟨s.extract o.at_.toNat (o.at_ + o.n).toNat, o.at_ + o.n, 0⟩
def getText (s : ByteArray) (a : Int) : TextO := textOf s (getNum s a)
theorem textOf_c (s : ByteArray) (o : NumO) (h : o.code ≠ 0) : textOf s o = ⟨⟨#[]⟩, 0, o.code⟩ := by rw [textOf, if_pos h]
theorem textOf_3 (s : ByteArray) (n a : Int) (h : n < 0 ∨ 8000 < n) : textOf s ⟨n, a, 0⟩ = ⟨⟨#[]⟩, 0, 3⟩ := by rw [textOf, if_neg (by simp), if_pos h]
theorem textOf_4 (s : ByteArray) (n a : Int) (h : ¬ (n < 0 ∨ 8000 < n)) (h4 : (s.size : Int) < a + n) : textOf s ⟨n, a, 0⟩ = ⟨⟨#[]⟩, 0, 4⟩ := by rw [textOf, if_neg (by simp), if_neg h, if_pos h4]
theorem textOf_0 (s : ByteArray) (n a : Int) (h : ¬ (n < 0 ∨ 8000 < n)) (h4 : ¬ (s.size : Int) < a + n) : textOf s ⟨n, a, 0⟩ = ⟨s.extract a.toNat (a + n).toNat, a + n, 0⟩ := by rw [textOf, if_neg (by simp), if_neg h, if_neg h4]

/- what GetNum hands back lies within bounds -/
theorem uz_bounds (u : Nat) (h : u ≤ 18446744073709551615) : -9223372036854775808 ≤ uz u ∧ uz u ≤ 9223372036854775807 := by
  unfold uz; split <;> omega
theorem getNum_bounds (s : ByteArray) (a n x : Int) (ha : a ≤ 9223372036854775807) (h : getNum s a = ⟨n, x, 0⟩) : s.size ≤ 8000 ∧ 0 ≤ x ∧ x ≤ s.size ∧ -9223372036854775808 ≤ n ∧ n ≤ 9223372036854775807 := by
  by_cases h8 : 8000 < s.size
  · rw [getNum_2 s a h8] at h; simp at h
  by_cases h0 : a < 0
  · rw [getNum_1 s a h8 h0] at h; simp at h
  obtain ⟨k, rfl⟩ : ∃ k : Nat, a = (k : Int) := ⟨a.toNat, by omega⟩
  rw [getNum_r s k h8] at h
  have hl := rd_lt (s.data.toList.drop k) 0 0 (by omega) (by omega)
  rw [show rd 0 0 (s.data.toList.drop k) = rdAt s k from rfl] at hl
  by_cases hc : (rdAt s k).code = 0
  · rw [numOf, if_pos hc] at h
    simp only [NumO.mk.injEq] at h
    obtain ⟨h1, h2, _⟩ := h
    have hb := uz_bounds _ hl.1
    have hlen : (s.data.toList.drop k).length = s.size - k := by rw [List.length_drop, ← Lib.size_eq]
    rw [hlen] at hl
    have hk : k < s.size := by
      rcases Nat.lt_or_ge k s.size with hk | hk
      · exact hk
      · exfalso
        have : rdAt s k = ⟨4, 0, 0⟩ := by rw [rdAt, drop_none s k hk]; rfl
        rw [this] at hc; simp at hc
    refine ⟨by omega, by omega, by omega, by omega, by omega⟩
  · rw [numOf, if_neg hc] at h
    simp only [NumO.mk.injEq] at h
    exact absurd h.2.2 hc

end Go.Proofs.YthhodnkcaefnnaaDoor
