/- What is read back from the model's frames: mathematics. -/
import Derived.Test.YtjcjohapmaiecaaEthT
namespace Go.Proofs.Ytjcjohapmaiecaa
open Go.RowKit

theorem ext_strOf (l : List UInt8) (a b : Nat) : (strOf l).extract a b = strOf ((l.drop a).take (b - a)) := by
  rw [Lib.extract_eq, strOf_list]; rfl
theorem numAt_strOf (l : List UInt8) (a b : Nat) : numAt (strOf l) a b = num ((l.drop a).take (b - a)) := by rw [numAt, ext_strOf, strOf_list]
theorem drop_past {A X : List UInt8} {m : Nat} (n : Nat) (h : A.length = m) : (A ++ X).drop (m + n) = X.drop n := by rw [← List.drop_drop, List.drop_left' h]
theorem take_be (k n : Nat) (X : List UInt8) : (be k n ++ X).take k = be k n := List.take_left' (be_length k n)
theorem drop_be (k n : Nat) (X : List UInt8) : (be k n ++ X).drop k = X := List.drop_left' (be_length k n)
theorem drop_be_past (k n m : Nat) (X : List UInt8) : (be k n ++ X).drop (k + m) = X.drop m := drop_past m (be_length k n)

theorem eth_back (to fr k : Int) (b : ByteArray) (h1 : isMac to = true) (h2 : isMac fr = true) (h3 : inR k 0 65535 = true) (h : b.size ≤ 60) : ethR (ethB to fr k b) = ethOutV to fr k b 0 := by
  have m1 := isMac_t h1
  have m2 := isMac_t h2
  have m3 := inR_t h3
  rw [ethB_0 h1 h2 h3 h]
  have hsz : (strOf (be 6 to.toNat ++ (be 6 fr.toNat ++ (be 2 k.toNat ++ b.data.toList)))).size = 14 + b.size := by
    rw [strOf_size, List.length_append, List.length_append, List.length_append, be_length, be_length, be_length, ← size_list]; omega
  rw [ethR_0 _ (by omega) (by omega) (by omega), hsz, numAt_strOf, numAt_strOf, numAt_strOf, ext_strOf]
  rw [List.drop_zero, show 6 - 0 = 6 from rfl, take_be, num_be _ _ (by omega)]
  rw [drop_be, take_be, num_be _ _ (by omega)]
  rw [show (12 : Nat) = 6 + 6 from rfl, drop_be_past, drop_be, show (14 : Nat) - (6 + 6) = 2 from rfl, take_be, num_be _ _ (by omega)]
  rw [show (be 6 to.toNat ++ (be 6 fr.toNat ++ (be 2 k.toNat ++ b.data.toList))).drop 14 = b.data.toList from by
    rw [show (14 : Nat) = 6 + (6 + 2) from rfl, drop_be_past, drop_be_past, drop_be]]
  rw [List.take_of_length_le (by rw [← size_list]; omega), strOf_self]
  rw [Int.toNat_of_nonneg m1.1, Int.toNat_of_nonneg m2.1, Int.toNat_of_nonneg m3.1]

theorem vx_back (v : Int) (t : ByteArray) (h1 : isVni v = true) (h : t.size ≤ 74) : vxR (vxB v t) = vxOutV v t 0 := by
  have m1 := isVni_t h1
  obtain ⟨s, hs⟩ : ∃ s, s = vxB v t := ⟨_, rfl⟩
  have e := hs.trans (vxB_0 h1 h)
  have hsz : s.size = 8 + t.size := by
    rw [e, strOf_size, List.length_append, List.length_append, List.length_append, be_length, ← size_list]; simp; omega
  have en : numAt s 4 7 = v.toNat := by
    rw [e, numAt_strOf, show (4 : Nat) = 4 + 0 from rfl, drop_past 0 (by rfl), List.drop_zero, show 7 - (4 + 0) = 3 from rfl, take_be, num_be _ _ (by omega)]
  have ex : s.extract 8 s.size = t := by
    rw [hsz, e, ext_strOf, show (8 : Nat) = 4 + (3 + 1) from rfl, drop_past (3 + 1) (by rfl), drop_be_past]
    rw [show (([0] : List UInt8) ++ t.data.toList).drop 1 = t.data.toList from rfl, List.take_of_length_le (by rw [← size_list]; omega), strOf_self]
  have ev : ((numAt s 4 7 : Nat) : Int) = v := by rw [en]; exact Int.toNat_of_nonneg (by omega)
  rw [← hs, vxR_0 s (by omega) (by omega) (by rw [ev, ex, ← hs]; simp), ev, ex]
end Go.Proofs.Ytjcjohapmaiecaa
