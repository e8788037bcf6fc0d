/- Numbers in so many bytes, the highest first: the mathematics. -/
import Derived.Test.YthhodnkcaefnnaaBytes
namespace Go.Proofs.Ythhodnkcaefnnaa
open Go.RowKit

def be : Nat → Nat → List UInt8
  | 0, _ => []
  | k + 1, n => be k (n / 256) ++ [UInt8.ofNat (n % 256)]
def num (l : List UInt8) : Nat := l.foldl (fun n b => n * 256 + b.toNat) 0
theorem snoc_ind {P : List UInt8 → Prop} (h0 : P []) (h1 : ∀ l b, P l → P (l ++ [b])) (l : List UInt8) : P l := by
  rw [← List.reverse_reverse l]
  induction l.reverse with
  | nil => exact h0
  | cons b t ih => rw [List.reverse_cons]; exact h1 _ _ ih
theorem be_length (k n : Nat) : (be k n).length = k := by
  induction k generalizing n with
  | zero => rfl
  | succ k ih => rw [be, List.length_append, ih]; rfl
theorem num_snoc (l : List UInt8) (b : UInt8) : num (l ++ [b]) = num l * 256 + b.toNat := by
  rw [num, List.foldl_append]; rfl
theorem num_be (k n : Nat) (h : n < 256 ^ k) : num (be k n) = n := by
  induction k generalizing n with
  | zero => rw [Nat.pow_zero] at h; rw [be]; show 0 = n; omega
  | succ k ih =>
    rw [Nat.pow_succ] at h
    rw [be, num_snoc, ih (n / 256) (by omega), UInt8.toNat_ofNat_of_lt' (by show _ % 256 < 256; omega)]
    omega
theorem num_lt (l : List UInt8) : num l < 256 ^ l.length := by
  refine snoc_ind (P := fun l => num l < 256 ^ l.length) (by decide) (fun l b ih => ?_) l
  · have hb := b.toNat_lt
    rw [num_snoc, List.length_append, List.length_cons, List.length_nil, Nat.pow_succ]
    omega
theorem be_num (l : List UInt8) : be l.length (num l) = l := by
  refine snoc_ind (P := fun l => be l.length (num l) = l) rfl (fun l b ih => ?_) l
  · have hb := b.toNat_lt
    rw [num_snoc, List.length_append, List.length_cons, List.length_nil, be, show (num l * 256 + b.toNat) / 256 = num l by omega, ih, show (num l * 256 + b.toNat) % 256 = b.toNat by omega, UInt8.ofNat_toNat]
theorem be2 (n : Nat) : be 2 n = [UInt8.ofNat (n / 256 % 256), UInt8.ofNat (n % 256)] := rfl
end Go.Proofs.Ythhodnkcaefnnaa
