/- Varints, as plain mathematics: zigzag, groups of seven bits. -/
import Derived.Test.YthhodnkcaefnnaaDoorBase
namespace Go.Proofs.YthhodnkcaefnnaaDoor
open Go.RowKit

def vi (u : Nat) : List UInt8 := if u < 128 then [UInt8.ofNat u] else UInt8.ofNat (u % 128 + 128) :: vi (u / 128)
termination_by u
decreasing_by omega
theorem vi_small (u : Nat) (h : u < 128) : vi u = [UInt8.ofNat u] := by rw [vi, if_pos h]
theorem vi_big (u : Nat) (h : 128 ≤ u) : vi u = UInt8.ofNat (u % 128 + 128) :: vi (u / 128) := by rw [vi, if_neg (by omega)]
theorem vi_len (n : Nat) : ∀ u, u < 128 ^ (n + 1) → (vi u).length ≤ n + 1 := by
  induction n with
  | zero => intro u h; rw [vi_small u (by omega)]; simp
  | succ n ih =>
    intro u h
    by_cases h1 : u < 128
    · rw [vi_small u h1]; simp
    · rw [vi_big u (by omega), List.length_cons]
      have := ih (u / 128) (by rw [Nat.div_lt_iff_lt_mul (by omega)]; rw [Nat.pow_succ] at h; exact h)
      omega
theorem vi_pos (u : Nat) : 1 ≤ (vi u).length := by
  by_cases h : u < 128
  · rw [vi_small u h]; simp
  · rw [vi_big u (by omega)]; simp
theorem vi_len10 (u : Nat) (h : u ≤ 18446744073709551615) : (vi u).length ≤ 10 := vi_len 9 u (by omega)

def zz (n : Int) : Nat := if n < 0 then (-2 * n - 1).toNat else (2 * n).toNat
theorem zz_le (n : Int) (h1 : -9223372036854775808 ≤ n) (h2 : n ≤ 9223372036854775807) : zz n ≤ 18446744073709551615 := by
  unfold zz; split <;> omega
def putNum (n : Int) : List UInt8 := vi (zz n)
theorem putNum_len (n : Int) (h1 : -9223372036854775808 ≤ n) (h2 : n ≤ 9223372036854775807) : (putNum n).length ≤ 10 := vi_len10 _ (zz_le n h1 h2)
end Go.Proofs.YthhodnkcaefnnaaDoor
