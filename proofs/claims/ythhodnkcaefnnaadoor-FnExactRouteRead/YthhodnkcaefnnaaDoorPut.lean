/- Contracts of PutNum. -/
import Derived.Test.YthhodnkcaefnnaaDoorVar
import Derived.Test.YthhodnkcaefnnaaDoorBytes
namespace Go.Proofs.YthhodnkcaefnnaaDoor
open Go.RowKit

theorem xor_ones (a : Nat) (h : a < 18446744073709551616) : a ^^^ 18446744073709551615 = 18446744073709551615 - a := by
  have e := congrArg BitVec.toNat (BitVec.xor_allOnes (x := BitVec.ofNat 64 a))
  rw [BitVec.toNat_xor, BitVec.toNat_not, BitVec.toNat_ofNat, Nat.mod_eq_of_lt (by omega)] at e
  have h1 : (BitVec.allOnes 64).toNat = 18446744073709551615 := by decide
  rw [h1] at e
  omega
theorem zigzag_eq (n : Int) (h1 : -9223372036854775808 ≤ n) (h2 : n ≤ 9223372036854775807) :
    bits BinOp.xor IntKind.u64 (IntKind.u64.wrap (IntKind.u64.wrap n * 2)) (IntKind.u64.wrap (n / 9223372036854775808)) = (zz n : Nat) := by
  rw [IntKind.wrap_u64, IntKind.wrap_u64, IntKind.wrap_u64]
  by_cases hn : n < 0
  · have e1 : n % 18446744073709551616 * 2 % 18446744073709551616 = (((2 * n + 18446744073709551616).toNat : Nat) : Int) := by omega
    have e2 : n / 9223372036854775808 % 18446744073709551616 = ((18446744073709551615 : Nat) : Int) := by omega
    rw [e1, e2, bits_xor_u64_nat _ _ (by omega) (by omega), xor_ones _ (by omega), zz, if_pos hn]
    omega
  · have e1 : n % 18446744073709551616 * 2 % 18446744073709551616 = (((2 * n).toNat : Nat) : Int) := by omega
    have e2 : n / 9223372036854775808 % 18446744073709551616 = ((0 : Nat) : Int) := by omega
    rw [e1, e2, bits_xor_u64_nat _ _ (by omega) (by omega), Nat.xor_zero, zz, if_neg hn]

set_option maxHeartbeats 400000 in
theorem specFold_any (n : Int) (w : World) (h1 : -9223372036854775808 ≤ n) (h2 : n ≤ 9223372036854775807) :
    Calls Tryd.prog 65 #[.int .i64 n] w fun e w' => e = .returned (.int .u64 (zz n : Nat)) ∧ w = w' := by
  by_cases hn : n < 0
  · have hz : 2 * -(n + 1) + 1 = (zz n : Nat) := by rw [zz, if_pos hn]; omega
    have HZ := Lib.hid hz; clear hz
    go_enter Tryd.func65, Tryd.ntmps65
    go_wp2
    go_ret
    exact ⟨u64_ret HZ.out, rfl⟩
  · have hz : 2 * n = (zz n : Nat) := by rw [zz, if_neg hn]; omega
    have HZ := Lib.hid hz; clear hz
    go_enter Tryd.func65, Tryd.ntmps65
    go_wp2
    go_ret
    exact ⟨u64_ret HZ.out, rfl⟩
theorem implFold_any (n : Int) (w : World) (h1 : -9223372036854775808 ≤ n) (h2 : n ≤ 9223372036854775807) :
    Calls Tryd.prog 55 #[.int .i64 n] w fun e w' => e = .returned (.int .u64 (zz n : Nat)) ∧ w = w' := by
  have HZ := Lib.hid (zigzag_eq n h1 h2)
  go_enter Tryd.func55, Tryd.ntmps55
  go_wp2
  go_ret
  exact ⟨u64_ret HZ.out, rfl⟩

theorem or_128 (x : Int) (h : 0 ≤ x) : bits .or .u8 (x % 256) 128 = ((x.toNat % 128 + 128 : Nat) : Int) := by
  have e : x % 256 = ((x.toNat % 256 : Nat) : Int) := by omega
  rw [e]
  have := u8_or_nat (x.toNat % 256) 128 (by omega) (by omega)
  rw [show ((128 : Nat) : Int) = 128 from rfl] at this
  rw [this]
  have k : ∀ y : Fin 256, y.val ||| 128 = y.val % 128 + 128 := by decide +kernel
  have := k ⟨x.toNat % 256, by omega⟩
  simp only at this
  rw [this]; omega

set_option maxHeartbeats 1000000 in
theorem specPutNum_any (n : Int) (w : World) (h1 : -9223372036854775808 ≤ n) (h2 : n ≤ 9223372036854775807) :
    Calls Tryd.prog 58 #[.int .i64 n] w fun e w' => e = .returned (.string (strOf (putNum n))) ∧ Below w.heap.size w w' := by
  obtain ⟨i0, hi, hz0, hz1, hz2⟩ := info_parts info_u8
  have HZL := Lib.hid (zz_le n h1 h2)
  have hz10 := putNum_len n h1 h2
  go_enter Tryd.func58, Tryd.ntmps58
  go_wp2_with (go_at_call 65; refine (specFold_any _ _ h1 h2).mono ?_; rintro e w' ⟨rfl, rfl⟩)
  go_loopw [3, 4] (fun u v wr => ∃ (x : Int) (pre : List UInt8), 0 ≤ x ∧ x ≤ 18446744073709551615 ∧ u = .int .u64 x ∧ Hid (pre ++ vi x.toNat = putNum n) ∧ wr.ownsRow w.heap.size 5 1 v pre.length (pre.map byteV) ∧ Below w.heap.size w wr) (fun u _ _ => (intOf u).toNat)
  case atStart => exact ⟨zz n, [], by omega, by have := HZL.out; omega, rfl, Lib.hid rfl, World.ownsRow_made _ _ _ (Nat.le_refl _) (by decide) rfl, (Below.refl _ _).alloc (Nat.le_refl _) _⟩
  case round =>
    obtain ⟨x, pre, hx0, hx, rfl, HP, hown, hbel⟩ := hrel
    have hpl : pre.length + (vi x.toNat).length ≤ 10 := by rw [← List.length_append, HP.out]; exact hz10
    have hsz := hbel.size
    by_cases hlt : 128 ≤ x
    · have hvi : pre ++ [UInt8.ofNat (x.toNat % 128 + 128)] ++ vi (x / 128).toNat = putNum n := by
        rw [← HP.out, vi_big x.toNat (by omega), List.append_assoc, List.singleton_append, show (x / 128).toNat = x.toNat / 128 by omega]
      have HV := Lib.hid hvi; clear hvi
      have hb : Value.int .u8 (x % 128 + 128) = byteV (UInt8.ofNat (x.toNat % 128 + 128)) := byte_of _ _ (by omega) (by omega)
      have HB := Lib.hid hb; clear hb
      go_wp2_with (at_builtin; refine wpList_append_own _ rfl _ _ 22 rfl w.heap.size 5 i0 (.int .u8 0) 1 1 Tryd.underlying22 hi hz0 hz1 hz2 rfl (by decide) _ _ _ rfl (hown.alloc _) ⟨wr.heap.size, 0, none⟩ 1 1 [.int .u8 (x % 128 + 128)] rfl rfl (one_cell _ _ _) (int_oneCell _ _) (by unfold maxLen; omega) (by omega) (by simp; omega) ?_; intro v' w1 hown' hg _)
      have R := app_rel _ hbel (Nat.le_refl _) hown hown' hg HB.out
      clear hown' hg hown hbel hsz
      go_wp2
      go_roundw
      case rel => exact ⟨x / 128, _, by omega, by omega, rfl, HV, R.1, R.2⟩
      case measure => simp [intOf]; omega
    · have hvi : pre ++ [UInt8.ofNat x.toNat] = putNum n := by
        rw [← HP.out, vi_small x.toNat (by omega)]
      have HV := Lib.hid hvi; clear hvi
      have hb : Value.int .u8 x = byteV (UInt8.ofNat x.toNat) := byte_of _ _ (by omega) (by omega)
      have HB := Lib.hid hb; clear hb
      go_wp2_with (at_builtin; refine wpList_append_own _ rfl _ _ 22 rfl w.heap.size 5 i0 (.int .u8 0) 1 1 Tryd.underlying22 hi hz0 hz1 hz2 rfl (by decide) _ _ _ rfl (hown.alloc _) ⟨wr.heap.size, 0, none⟩ 1 1 [.int .u8 x] rfl rfl (one_cell _ _ _) (int_oneCell _ _) (by unfold maxLen; omega) (by omega) (by simp; omega) ?_; intro v' w1 hown' hg _; have R := app_rel _ hbel (Nat.le_refl _) hown hown' hg HB.out; have hconv := own_string (P := Tryd.prog) 22 9 R.1 Tryd.underlying22 Tryd.underlying5 Tryd.underlying9; have HR := Lib.hid R.2; clear hown' hg hown hbel hsz R)
      go_ret
      exact ⟨str_ret (by rw [HV.out]), HR.out⟩
set_option maxHeartbeats 1000000 in
theorem implPutNum_any (n : Int) (w : World) (h1 : -9223372036854775808 ≤ n) (h2 : n ≤ 9223372036854775807) :
    Calls Tryd.prog 26 #[.int .i64 n] w fun e w' => e = .returned (.string (strOf (putNum n))) ∧ Below w.heap.size w w' := by
  obtain ⟨i0, hi, hz0, hz1, hz2⟩ := info_parts info_u8
  have HZL := Lib.hid (zz_le n h1 h2)
  have hz10 := putNum_len n h1 h2
  go_enter Tryd.func26, Tryd.ntmps26
  go_wp2_with (go_at_call 55; refine (implFold_any _ _ h1 h2).mono ?_; rintro e w' ⟨rfl, rfl⟩)
  go_loopw [3, 4] (fun u v wr => ∃ (x : Int) (pre : List UInt8), 0 ≤ x ∧ x ≤ 18446744073709551615 ∧ u = .int .u64 x ∧ Hid (pre ++ vi x.toNat = putNum n) ∧ wr.ownsRow w.heap.size 5 1 v pre.length (pre.map byteV) ∧ Below w.heap.size w wr) (fun u _ _ => (intOf u).toNat)
  case atStart => exact ⟨zz n, [], by omega, by have := HZL.out; omega, rfl, Lib.hid rfl, World.ownsRow_nil _ _ _ _, Below.refl _ _⟩
  case round =>
    obtain ⟨x, pre, hx0, hx, rfl, HP, hown, hbel⟩ := hrel
    have hpl : pre.length + (vi x.toNat).length ≤ 10 := by rw [← List.length_append, HP.out]; exact hz10
    have hsz := hbel.size
    by_cases hlt : 128 ≤ x
    · have hvi : pre ++ [UInt8.ofNat (x.toNat % 128 + 128)] ++ vi (x / 128).toNat = putNum n := by
        rw [← HP.out, vi_big x.toNat (by omega), List.append_assoc, List.singleton_append, show (x / 128).toNat = x.toNat / 128 by omega]
      have HV := Lib.hid hvi; clear hvi
      have hb : Value.int .u8 (bits .or .u8 (x % 256) 128) = byteV (UInt8.ofNat (x.toNat % 128 + 128)) := byte_of _ _ (by omega) (or_128 x hx0)
      have HB := Lib.hid hb; clear hb
      go_wp2_with (at_builtin; refine wpList_append_own _ rfl _ _ 22 rfl w.heap.size 5 i0 (.int .u8 0) 1 1 Tryd.underlying22 hi hz0 hz1 hz2 rfl (by decide) _ _ _ rfl (hown.alloc _) ⟨wr.heap.size, 0, none⟩ 1 1 [.int .u8 (bits .or .u8 (x % 256) 128)] rfl rfl (one_cell _ _ _) (int_oneCell _ _) (by unfold maxLen; omega) (by omega) (by simp; omega) ?_; intro v' w1 hown' hg _)
      have R := app_rel _ hbel (Nat.le_refl _) hown hown' hg HB.out
      clear hown' hg hown hbel hsz
      go_wp2
      go_roundw
      case rel => exact ⟨x / 128, _, by omega, by omega, rfl, HV, R.1, R.2⟩
      case measure => simp [intOf]; omega
    · have hvi : pre ++ [UInt8.ofNat x.toNat] = putNum n := by
        rw [← HP.out, vi_small x.toNat (by omega)]
      have HV := Lib.hid hvi; clear hvi
      have hb : Value.int .u8 x = byteV (UInt8.ofNat x.toNat) := byte_of _ _ (by omega) (by omega)
      have HB := Lib.hid hb; clear hb
      go_wp2_with (at_builtin; refine wpList_append_own _ rfl _ _ 22 rfl w.heap.size 5 i0 (.int .u8 0) 1 1 Tryd.underlying22 hi hz0 hz1 hz2 rfl (by decide) _ _ _ rfl (hown.alloc _) ⟨wr.heap.size, 0, none⟩ 1 1 [.int .u8 x] rfl rfl (one_cell _ _ _) (int_oneCell _ _) (by unfold maxLen; omega) (by omega) (by simp; omega) ?_; intro v' w1 hown' hg _; have R := app_rel _ hbel (Nat.le_refl _) hown hown' hg HB.out; have hconv := own_string (P := Tryd.prog) 22 9 R.1 Tryd.underlying22 Tryd.underlying5 Tryd.underlying9; have HR := Lib.hid R.2; clear hown' hg hown hbel hsz R)
      go_ret
      exact ⟨str_ret (by rw [HV.out]), HR.out⟩
end Go.Proofs.YthhodnkcaefnnaaDoor
