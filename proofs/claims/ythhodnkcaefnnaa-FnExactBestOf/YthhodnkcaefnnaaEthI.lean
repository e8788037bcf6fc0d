/- The program's numbers in bytes: bigEndian at each size that it is called with, fromBigEndian. -/
import Derived.Test.YthhodnkcaefnnaaEthP
namespace Go.Proofs.Ythhodnkcaefnnaa
open Go.RowKit

theorem div_cell (x : Int) (m : Nat) (h : x = m) : Value.int .u8 (x % 256) = byteV (UInt8.ofNat (m % 256)) := byte_of (m % 256) _ (by omega) (by omega)

theorem be1_string (u : Int) (h0 : 0 ≤ u) (w : World) :
    (convert 53 9 (.slice (some ⟨w.heap.size, 0, none⟩) 1 1)).run Try.prog (w.alloc (.cells #[.int .u8 (u % 256)] 5)) =
      .ok (.string (strOf (be 1 u.toNat))) (w.alloc (.cells #[.int .u8 (u % 256)] 5)) :=
  row_string (l := be 1 u.toNat) (heap_alloc_new w _) (by
    simp only [be, List.nil_append, List.map]
    rw [div_cell u (u.toNat) (by omega)]) (by rw [be_length]; unfold maxLen; omega)
set_option maxHeartbeats 1000000 in
theorem implBe1 (n : Int) (w : World) :
    Calls Try.prog 52 #[.int .i64 n, .int .i64 1] w fun e w' => e = .returned (.string (strOf (be 1 (n % 18446744073709551616).toNat))) ∧ Below w.heap.size w w' := by
  have hmk : ∀ w : World, (Instr.makeSlice 53 (.int .i64 1) (.int .i64 1)).run Try.prog w = .ok (.slice (some ⟨w.heap.size, 0, none⟩) 1 1) (w.alloc (.cells #[.int .u8 0] 5)) := fun _ => by kernel_rfl
  obtain ⟨u, hu⟩ : ∃ u, u = n % 18446744073709551616 := ⟨_, rfl⟩
  have hu0 : 0 ≤ u := by omega
  have hu1 : u ≤ 18446744073709551615 := by omega
  have hw : IntKind.u64.wrap n = u := by rw [IntKind.wrap_u64, hu]
  rw [← hu]
  clear hu
  have hcv := be1_string u hu0
  go_enter Try.func52, Try.ntmps52
  go_wp2
  go_rounds 2
  go_ret
  exact ⟨rfl, (Below.refl _ _).alloc (Nat.le_refl _) _⟩

theorem be2_string (u : Int) (h0 : 0 ≤ u) (w : World) :
    (convert 53 9 (.slice (some ⟨w.heap.size, 0, none⟩) 2 2)).run Try.prog (w.alloc (.cells #[.int .u8 (u / 256 % 256), .int .u8 (u % 256)] 5)) =
      .ok (.string (strOf (be 2 u.toNat))) (w.alloc (.cells #[.int .u8 (u / 256 % 256), .int .u8 (u % 256)] 5)) :=
  row_string (l := be 2 u.toNat) (heap_alloc_new w _) (by
    simp only [be, List.nil_append, List.cons_append, List.map]
    rw [div_cell (u / 256) (u.toNat / 256) (by omega), div_cell u (u.toNat) (by omega)]) (by rw [be_length]; unfold maxLen; omega)
set_option maxHeartbeats 1000000 in
theorem implBe2 (n : Int) (w : World) :
    Calls Try.prog 52 #[.int .i64 n, .int .i64 2] w fun e w' => e = .returned (.string (strOf (be 2 (n % 18446744073709551616).toNat))) ∧ Below w.heap.size w w' := by
  have hmk : ∀ w : World, (Instr.makeSlice 53 (.int .i64 2) (.int .i64 2)).run Try.prog w = .ok (.slice (some ⟨w.heap.size, 0, none⟩) 2 2) (w.alloc (.cells #[.int .u8 0, .int .u8 0] 5)) := fun _ => by kernel_rfl
  obtain ⟨u, hu⟩ : ∃ u, u = n % 18446744073709551616 := ⟨_, rfl⟩
  have hu0 : 0 ≤ u := by omega
  have hu1 : u ≤ 18446744073709551615 := by omega
  have hw : IntKind.u64.wrap n = u := by rw [IntKind.wrap_u64, hu]
  rw [← hu]
  clear hu
  have hcv := be2_string u hu0
  go_enter Try.func52, Try.ntmps52
  go_wp2
  go_rounds 3
  go_ret
  exact ⟨rfl, (Below.refl _ _).alloc (Nat.le_refl _) _⟩

theorem be3_string (u : Int) (h0 : 0 ≤ u) (w : World) :
    (convert 53 9 (.slice (some ⟨w.heap.size, 0, none⟩) 3 3)).run Try.prog (w.alloc (.cells #[.int .u8 (u / 65536 % 256), .int .u8 (u / 256 % 256), .int .u8 (u % 256)] 5)) =
      .ok (.string (strOf (be 3 u.toNat))) (w.alloc (.cells #[.int .u8 (u / 65536 % 256), .int .u8 (u / 256 % 256), .int .u8 (u % 256)] 5)) :=
  row_string (l := be 3 u.toNat) (heap_alloc_new w _) (by
    simp only [be, List.nil_append, List.cons_append, List.map]
    rw [div_cell (u / 65536) (u.toNat / 256 / 256) (by omega), div_cell (u / 256) (u.toNat / 256) (by omega), div_cell u (u.toNat) (by omega)]) (by rw [be_length]; unfold maxLen; omega)
set_option maxHeartbeats 1000000 in
theorem implBe3 (n : Int) (w : World) :
    Calls Try.prog 52 #[.int .i64 n, .int .i64 3] w fun e w' => e = .returned (.string (strOf (be 3 (n % 18446744073709551616).toNat))) ∧ Below w.heap.size w w' := by
  have hmk : ∀ w : World, (Instr.makeSlice 53 (.int .i64 3) (.int .i64 3)).run Try.prog w = .ok (.slice (some ⟨w.heap.size, 0, none⟩) 3 3) (w.alloc (.cells #[.int .u8 0, .int .u8 0, .int .u8 0] 5)) := fun _ => by kernel_rfl
  obtain ⟨u, hu⟩ : ∃ u, u = n % 18446744073709551616 := ⟨_, rfl⟩
  have hu0 : 0 ≤ u := by omega
  have hu1 : u ≤ 18446744073709551615 := by omega
  have hw : IntKind.u64.wrap n = u := by rw [IntKind.wrap_u64, hu]
  rw [← hu]
  clear hu
  have hcv := be3_string u hu0
  go_enter Try.func52, Try.ntmps52
  go_wp2
  go_rounds 4
  go_ret
  exact ⟨rfl, (Below.refl _ _).alloc (Nat.le_refl _) _⟩

theorem be4_string (u : Int) (h0 : 0 ≤ u) (w : World) :
    (convert 53 9 (.slice (some ⟨w.heap.size, 0, none⟩) 4 4)).run Try.prog (w.alloc (.cells #[.int .u8 (u / 16777216 % 256), .int .u8 (u / 65536 % 256), .int .u8 (u / 256 % 256), .int .u8 (u % 256)] 5)) =
      .ok (.string (strOf (be 4 u.toNat))) (w.alloc (.cells #[.int .u8 (u / 16777216 % 256), .int .u8 (u / 65536 % 256), .int .u8 (u / 256 % 256), .int .u8 (u % 256)] 5)) :=
  row_string (l := be 4 u.toNat) (heap_alloc_new w _) (by
    simp only [be, List.nil_append, List.cons_append, List.map]
    rw [div_cell (u / 16777216) (u.toNat / 256 / 256 / 256) (by omega), div_cell (u / 65536) (u.toNat / 256 / 256) (by omega), div_cell (u / 256) (u.toNat / 256) (by omega), div_cell u (u.toNat) (by omega)]) (by rw [be_length]; unfold maxLen; omega)
set_option maxHeartbeats 1000000 in
theorem implBe4 (n : Int) (w : World) :
    Calls Try.prog 52 #[.int .i64 n, .int .i64 4] w fun e w' => e = .returned (.string (strOf (be 4 (n % 18446744073709551616).toNat))) ∧ Below w.heap.size w w' := by
  have hmk : ∀ w : World, (Instr.makeSlice 53 (.int .i64 4) (.int .i64 4)).run Try.prog w = .ok (.slice (some ⟨w.heap.size, 0, none⟩) 4 4) (w.alloc (.cells #[.int .u8 0, .int .u8 0, .int .u8 0, .int .u8 0] 5)) := fun _ => by kernel_rfl
  obtain ⟨u, hu⟩ : ∃ u, u = n % 18446744073709551616 := ⟨_, rfl⟩
  have hu0 : 0 ≤ u := by omega
  have hu1 : u ≤ 18446744073709551615 := by omega
  have hw : IntKind.u64.wrap n = u := by rw [IntKind.wrap_u64, hu]
  rw [← hu]
  clear hu
  have hcv := be4_string u hu0
  go_enter Try.func52, Try.ntmps52
  go_wp2
  go_rounds 5
  go_ret
  exact ⟨rfl, (Below.refl _ _).alloc (Nat.le_refl _) _⟩

theorem be6_string (u : Int) (h0 : 0 ≤ u) (w : World) :
    (convert 53 9 (.slice (some ⟨w.heap.size, 0, none⟩) 6 6)).run Try.prog (w.alloc (.cells #[.int .u8 (u / 1099511627776 % 256), .int .u8 (u / 4294967296 % 256), .int .u8 (u / 16777216 % 256), .int .u8 (u / 65536 % 256), .int .u8 (u / 256 % 256), .int .u8 (u % 256)] 5)) =
      .ok (.string (strOf (be 6 u.toNat))) (w.alloc (.cells #[.int .u8 (u / 1099511627776 % 256), .int .u8 (u / 4294967296 % 256), .int .u8 (u / 16777216 % 256), .int .u8 (u / 65536 % 256), .int .u8 (u / 256 % 256), .int .u8 (u % 256)] 5)) :=
  row_string (l := be 6 u.toNat) (heap_alloc_new w _) (by
    simp only [be, List.nil_append, List.cons_append, List.map]
    rw [div_cell (u / 1099511627776) (u.toNat / 256 / 256 / 256 / 256 / 256) (by omega), div_cell (u / 4294967296) (u.toNat / 256 / 256 / 256 / 256) (by omega), div_cell (u / 16777216) (u.toNat / 256 / 256 / 256) (by omega), div_cell (u / 65536) (u.toNat / 256 / 256) (by omega), div_cell (u / 256) (u.toNat / 256) (by omega), div_cell u (u.toNat) (by omega)]) (by rw [be_length]; unfold maxLen; omega)
set_option maxHeartbeats 1000000 in
theorem implBe6 (n : Int) (w : World) :
    Calls Try.prog 52 #[.int .i64 n, .int .i64 6] w fun e w' => e = .returned (.string (strOf (be 6 (n % 18446744073709551616).toNat))) ∧ Below w.heap.size w w' := by
  have hmk : ∀ w : World, (Instr.makeSlice 53 (.int .i64 6) (.int .i64 6)).run Try.prog w = .ok (.slice (some ⟨w.heap.size, 0, none⟩) 6 6) (w.alloc (.cells #[.int .u8 0, .int .u8 0, .int .u8 0, .int .u8 0, .int .u8 0, .int .u8 0] 5)) := fun _ => by kernel_rfl
  obtain ⟨u, hu⟩ : ∃ u, u = n % 18446744073709551616 := ⟨_, rfl⟩
  have hu0 : 0 ≤ u := by omega
  have hu1 : u ≤ 18446744073709551615 := by omega
  have hw : IntKind.u64.wrap n = u := by rw [IntKind.wrap_u64, hu]
  rw [← hu]
  clear hu
  have hcv := be6_string u hu0
  go_enter Try.func52, Try.ntmps52
  go_wp2
  go_rounds 7
  go_ret
  exact ⟨rfl, (Below.refl _ _).alloc (Nat.le_refl _) _⟩

inductive BeOk : Int → Prop
  | one : BeOk 1 | two : BeOk 2 | three : BeOk 3 | four : BeOk 4 | six : BeOk 6
theorem implBe_any (n k : Int) (w : World) (h : BeOk k) :
    Calls Try.prog 52 #[.int .i64 n, .int .i64 k] w fun e w' => e = .returned (.string (strOf (be k.toNat (n % 18446744073709551616).toNat))) ∧ Below w.heap.size w w' := by
  cases h with
  | one => exact implBe1 n w
  | two => exact implBe2 n w
  | three => exact implBe3 n w
  | four => exact implBe4 n w
  | six => exact implBe6 n w
/- of a number that is not negative -/
inductive BeIs : Int → Int → Prop
  | mk {n k : Int} (h : BeOk k) (h0 : 0 ≤ n) (h1 : n ≤ 281474976710655) : BeIs n k
theorem implBe_is (n k : Int) (w : World) (h : BeIs n k) :
    Calls Try.prog 52 #[.int .i64 n, .int .i64 k] w fun e w' => e = .returned (.string (strOf (be k.toNat n.toNat))) ∧ Below w.heap.size w w' := by
  obtain ⟨h, h0, h1⟩ := h
  have e : n % 18446744073709551616 = n := by omega
  have c := implBe_any n k w h
  rwa [e] at c

theorem or_byte (r c : Nat) (hr : r < 281474976710656) (hc : c < 256) : bits .or .u64 ((r : Int) * 256) (c : Int) = ((r * 256 + c : Nat) : Int) := by
  have e : ((r : Int) * 256) = ((r * 256 : Nat) : Int) := by omega
  rw [e, u64_or_nat _ _ (by omega) (by omega), nat_join8 _ _ (by omega) hc]
end Go.Proofs.Ythhodnkcaefnnaa
