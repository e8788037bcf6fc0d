import Derived.Test.YtmkoppbbenombaaB1
import Derived.LoopN
import Derived.Handy
import Derived.Deep.WholeRow
import Derived.Deep.QuietTactic
import Derived.BigQuiet
import Derived.Outline
import Derived.Stop.BytesEq
import Derived.Deep.RegionHeld3
import Derived.Deep.DrawnRows
import Derived.StillTailTactics
import Derived.Deep.RegionWith
/- The model's numbers in bytes: l02Put at each size that it is called with, l02Get, and the tests of ranges. -/
namespace Go.Proofs.Ytmkoppbbenombaa
open Go.RowKit

theorem wraps_i64 (n : Int) (h0 : 0 ≤ n) (h1 : n < 2 ^ 63) : IntKind.i64.wrap n = n := by rw [IntKind.wrap_i64]; omega
theorem and255 (x : Int) (h0 : 0 ≤ x) (h1 : x < 9223372036854775808) : bits .and .i64 x 255 = x % 256 := bits_mask .i64 63 (by decide) wraps_i64 8 (by decide) x h0 h1
theorem and_one (x : Int) (h0 : 0 ≤ x) (h1 : x < 9223372036854775808) : bits .and .i64 x 1 = x % 2 := bits_mask .i64 63 (by decide) wraps_i64 1 (by decide) x h0 h1
theorem and_cell (x : Int) (m : Nat) (h : x = m) (h1 : x < 9223372036854775808) : Value.int .u8 (bits .and .i64 x 255 % 256) = byteV (UInt8.ofNat (m % 256)) := by
  rw [and255 x (by omega) h1]; exact byte_of (m % 256) _ (by omega) (by omega)

theorem put2_string (n : Int) (h0 : 0 ≤ n) (h1 : n ≤ 65535) (w : World) :
    (convert 182 9 (.slice (some ⟨w.heap.size, 0, none⟩) 2 2)).run Try.prog (w.alloc (.cells #[.int .u8 (bits .and .i64 (n / 256) 255 % 256), .int .u8 (bits .and .i64 n 255 % 256)] 5)) =
      .ok (.string (strOf (be 2 n.toNat))) (w.alloc (.cells #[.int .u8 (bits .and .i64 (n / 256) 255 % 256), .int .u8 (bits .and .i64 n 255 % 256)] 5)) :=
  row_string (l := be 2 n.toNat) (heap_alloc_new w _) (by
    simp only [be, List.nil_append, List.cons_append, List.map]
    rw [and_cell (n / 256) (n.toNat / 256) (by omega) (by omega), and_cell (n) (n.toNat) (by omega) (by omega)]) (by rw [be_length]; unfold maxLen; omega)
theorem put3_string (n : Int) (h0 : 0 ≤ n) (h1 : n ≤ 16777215) (w : World) :
    (convert 182 9 (.slice (some ⟨w.heap.size, 0, none⟩) 3 3)).run Try.prog (w.alloc (.cells #[.int .u8 (bits .and .i64 (n / 256 / 256) 255 % 256), .int .u8 (bits .and .i64 (n / 256) 255 % 256), .int .u8 (bits .and .i64 n 255 % 256)] 5)) =
      .ok (.string (strOf (be 3 n.toNat))) (w.alloc (.cells #[.int .u8 (bits .and .i64 (n / 256 / 256) 255 % 256), .int .u8 (bits .and .i64 (n / 256) 255 % 256), .int .u8 (bits .and .i64 n 255 % 256)] 5)) :=
  row_string (l := be 3 n.toNat) (heap_alloc_new w _) (by
    simp only [be, List.nil_append, List.cons_append, List.map]
    rw [and_cell (n / 256 / 256) (n.toNat / 256 / 256) (by omega) (by omega), and_cell (n / 256) (n.toNat / 256) (by omega) (by omega), and_cell (n) (n.toNat) (by omega) (by omega)]) (by rw [be_length]; unfold maxLen; omega)
theorem put4_string (n : Int) (h0 : 0 ≤ n) (h1 : n ≤ 4294967295) (w : World) :
    (convert 182 9 (.slice (some ⟨w.heap.size, 0, none⟩) 4 4)).run Try.prog (w.alloc (.cells #[.int .u8 (bits .and .i64 (n / 256 / 256 / 256) 255 % 256), .int .u8 (bits .and .i64 (n / 256 / 256) 255 % 256), .int .u8 (bits .and .i64 (n / 256) 255 % 256), .int .u8 (bits .and .i64 n 255 % 256)] 5)) =
      .ok (.string (strOf (be 4 n.toNat))) (w.alloc (.cells #[.int .u8 (bits .and .i64 (n / 256 / 256 / 256) 255 % 256), .int .u8 (bits .and .i64 (n / 256 / 256) 255 % 256), .int .u8 (bits .and .i64 (n / 256) 255 % 256), .int .u8 (bits .and .i64 n 255 % 256)] 5)) :=
  row_string (l := be 4 n.toNat) (heap_alloc_new w _) (by
    simp only [be, List.nil_append, List.cons_append, List.map]
    rw [and_cell (n / 256 / 256 / 256) (n.toNat / 256 / 256 / 256) (by omega) (by omega), and_cell (n / 256 / 256) (n.toNat / 256 / 256) (by omega) (by omega), and_cell (n / 256) (n.toNat / 256) (by omega) (by omega), and_cell (n) (n.toNat) (by omega) (by omega)]) (by rw [be_length]; unfold maxLen; omega)
theorem put6_string (n : Int) (h0 : 0 ≤ n) (h1 : n ≤ 281474976710655) (w : World) :
    (convert 182 9 (.slice (some ⟨w.heap.size, 0, none⟩) 6 6)).run Try.prog (w.alloc (.cells #[.int .u8 (bits .and .i64 (n / 256 / 256 / 256 / 256 / 256) 255 % 256), .int .u8 (bits .and .i64 (n / 256 / 256 / 256 / 256) 255 % 256), .int .u8 (bits .and .i64 (n / 256 / 256 / 256) 255 % 256), .int .u8 (bits .and .i64 (n / 256 / 256) 255 % 256), .int .u8 (bits .and .i64 (n / 256) 255 % 256), .int .u8 (bits .and .i64 n 255 % 256)] 5)) =
      .ok (.string (strOf (be 6 n.toNat))) (w.alloc (.cells #[.int .u8 (bits .and .i64 (n / 256 / 256 / 256 / 256 / 256) 255 % 256), .int .u8 (bits .and .i64 (n / 256 / 256 / 256 / 256) 255 % 256), .int .u8 (bits .and .i64 (n / 256 / 256 / 256) 255 % 256), .int .u8 (bits .and .i64 (n / 256 / 256) 255 % 256), .int .u8 (bits .and .i64 (n / 256) 255 % 256), .int .u8 (bits .and .i64 n 255 % 256)] 5)) :=
  row_string (l := be 6 n.toNat) (heap_alloc_new w _) (by
    simp only [be, List.nil_append, List.cons_append, List.map]
    rw [and_cell (n / 256 / 256 / 256 / 256 / 256) (n.toNat / 256 / 256 / 256 / 256 / 256) (by omega) (by omega), and_cell (n / 256 / 256 / 256 / 256) (n.toNat / 256 / 256 / 256 / 256) (by omega) (by omega), and_cell (n / 256 / 256 / 256) (n.toNat / 256 / 256 / 256) (by omega) (by omega), and_cell (n / 256 / 256) (n.toNat / 256 / 256) (by omega) (by omega), and_cell (n / 256) (n.toNat / 256) (by omega) (by omega), and_cell (n) (n.toNat) (by omega) (by omega)]) (by rw [be_length]; unfold maxLen; omega)
inductive PutOk : Int → Int → Prop
  | two {n : Int} (h0 : 0 ≤ n) (h1 : n ≤ 65535) : PutOk n 2
  | three {n : Int} (h0 : 0 ≤ n) (h1 : n ≤ 16777215) : PutOk n 3
  | four {n : Int} (h0 : 0 ≤ n) (h1 : n ≤ 4294967295) : PutOk n 4
  | six {n : Int} (h0 : 0 ≤ n) (h1 : n ≤ 281474976710655) : PutOk n 6
theorem num_take (s : ByteArray) (k : Nat) (h : k < s.size) : num (s.data.toList.take (k + 1)) = num (s.data.toList.take k) * 256 + s[k].toNat := by rw [take_snoc s k h, num_snoc]
theorem num_take_lt (s : ByteArray) (k : Nat) (h : k ≤ 6) : num (s.data.toList.take k) < 281474976710656 := by
  have h1 := num_lt (s.data.toList.take k)
  have h2 : (s.data.toList.take k).length ≤ 6 := by rw [List.length_take]; omega
  exact Nat.lt_of_lt_of_le h1 (Nat.pow_le_pow_right (by decide) h2)
def inR (n lo hi : Int) : Bool := decide (lo ≤ n) && decide (n ≤ hi)
theorem inR_t {n lo hi : Int} (h : inR n lo hi = true) : lo ≤ n ∧ n ≤ hi := by simpa [inR] using h
theorem specIs_any (n lo hi : Int) (w : World) :
    Calls Try.prog 107 #[.int .i64 n, .int .i64 lo, .int .i64 hi] w fun e w' => e = .returned (.bool (inR n lo hi)) ∧ w = w' := by
  by_cases h1 : lo ≤ n
  · have HR : Hid (inR n lo hi = decide (n ≤ hi)) := Lib.hid (by rw [inR, decide_eq_true h1]; rfl)
    go_enter Try.func107, Try.ntmps107
    go_wp2
    go_ret
    exact ⟨bool_ret HR.out.symm, rfl⟩
  · have HR : Hid (inR n lo hi = false) := Lib.hid (by rw [inR, decide_eq_false h1]; rfl)
    go_enter Try.func107, Try.ntmps107
    go_wp2
    go_ret
    exact ⟨bool_ret HR.out.symm, rfl⟩
def isMac (n : Int) : Bool := inR n 0 281474976710655
def isIp (n : Int) : Bool := inR n 0 4294967295
def isVni (n : Int) : Bool := inR n 1 16777215
theorem isMac_t {n : Int} (h : isMac n = true) : 0 ≤ n ∧ n ≤ 281474976710655 := inR_t h
theorem isIp_t {n : Int} (h : isIp n = true) : 0 ≤ n ∧ n ≤ 4294967295 := inR_t h
theorem isVni_t {n : Int} (h : isVni n = true) : 1 ≤ n ∧ n ≤ 16777215 := inR_t h
theorem specMac_any (n : Int) (w : World) : Calls Try.prog 108 #[.int .i64 n] w fun e w' => e = .returned (.bool (isMac n)) ∧ w = w' := by
  go_enter Try.func108, Try.ntmps108
  go_wp2_with (go_at_call 107; refine (specIs_any _ _ _ _).mono ?_; rintro e w' ⟨rfl, rfl⟩)
  go_ret
  exact ⟨rfl, rfl⟩
theorem specIp_any (n : Int) (w : World) : Calls Try.prog 110 #[.int .i64 n] w fun e w' => e = .returned (.bool (isIp n)) ∧ w = w' := by
  go_enter Try.func110, Try.ntmps110
  go_wp2_with (go_at_call 107; refine (specIs_any _ _ _ _).mono ?_; rintro e w' ⟨rfl, rfl⟩)
  go_ret
  exact ⟨rfl, rfl⟩
theorem specVni_any (n : Int) (w : World) : Calls Try.prog 83 #[.int .i64 n] w fun e w' => e = .returned (.bool (isVni n)) ∧ w = w' := by
  go_enter Try.func83, Try.ntmps83
  go_wp2_with (go_at_call 107; refine (specIs_any _ _ _ _).mono ?_; rintro e w' ⟨rfl, rfl⟩)
  go_ret
  exact ⟨rfl, rfl⟩
def isGroup (n : Int) : Bool := isMac n && decide (n / 1099511627776 % 2 = 1)
theorem specIsGroup_any (n : Int) (w : World) : Calls Try.prog 109 #[.int .i64 n] w fun e w' => e = .returned (.bool (isGroup n)) ∧ w = w' := by
  cases hm : isMac n
  · have HR : Hid (isGroup n = false) := Lib.hid (by rw [isGroup, hm]; rfl)
    go_enter Try.func109, Try.ntmps109
    go_wp2_with (go_at_call 108; refine (specMac_any _ _).mono ?_; rintro e w' ⟨rfl, rfl⟩)
    go_ret
    exact ⟨bool_ret HR.out.symm, rfl⟩
  · have hb := isMac_t hm
    have hand := and_one (n / 1099511627776) (by omega) (by omega)
    have HR : Hid (isGroup n = decide (n / 1099511627776 % 2 = 1)) := Lib.hid (by rw [isGroup, hm]; rfl)
    go_enter Try.func109, Try.ntmps109
    go_wp2_with (go_at_call 108; refine (specMac_any _ _).mono ?_; rintro e w' ⟨rfl, rfl⟩)
    go_ret
    exact ⟨bool_ret HR.out.symm, rfl⟩
end Go.Proofs.Ytmkoppbbenombaa

/- The program's numbers in bytes: bigEndian at each size that it is called with, fromBigEndian. -/
namespace Go.Proofs.Ytmkoppbbenombaa
open Go.RowKit

theorem div_cell (x : Int) (m : Nat) (h : x = m) : Value.int .u8 (x % 256) = byteV (UInt8.ofNat (m % 256)) := byte_of (m % 256) _ (by omega) (by omega)

theorem be1_string (u : Int) (h0 : 0 ≤ u) (w : World) :
    (convert 182 9 (.slice (some ⟨w.heap.size, 0, none⟩) 1 1)).run Try.prog (w.alloc (.cells #[.int .u8 (u % 256)] 5)) =
      .ok (.string (strOf (be 1 u.toNat))) (w.alloc (.cells #[.int .u8 (u % 256)] 5)) :=
  row_string (l := be 1 u.toNat) (heap_alloc_new w _) (by
    simp only [be, List.nil_append, List.map]
    rw [div_cell u (u.toNat) (by omega)]) (by rw [be_length]; unfold maxLen; omega)
set_option maxHeartbeats 1000000 in
theorem implBe1 (n : Int) (w : World) :
    Calls Try.prog 161 #[.int .i64 n, .int .i64 1] w fun e w' => e = .returned (.string (strOf (be 1 (n % 18446744073709551616).toNat))) ∧ Below w.heap.size w w' := by
  have hmk : ∀ w : World, (Instr.makeSlice 182 (.int .i64 1) (.int .i64 1)).run Try.prog w = .ok (.slice (some ⟨w.heap.size, 0, none⟩) 1 1) (w.alloc (.cells #[.int .u8 0] 5)) := fun _ => by kernel_rfl
  obtain ⟨u, hu⟩ : ∃ u, u = n % 18446744073709551616 := ⟨_, rfl⟩
  have hu0 : 0 ≤ u := by omega
  have hu1 : u ≤ 18446744073709551615 := by omega
  have hw : IntKind.u64.wrap n = u := by rw [IntKind.wrap_u64, hu]
  rw [← hu]
  clear hu
  have hcv := be1_string u hu0
  go_enter Try.func161, Try.ntmps161
  go_wp2
  go_rounds 2
  go_ret
  exact ⟨rfl, (Below.refl _ _).alloc (Nat.le_refl _) _⟩

theorem be2_string (u : Int) (h0 : 0 ≤ u) (w : World) :
    (convert 182 9 (.slice (some ⟨w.heap.size, 0, none⟩) 2 2)).run Try.prog (w.alloc (.cells #[.int .u8 (u / 256 % 256), .int .u8 (u % 256)] 5)) =
      .ok (.string (strOf (be 2 u.toNat))) (w.alloc (.cells #[.int .u8 (u / 256 % 256), .int .u8 (u % 256)] 5)) :=
  row_string (l := be 2 u.toNat) (heap_alloc_new w _) (by
    simp only [be, List.nil_append, List.cons_append, List.map]
    rw [div_cell (u / 256) (u.toNat / 256) (by omega), div_cell u (u.toNat) (by omega)]) (by rw [be_length]; unfold maxLen; omega)
set_option maxHeartbeats 1000000 in
theorem implBe2 (n : Int) (w : World) :
    Calls Try.prog 161 #[.int .i64 n, .int .i64 2] w fun e w' => e = .returned (.string (strOf (be 2 (n % 18446744073709551616).toNat))) ∧ Below w.heap.size w w' := by
  have hmk : ∀ w : World, (Instr.makeSlice 182 (.int .i64 2) (.int .i64 2)).run Try.prog w = .ok (.slice (some ⟨w.heap.size, 0, none⟩) 2 2) (w.alloc (.cells #[.int .u8 0, .int .u8 0] 5)) := fun _ => by kernel_rfl
  obtain ⟨u, hu⟩ : ∃ u, u = n % 18446744073709551616 := ⟨_, rfl⟩
  have hu0 : 0 ≤ u := by omega
  have hu1 : u ≤ 18446744073709551615 := by omega
  have hw : IntKind.u64.wrap n = u := by rw [IntKind.wrap_u64, hu]
  rw [← hu]
  clear hu
  have hcv := be2_string u hu0
  go_enter Try.func161, Try.ntmps161
  go_wp2
  go_rounds 3
  go_ret
  exact ⟨rfl, (Below.refl _ _).alloc (Nat.le_refl _) _⟩

theorem be3_string (u : Int) (h0 : 0 ≤ u) (w : World) :
    (convert 182 9 (.slice (some ⟨w.heap.size, 0, none⟩) 3 3)).run Try.prog (w.alloc (.cells #[.int .u8 (u / 65536 % 256), .int .u8 (u / 256 % 256), .int .u8 (u % 256)] 5)) =
      .ok (.string (strOf (be 3 u.toNat))) (w.alloc (.cells #[.int .u8 (u / 65536 % 256), .int .u8 (u / 256 % 256), .int .u8 (u % 256)] 5)) :=
  row_string (l := be 3 u.toNat) (heap_alloc_new w _) (by
    simp only [be, List.nil_append, List.cons_append, List.map]
    rw [div_cell (u / 65536) (u.toNat / 256 / 256) (by omega), div_cell (u / 256) (u.toNat / 256) (by omega), div_cell u (u.toNat) (by omega)]) (by rw [be_length]; unfold maxLen; omega)
set_option maxHeartbeats 1000000 in
theorem implBe3 (n : Int) (w : World) :
    Calls Try.prog 161 #[.int .i64 n, .int .i64 3] w fun e w' => e = .returned (.string (strOf (be 3 (n % 18446744073709551616).toNat))) ∧ Below w.heap.size w w' := by
  have hmk : ∀ w : World, (Instr.makeSlice 182 (.int .i64 3) (.int .i64 3)).run Try.prog w = .ok (.slice (some ⟨w.heap.size, 0, none⟩) 3 3) (w.alloc (.cells #[.int .u8 0, .int .u8 0, .int .u8 0] 5)) := fun _ => by kernel_rfl
  obtain ⟨u, hu⟩ : ∃ u, u = n % 18446744073709551616 := ⟨_, rfl⟩
  have hu0 : 0 ≤ u := by omega
  have hu1 : u ≤ 18446744073709551615 := by omega
  have hw : IntKind.u64.wrap n = u := by rw [IntKind.wrap_u64, hu]
  rw [← hu]
  clear hu
  have hcv := be3_string u hu0
  go_enter Try.func161, Try.ntmps161
  go_wp2
  go_rounds 4
  go_ret
  exact ⟨rfl, (Below.refl _ _).alloc (Nat.le_refl _) _⟩

theorem be4_string (u : Int) (h0 : 0 ≤ u) (w : World) :
    (convert 182 9 (.slice (some ⟨w.heap.size, 0, none⟩) 4 4)).run Try.prog (w.alloc (.cells #[.int .u8 (u / 16777216 % 256), .int .u8 (u / 65536 % 256), .int .u8 (u / 256 % 256), .int .u8 (u % 256)] 5)) =
      .ok (.string (strOf (be 4 u.toNat))) (w.alloc (.cells #[.int .u8 (u / 16777216 % 256), .int .u8 (u / 65536 % 256), .int .u8 (u / 256 % 256), .int .u8 (u % 256)] 5)) :=
  row_string (l := be 4 u.toNat) (heap_alloc_new w _) (by
    simp only [be, List.nil_append, List.cons_append, List.map]
    rw [div_cell (u / 16777216) (u.toNat / 256 / 256 / 256) (by omega), div_cell (u / 65536) (u.toNat / 256 / 256) (by omega), div_cell (u / 256) (u.toNat / 256) (by omega), div_cell u (u.toNat) (by omega)]) (by rw [be_length]; unfold maxLen; omega)
set_option maxHeartbeats 1000000 in
theorem implBe4 (n : Int) (w : World) :
    Calls Try.prog 161 #[.int .i64 n, .int .i64 4] w fun e w' => e = .returned (.string (strOf (be 4 (n % 18446744073709551616).toNat))) ∧ Below w.heap.size w w' := by
  have hmk : ∀ w : World, (Instr.makeSlice 182 (.int .i64 4) (.int .i64 4)).run Try.prog w = .ok (.slice (some ⟨w.heap.size, 0, none⟩) 4 4) (w.alloc (.cells #[.int .u8 0, .int .u8 0, .int .u8 0, .int .u8 0] 5)) := fun _ => by kernel_rfl
  obtain ⟨u, hu⟩ : ∃ u, u = n % 18446744073709551616 := ⟨_, rfl⟩
  have hu0 : 0 ≤ u := by omega
  have hu1 : u ≤ 18446744073709551615 := by omega
  have hw : IntKind.u64.wrap n = u := by rw [IntKind.wrap_u64, hu]
  rw [← hu]
  clear hu
  have hcv := be4_string u hu0
  go_enter Try.func161, Try.ntmps161
  go_wp2
  go_rounds 5
  go_ret
  exact ⟨rfl, (Below.refl _ _).alloc (Nat.le_refl _) _⟩

theorem be6_string (u : Int) (h0 : 0 ≤ u) (w : World) :
    (convert 182 9 (.slice (some ⟨w.heap.size, 0, none⟩) 6 6)).run Try.prog (w.alloc (.cells #[.int .u8 (u / 1099511627776 % 256), .int .u8 (u / 4294967296 % 256), .int .u8 (u / 16777216 % 256), .int .u8 (u / 65536 % 256), .int .u8 (u / 256 % 256), .int .u8 (u % 256)] 5)) =
      .ok (.string (strOf (be 6 u.toNat))) (w.alloc (.cells #[.int .u8 (u / 1099511627776 % 256), .int .u8 (u / 4294967296 % 256), .int .u8 (u / 16777216 % 256), .int .u8 (u / 65536 % 256), .int .u8 (u / 256 % 256), .int .u8 (u % 256)] 5)) :=
  row_string (l := be 6 u.toNat) (heap_alloc_new w _) (by
    simp only [be, List.nil_append, List.cons_append, List.map]
    rw [div_cell (u / 1099511627776) (u.toNat / 256 / 256 / 256 / 256 / 256) (by omega), div_cell (u / 4294967296) (u.toNat / 256 / 256 / 256 / 256) (by omega), div_cell (u / 16777216) (u.toNat / 256 / 256 / 256) (by omega), div_cell (u / 65536) (u.toNat / 256 / 256) (by omega), div_cell (u / 256) (u.toNat / 256) (by omega), div_cell u (u.toNat) (by omega)]) (by rw [be_length]; unfold maxLen; omega)
set_option maxHeartbeats 1000000 in
theorem implBe6 (n : Int) (w : World) :
    Calls Try.prog 161 #[.int .i64 n, .int .i64 6] w fun e w' => e = .returned (.string (strOf (be 6 (n % 18446744073709551616).toNat))) ∧ Below w.heap.size w w' := by
  have hmk : ∀ w : World, (Instr.makeSlice 182 (.int .i64 6) (.int .i64 6)).run Try.prog w = .ok (.slice (some ⟨w.heap.size, 0, none⟩) 6 6) (w.alloc (.cells #[.int .u8 0, .int .u8 0, .int .u8 0, .int .u8 0, .int .u8 0, .int .u8 0] 5)) := fun _ => by kernel_rfl
  obtain ⟨u, hu⟩ : ∃ u, u = n % 18446744073709551616 := ⟨_, rfl⟩
  have hu0 : 0 ≤ u := by omega
  have hu1 : u ≤ 18446744073709551615 := by omega
  have hw : IntKind.u64.wrap n = u := by rw [IntKind.wrap_u64, hu]
  rw [← hu]
  clear hu
  have hcv := be6_string u hu0
  go_enter Try.func161, Try.ntmps161
  go_wp2
  go_rounds 7
  go_ret
  exact ⟨rfl, (Below.refl _ _).alloc (Nat.le_refl _) _⟩

inductive BeOk : Int → Prop
  | one : BeOk 1 | two : BeOk 2 | three : BeOk 3 | four : BeOk 4 | six : BeOk 6
theorem implBe_any (n k : Int) (w : World) (h : BeOk k) :
    Calls Try.prog 161 #[.int .i64 n, .int .i64 k] w fun e w' => e = .returned (.string (strOf (be k.toNat (n % 18446744073709551616).toNat))) ∧ Below w.heap.size w w' := by
  cases h with
  | one => exact implBe1 n w
  | two => exact implBe2 n w
  | three => exact implBe3 n w
  | four => exact implBe4 n w
  | six => exact implBe6 n w
/- of a number that is not negative -/
inductive BeIs : Int → Int → Prop
  | mk {n k : Int} (h : BeOk k) (h0 : 0 ≤ n) (h1 : n ≤ 281474976710655) : BeIs n k
theorem implBe_is (n k : Int) (w : World) (h : BeIs n k) :
    Calls Try.prog 161 #[.int .i64 n, .int .i64 k] w fun e w' => e = .returned (.string (strOf (be k.toNat n.toNat))) ∧ Below w.heap.size w w' := by
  obtain ⟨h, h0, h1⟩ := h
  have e : n % 18446744073709551616 = n := by omega
  have c := implBe_any n k w h
  rwa [e] at c

theorem or_byte (r c : Nat) (hr : r < 281474976710656) (hc : c < 256) : bits .or .u64 ((r : Int) * 256) (c : Int) = ((r * 256 + c : Nat) : Int) := by
  have e : ((r : Int) * 256) = ((r * 256 : Nat) : Int) := by omega
  rw [e, u64_or_nat _ _ (by omega) (by omega), nat_join8 _ _ (by omega) hc]
end Go.Proofs.Ytmkoppbbenombaa

/- The program's MAC addresses as arrays of bytes. -/
namespace Go.Proofs.Ytmkoppbbenombaa
open Go.RowKit

def macV (s : ByteArray) : Value := .agg (s.data.toList.map byteV).toArray
theorem six_bytes (s : ByteArray) (h : s.size = 6) : ∃ b0 b1 b2 b3 b4 b5 : UInt8, s = ⟨#[b0, b1, b2, b3, b4, b5]⟩ := by
  rcases s with ⟨⟨l⟩⟩
  have hl : l.length = 6 := h
  match l, hl with
  | [b0, b1, b2, b3, b4, b5], _ => exact ⟨b0, b1, b2, b3, b4, b5, rfl⟩
theorem macV_six (b0 b1 b2 b3 b4 b5 : UInt8) : macV ⟨#[b0, b1, b2, b3, b4, b5]⟩ = .agg #[.int .u8 (b0.toNat : Int), .int .u8 (b1.toNat : Int), .int .u8 (b2.toNat : Int), .int .u8 (b3.toNat : Int), .int .u8 (b4.toNat : Int), .int .u8 (b5.toNat : Int)] := rfl
theorem copy_six (b0 b1 b2 b3 b4 b5 : UInt8) (w : World) :
    (Builtin.copy_ #[182, 9] 3 #[.slice (some ⟨w.heap.size, 0, none⟩) 6 6, .string ⟨#[b0, b1, b2, b3, b4, b5]⟩]).run Try.prog (w.alloc (.cells #[.int .u8 0, .int .u8 0, .int .u8 0, .int .u8 0, .int .u8 0, .int .u8 0] 167)) =
      .ok (.int .i64 6) (w.alloc (.cells #[.int .u8 (b0.toNat : Int), .int .u8 (b1.toNat : Int), .int .u8 (b2.toNat : Int), .int .u8 (b3.toNat : Int), .int .u8 (b4.toNat : Int), .int .u8 (b5.toNat : Int)] 167)) := by
  have h := Lib.run_copy_row_string (P := Try.prog) (w.alloc (.cells #[.int .u8 0, .int .u8 0, .int .u8 0, .int .u8 0, .int .u8 0, .int .u8 0] 167)) 182 9 3 5 w.heap.size 0 6 6 ⟨#[b0, b1, b2, b3, b4, b5]⟩ #[.int .u8 0, .int .u8 0, .int .u8 0, .int .u8 0, .int .u8 0, .int .u8 0] 167 Try.underlying182 info_u8s (heap_alloc_new w _) (by simp [ByteArray.size]) (by simp [ByteArray.size])
  rw [World.setRow_alloc_new] at h
  exact h
set_option maxHeartbeats 1000000 in
theorem macIn_any (s : ByteArray) (w : World) (hs : s.size = 6) :
    Calls Try.prog 160 #[.string s] w fun e w' => e = .returned (macV s) ∧ Below w.heap.size w w' := by
  obtain ⟨b0, b1, b2, b3, b4, b5, rfl⟩ := six_bytes s hs
  rw [macV_six]
  have hcp := copy_six b0 b1 b2 b3 b4 b5 (w.alloc (.cells #[.int .u8 0, .int .u8 0, .int .u8 0, .int .u8 0, .int .u8 0, .int .u8 0] 167))
  rw [World.size_alloc] at hcp
  go_enter Try.func160, Try.ntmps160
  go_wp2
  refine bodyPost_ret (v := .agg #[.int .u8 (b0.toNat : Int), .int .u8 (b1.toNat : Int), .int .u8 (b2.toNat : Int), .int .u8 (b3.toNat : Int), .int .u8 (b4.toNat : Int), .int .u8 (b5.toNat : Int)]) (by simp [results, Try.results160, go_sem]) rfl ⟨rfl, ?_⟩
  go_grown
theorem string_six (b0 b1 b2 b3 b4 b5 : UInt8) (w : World) :
    (convert 182 9 (.slice (some ⟨w.heap.size, 0, none⟩) 6 6)).run Try.prog (w.alloc (.cells #[.int .u8 (b0.toNat : Int), .int .u8 (b1.toNat : Int), .int .u8 (b2.toNat : Int), .int .u8 (b3.toNat : Int), .int .u8 (b4.toNat : Int), .int .u8 (b5.toNat : Int)] 167)) =
      .ok (.string ⟨#[b0, b1, b2, b3, b4, b5]⟩) (w.alloc (.cells #[.int .u8 (b0.toNat : Int), .int .u8 (b1.toNat : Int), .int .u8 (b2.toNat : Int), .int .u8 (b3.toNat : Int), .int .u8 (b4.toNat : Int), .int .u8 (b5.toNat : Int)] 167)) :=
  run_convert_bytes_back _ 182 9 5 ⟨w.heap.size, 0, none⟩ 6 [b0, b1, b2, b3, b4, b5] Try.underlying182 Try.underlying5 Try.underlying9 (fun j hj => by
    have hj' : j < 6 := hj
    rcases (by omega : j = 0 ∨ j = 1 ∨ j = 2 ∨ j = 3 ∨ j = 4 ∨ j = 5) with h | h | h | h | h | h <;> subst h <;> simp [Addr.add])
def evenB (b : UInt8) : UInt8 := UInt8.ofNat (b.toNat / 2 * 2)
theorem evenB_nat (b : UInt8) : (evenB b).toNat = b.toNat / 2 * 2 := UInt8.toNat_ofNat_of_lt' (by have := b.toNat_lt; show _ < 256; omega)
theorem even_byte (b : UInt8) : bits .andNot .u8 (b.toNat : Int) 1 = ((evenB b).toNat : Int) := by
  have h : ∀ c : Fin 256, c.val &&& 254 = c.val / 2 * 2 := by decide +kernel
  have k := u8_andNot_nat b.toNat 1 b.toNat_lt (by decide)
  rw [show ((1 : Nat) : Int) = 1 from rfl] at k
  rw [k, show 255 - 1 = 254 from rfl, h ⟨b.toNat, b.toNat_lt⟩, evenB_nat]
set_option maxHeartbeats 1000000 in
theorem macSingle_any (b0 b1 b2 b3 b4 b5 : UInt8) (w : World) :
    Calls Try.prog 156 #[.agg #[.int .u8 (b0.toNat : Int), .int .u8 (b1.toNat : Int), .int .u8 (b2.toNat : Int), .int .u8 (b3.toNat : Int), .int .u8 (b4.toNat : Int), .int .u8 (b5.toNat : Int)]] w fun e w' =>
      e = .returned (.agg #[.int .u8 ((evenB b0).toNat : Int), .int .u8 (b1.toNat : Int), .int .u8 (b2.toNat : Int), .int .u8 (b3.toNat : Int), .int .u8 (b4.toNat : Int), .int .u8 (b5.toNat : Int)]) ∧ Below w.heap.size w w' := by
  have he := even_byte b0
  generalize evenB b0 = x at *
  go_enter Try.func156, Try.ntmps156
  go_wp2
  refine bodyPost_ret (v := .agg #[.int .u8 (x.toNat : Int), .int .u8 (b1.toNat : Int), .int .u8 (b2.toNat : Int), .int .u8 (b3.toNat : Int), .int .u8 (b4.toNat : Int), .int .u8 (b5.toNat : Int)]) (by simp [results, Try.results156, go_sem]) rfl ⟨rfl, ?_⟩
  go_grown
theorem sizeB (w : World) : (sizeOf 5).run Try.prog w = .ok 1 w := by kernel_rfl
theorem mac_equal (b0 c0 b1 b2 b3 b4 b5 : UInt8) (w : World) : (Op.equalIn 10000 167 (.agg #[.int .u8 (b0.toNat : Int), .int .u8 (b1.toNat : Int), .int .u8 (b2.toNat : Int), .int .u8 (b3.toNat : Int), .int .u8 (b4.toNat : Int), .int .u8 (b5.toNat : Int)])
    (.agg #[.int .u8 (c0.toNat : Int), .int .u8 (b1.toNat : Int), .int .u8 (b2.toNat : Int), .int .u8 (b3.toNat : Int), .int .u8 (b4.toNat : Int), .int .u8 (b5.toNat : Int)])).run Try.prog w = .ok (b0 == c0) w := by
  have h := run_equalIn_bytes (P := Try.prog) w 9998 167 5 6 Try.underlying167 Try.underlying5 sizeB [b0, b1, b2, b3, b4, b5] [c0, b1, b2, b3, b4, b5] rfl rfl
  rw [show ([b0, b1, b2, b3, b4, b5] == [c0, b1, b2, b3, b4, b5]) = (b0 == c0) from by simp [List.cons_beq_cons]] at h
  exact h
theorem macOf_any (n : Int) (w : World) :
    Calls Try.prog 155 #[.int .i64 n] w fun e w' => e = .returned (macV (strOf (be 6 (n % 18446744073709551616).toNat))) ∧ Below w.heap.size w w' := by
  have hsz : (strOf (be 6 (n % 18446744073709551616).toNat)).size = 6 := by rw [strOf_size, be_length]
  have HB := Lib.hid (fun W => implBe_any n 6 W .six)
  rw [show (6 : Int).toNat = 6 from rfl] at HB
  generalize strOf (be 6 (n % 18446744073709551616).toNat) = s at *
  have HI := Lib.hid (fun W => macIn_any s W hsz)
  have hV : ∃ b0 b1 b2 b3 b4 b5 : UInt8, macV s = .agg #[.int .u8 (b0.toNat : Int), .int .u8 (b1.toNat : Int), .int .u8 (b2.toNat : Int), .int .u8 (b3.toNat : Int), .int .u8 (b4.toNat : Int), .int .u8 (b5.toNat : Int)] := by
    obtain ⟨b0, b1, b2, b3, b4, b5, rfl⟩ := six_bytes s hsz
    exact ⟨b0, b1, b2, b3, b4, b5, rfl⟩
  obtain ⟨b0, b1, b2, b3, b4, b5, hV⟩ := hV
  rw [hV] at HI ⊢
  clear hV hsz
  go_enter Try.func155, Try.ntmps155
  go_wp2_with (first | (go_at_call 161; refine (HB.out _).mono ?_; rintro e w1 ⟨rfl, hb1⟩) | (go_at_call 160; refine (HI.out _).mono ?_; rintro e w2 ⟨rfl, hb2⟩; have hz1 : w.heap.size < w1.heap.size := (by have := hb1.size; simp at this; omega); have hz2 : w.heap.size < w2.heap.size := (by have := hb2.size; omega); have hc : ∀ o, w2.cell? ⟨w.heap.size, o, none⟩ = _ := fun o => (hb2.cell (p := ⟨w.heap.size, o, none⟩) hz1).trans (hb1.cell (p := ⟨w.heap.size, o, none⟩) (by simp)); have hf : ∀ o, w2.frozen? ⟨w.heap.size, o, none⟩ = _ := fun o => (hb2.frozen (p := ⟨w.heap.size, o, none⟩) hz1).trans (hb1.frozen (p := ⟨w.heap.size, o, none⟩) (by simp))))
  refine bodyPost_ret (v := .agg #[.int .u8 (b0.toNat : Int), .int .u8 (b1.toNat : Int), .int .u8 (b2.toNat : Int), .int .u8 (b3.toNat : Int), .int .u8 (b4.toNat : Int), .int .u8 (b5.toNat : Int)]) (by simp [results, Try.results155, go_sem, *]) rfl ⟨rfl, ?_⟩
  have hbw : Below w.heap.size w w2 := (((Below.refl _ _).alloc (Nat.le_refl _) _).trans (hb1.mono (by simp))).trans (hb2.mono (Nat.le_of_lt hz1))
  go_grown
end Go.Proofs.Ytmkoppbbenombaa

/- The model's frames. -/
namespace Go.Proofs.Ytmkoppbbenombaa
open Go.RowKit
attribute [local go_sem ↓] Go.wp_at_zero Go.wp_at_succ

theorem keep4 {B : Nat} {w W W' : World} {v0 v1 v2 v3 : Value} (h : W.cell? ⟨B, 0, none⟩ = some v0 ∧ W.cell? ⟨B, 1, none⟩ = some v1 ∧ W.cell? ⟨B, 2, none⟩ = some v2 ∧ W.cell? ⟨B, 3, none⟩ = some v3 ∧ Below B w W) (hb : Below W.heap.size W W') :
    W'.cell? ⟨B, 0, none⟩ = some v0 ∧ W'.cell? ⟨B, 1, none⟩ = some v1 ∧ W'.cell? ⟨B, 2, none⟩ = some v2 ∧ W'.cell? ⟨B, 3, none⟩ = some v3 ∧ Below B w W' := by
  obtain ⟨h0, h1, h2, h3, h4⟩ := h
  have hl := World.block_lt_of_cell? W _ h0
  exact ⟨(hb.cell hl).trans h0, (hb.cell (p := ⟨B, 1, none⟩) hl).trans h1, (hb.cell (p := ⟨B, 2, none⟩) hl).trans h2, (hb.cell (p := ⟨B, 3, none⟩) hl).trans h3, h4.trans (hb.mono (by simp at hl; omega))⟩
def ethV (to fr k : Int) (b : ByteArray) : Value := .agg #[.int .i64 to, .int .i64 fr, .int .i64 k, .string b]
def ethB (to fr k : Int) (b : ByteArray) : ByteArray := if isMac to && isMac fr && inR k 0 65535 && decide (b.size ≤ 60) then strOf (be 6 to.toNat ++ (be 6 fr.toNat ++ (be 2 k.toNat ++ b.data.toList))) else ⟨#[]⟩
theorem ethB_1 {to fr k : Int} {b : ByteArray} (h : isMac to = false) : ethB to fr k b = ⟨#[]⟩ := by rw [ethB, h]; rfl
theorem ethB_2 {to fr k : Int} {b : ByteArray} (h : isMac fr = false) : ethB to fr k b = ⟨#[]⟩ := by rw [ethB, h]; simp
theorem ethB_3 {to fr k : Int} {b : ByteArray} (h : inR k 0 65535 = false) : ethB to fr k b = ⟨#[]⟩ := by rw [ethB, h]; simp
theorem ethB_4 {to fr k : Int} {b : ByteArray} (h : ¬ b.size ≤ 60) : ethB to fr k b = ⟨#[]⟩ := by rw [ethB, decide_eq_false h]; simp
theorem ethB_0 {to fr k : Int} {b : ByteArray} (h1 : isMac to = true) (h2 : isMac fr = true) (h3 : inR k 0 65535 = true) (h : b.size ≤ 60) : ethB to fr k b = strOf (be 6 to.toNat ++ (be 6 fr.toNat ++ (be 2 k.toNat ++ b.data.toList))) := by
  rw [ethB, h1, h2, h3, decide_eq_true h]; rfl
theorem app_strs (x y : List UInt8) : strOf x ++ strOf y = strOf (x ++ y) := by rw [app_strOf, strOf_list, strOf_list]

def vxB (vni : Int) (t : ByteArray) : ByteArray := if isVni vni && decide (t.size ≤ 74) then strOf ([8, 0, 0, 0] ++ (be 3 vni.toNat ++ ([0] ++ t.data.toList))) else ⟨#[]⟩
theorem vxB_1 {vni : Int} {t : ByteArray} (h : isVni vni = false) : vxB vni t = ⟨#[]⟩ := by rw [vxB, h]; rfl
theorem vxB_2 {vni : Int} {t : ByteArray} (h : ¬ t.size ≤ 74) : vxB vni t = ⟨#[]⟩ := by rw [vxB, decide_eq_false h]; simp
theorem vxB_0 {vni : Int} {t : ByteArray} (h1 : isVni vni = true) (h : t.size ≤ 74) : vxB vni t = strOf ([8, 0, 0, 0] ++ (be 3 vni.toNat ++ ([0] ++ t.data.toList))) := by rw [vxB, h1, decide_eq_true h]; rfl
def vxOutV (v : Int) (t : ByteArray) (c : Int) : Value := .agg #[.int .i64 v, .string t, .int .i64 c]
def ethOutV (to fr k : Int) (b : ByteArray) (c : Int) : Value := .agg #[.int .i64 to, .int .i64 fr, .int .i64 k, .string b, .int .i64 c]
def numAt (s : ByteArray) (a b : Nat) : Nat := num (s.extract a b).data.toList
def ethR (s : ByteArray) : Value := if 8000 < s.size then ethOutV 0 0 0 ⟨#[]⟩ 2 else if s.size < 14 then ethOutV 0 0 0 ⟨#[]⟩ 4 else if 74 < s.size then ethOutV 0 0 0 ⟨#[]⟩ 3 else
  ethOutV (numAt s 0 6 : Nat) (numAt s 6 12 : Nat) (numAt s 12 14 : Nat) (s.extract 14 s.size) 0
theorem ethR_2 (s : ByteArray) (h1 : 8000 < s.size) : ethR s = ethOutV 0 0 0 ⟨#[]⟩ 2 := by rw [ethR, if_pos h1]
theorem ethR_4 (s : ByteArray) (h1 : ¬ 8000 < s.size) (h2 : s.size < 14) : ethR s = ethOutV 0 0 0 ⟨#[]⟩ 4 := by rw [ethR, if_neg h1, if_pos h2]
theorem ethR_3 (s : ByteArray) (h1 : ¬ 8000 < s.size) (h2 : ¬ s.size < 14) (h3 : 74 < s.size) : ethR s = ethOutV 0 0 0 ⟨#[]⟩ 3 := by rw [ethR, if_neg h1, if_neg h2, if_pos h3]
theorem ethR_0 (s : ByteArray) (h1 : ¬ 8000 < s.size) (h2 : ¬ s.size < 14) (h3 : ¬ 74 < s.size) : ethR s = ethOutV (numAt s 0 6 : Nat) (numAt s 6 12 : Nat) (numAt s 12 14 : Nat) (s.extract 14 s.size) 0 := by
  rw [ethR, if_neg h1, if_neg h2, if_neg h3]
end Go.Proofs.Ytmkoppbbenombaa

/- The model's ARP messages and encapsulations. -/
namespace Go.Proofs.Ytmkoppbbenombaa
open Go.RowKit
attribute [local go_sem ↓] Go.wp_at_zero Go.wp_at_succ

theorem keep5 {B : Nat} {w W W' : World} {v0 v1 v2 v3 v4 : Value} (h : W.cell? ⟨B, 0, none⟩ = some v0 ∧ W.cell? ⟨B, 1, none⟩ = some v1 ∧ W.cell? ⟨B, 2, none⟩ = some v2 ∧ W.cell? ⟨B, 3, none⟩ = some v3 ∧ W.cell? ⟨B, 4, none⟩ = some v4 ∧ Below B w W) (hb : Below W.heap.size W W') :
    W'.cell? ⟨B, 0, none⟩ = some v0 ∧ W'.cell? ⟨B, 1, none⟩ = some v1 ∧ W'.cell? ⟨B, 2, none⟩ = some v2 ∧ W'.cell? ⟨B, 3, none⟩ = some v3 ∧ W'.cell? ⟨B, 4, none⟩ = some v4 ∧ Below B w W' := by
  obtain ⟨h0, h1, h2, h3, h4, h5⟩ := h
  have hl := World.block_lt_of_cell? W _ h0
  exact ⟨(hb.cell hl).trans h0, (hb.cell (p := ⟨B, 1, none⟩) hl).trans h1, (hb.cell (p := ⟨B, 2, none⟩) hl).trans h2, (hb.cell (p := ⟨B, 3, none⟩) hl).trans h3, (hb.cell (p := ⟨B, 4, none⟩) hl).trans h4, h5.trans (hb.mono (by simp at hl; omega))⟩
def arpV (op mac ip tm ti : Int) : Value := .agg #[.int .i64 op, .int .i64 mac, .int .i64 ip, .int .i64 tm, .int .i64 ti]
def arpOk (op mac ip tm ti : Int) : Bool := inR op 1 2 && isMac mac && isMac tm && isIp ip && isIp ti
def arpB (op mac ip tm ti : Int) : ByteArray := if arpOk op mac ip tm ti then strOf ([0, 1, 8, 0, 6, 4] ++ (be 2 op.toNat ++ (be 6 mac.toNat ++ (be 4 ip.toNat ++ (be 6 tm.toNat ++ be 4 ti.toNat))))) else ⟨#[]⟩
theorem arpB_1 {op mac ip tm ti : Int} (h : inR op 1 2 = false) : arpB op mac ip tm ti = ⟨#[]⟩ := by rw [arpB, arpOk, h]; simp
theorem arpB_2 {op mac ip tm ti : Int} (h : isMac mac = false) : arpB op mac ip tm ti = ⟨#[]⟩ := by rw [arpB, arpOk, h]; simp
theorem arpB_3 {op mac ip tm ti : Int} (h : isMac tm = false) : arpB op mac ip tm ti = ⟨#[]⟩ := by rw [arpB, arpOk, h]; simp
theorem arpB_4 {op mac ip tm ti : Int} (h : isIp ip = false) : arpB op mac ip tm ti = ⟨#[]⟩ := by rw [arpB, arpOk, h]; simp
theorem arpB_5 {op mac ip tm ti : Int} (h : isIp ti = false) : arpB op mac ip tm ti = ⟨#[]⟩ := by rw [arpB, arpOk, h]; simp
theorem arpB_0 {op mac ip tm ti : Int} (h1 : inR op 1 2 = true) (h2 : isMac mac = true) (h3 : isMac tm = true) (h4 : isIp ip = true) (h5 : isIp ti = true) : arpB op mac ip tm ti = strOf ([0, 1, 8, 0, 6, 4] ++ (be 2 op.toNat ++ (be 6 mac.toNat ++ (be 4 ip.toNat ++ (be 6 tm.toNat ++ be 4 ti.toNat))))) := by rw [arpB, arpOk, h1, h2, h3, h4, h5]; rfl

def vxR (s : ByteArray) : Value := if 8000 < s.size then vxOutV 0 ⟨#[]⟩ 2 else if s.size < 8 then vxOutV 0 ⟨#[]⟩ 4 else
  if (vxB (numAt s 4 7 : Nat) (s.extract 8 s.size)).toList == s.toList then vxOutV (numAt s 4 7 : Nat) (s.extract 8 s.size) 0 else vxOutV 0 ⟨#[]⟩ 3
theorem vxR_2 (s : ByteArray) (h1 : 8000 < s.size) : vxR s = vxOutV 0 ⟨#[]⟩ 2 := by rw [vxR, if_pos h1]
theorem vxR_4 (s : ByteArray) (h1 : ¬ 8000 < s.size) (h2 : s.size < 8) : vxR s = vxOutV 0 ⟨#[]⟩ 4 := by rw [vxR, if_neg h1, if_pos h2]
theorem vxR_3 (s : ByteArray) (h1 : ¬ 8000 < s.size) (h2 : ¬ s.size < 8) (h3 : ((vxB (numAt s 4 7 : Nat) (s.extract 8 s.size)).toList == s.toList) = false) : vxR s = vxOutV 0 ⟨#[]⟩ 3 := by rw [vxR, if_neg h1, if_neg h2, h3]; rfl
theorem vxR_0 (s : ByteArray) (h1 : ¬ 8000 < s.size) (h2 : ¬ s.size < 8) (h3 : ((vxB (numAt s 4 7 : Nat) (s.extract 8 s.size)).toList == s.toList) = true) : vxR s = vxOutV (numAt s 4 7 : Nat) (s.extract 8 s.size) 0 := by rw [vxR, if_neg h1, if_neg h2, h3]; rfl
end Go.Proofs.Ytmkoppbbenombaa

/- The program's tests of ranges, IsGroup, VxBytes. -/
namespace Go.Proofs.Ytmkoppbbenombaa
open Go.RowKit
attribute [local go_sem ↓] Go.wp_at_zero Go.wp_at_succ

theorem implMac_any (n : Int) (w : World) : Calls Try.prog 145 #[.int .i64 n] w fun e w' => e = .returned (.bool (isMac n)) ∧ w = w' := by
  by_cases h1 : 0 ≤ n
  · have HR : Hid (isMac n = decide (n ≤ 281474976710655)) := Lib.hid (by rw [isMac, inR, decide_eq_true h1]; rfl)
    go_enter Try.func145, Try.ntmps145
    go_wp2
    go_ret
    exact ⟨bool_ret HR.out.symm, rfl⟩
  · have HR : Hid (isMac n = false) := Lib.hid (by rw [isMac, inR, decide_eq_false h1]; rfl)
    go_enter Try.func145, Try.ntmps145
    go_wp2
    go_ret
    exact ⟨bool_ret HR.out.symm, rfl⟩
theorem implIp_any (n : Int) (w : World) : Calls Try.prog 125 #[.int .i64 n] w fun e w' => e = .returned (.bool (isIp n)) ∧ w = w' := by
  by_cases h1 : 0 ≤ n
  · have HR : Hid (isIp n = decide (n ≤ 4294967295)) := Lib.hid (by rw [isIp, inR, decide_eq_true h1]; rfl)
    go_enter Try.func125, Try.ntmps125
    go_wp2
    go_ret
    exact ⟨bool_ret HR.out.symm, rfl⟩
  · have HR : Hid (isIp n = false) := Lib.hid (by rw [isIp, inR, decide_eq_false h1]; rfl)
    go_enter Try.func125, Try.ntmps125
    go_wp2
    go_ret
    exact ⟨bool_ret HR.out.symm, rfl⟩
theorem implVni_any (n : Int) (w : World) : Calls Try.prog 85 #[.int .i64 n] w fun e w' => e = .returned (.bool (isVni n)) ∧ w = w' := by
  by_cases h1 : 1 ≤ n
  · have HR : Hid (isVni n = decide (n ≤ 16777215)) := Lib.hid (by rw [isVni, inR, decide_eq_true h1]; rfl)
    go_enter Try.func85, Try.ntmps85
    go_wp2
    go_ret
    exact ⟨bool_ret HR.out.symm, rfl⟩
  · have HR : Hid (isVni n = false) := Lib.hid (by rw [isVni, inR, decide_eq_false h1]; rfl)
    go_enter Try.func85, Try.ntmps85
    go_wp2
    go_ret
    exact ⟨bool_ret HR.out.symm, rfl⟩

def vxRightB (v : Int) (t : ByteArray) : Bool := isVni v && decide (t.size ≤ 74)
theorem vxB_right (v : Int) (t : ByteArray) : vxRightB v t = false → vxB v t = ⟨#[]⟩ := by
  intro h; rw [vxRightB] at h; rw [vxB, h]; rfl
theorem vxB_wrong (v : Int) (t : ByteArray) : vxRightB v t = true → vxB v t = strOf ([8, 0, 0, 0] ++ (be 3 v.toNat ++ ([0] ++ t.data.toList))) := by
  intro h; rw [vxRightB] at h; rw [vxB, h]; rfl
theorem vxRight_t {v : Int} {t : ByteArray} (h : vxRightB v t = true) : 1 ≤ v ∧ v ≤ 16777215 ∧ t.size ≤ 74 := by
  rw [vxRightB, Bool.and_eq_true, decide_eq_true_eq] at h
  exact ⟨(isVni_t h.1).1, (isVni_t h.1).2, h.2⟩
theorem dn {B : Nat} {a w : World} (h : Below B a w) (n : Nat) : Below B a (w.drewN n) := h.trans ⟨rfl, rfl, rfl, Nat.le_refl _, fun _ _ => rfl⟩
/- IsGroup -/
theorem be6_head (n : Int) (h0 : 0 ≤ n) (h1 : n ≤ 281474976710655) : ∃ b1 b2 b3 b4 b5 : UInt8, strOf (be 6 (n % 18446744073709551616).toNat) = ⟨#[UInt8.ofNat (n / 1099511627776).toNat, b1, b2, b3, b4, b5]⟩ := by
  rw [show n % 18446744073709551616 = n from by omega]
  have e : n.toNat / 256 / 256 / 256 / 256 / 256 % 256 = (n / 1099511627776).toNat := by omega
  exact ⟨UInt8.ofNat (n.toNat / 256 / 256 / 256 / 256 % 256), UInt8.ofNat (n.toNat / 256 / 256 / 256 % 256), UInt8.ofNat (n.toNat / 256 / 256 % 256), UInt8.ofNat (n.toNat / 256 % 256), UInt8.ofNat (n.toNat % 256), by rw [← e]; rfl⟩
theorem macOf_group (n : Int) : ∃ b0 b1 b2 b3 b4 b5 : UInt8, (isGroup n = (isMac n && !(b0 == evenB b0))) ∧
    macV (strOf (be 6 (n % 18446744073709551616).toNat)) = .agg #[.int .u8 (b0.toNat : Int), .int .u8 (b1.toNat : Int), .int .u8 (b2.toNat : Int), .int .u8 (b3.toNat : Int), .int .u8 (b4.toNat : Int), .int .u8 (b5.toNat : Int)] := by
  cases hm : isMac n
  · obtain ⟨b0, b1, b2, b3, b4, b5, e⟩ := six_bytes (strOf (be 6 (n % 18446744073709551616).toNat)) (by rw [strOf_size, be_length])
    exact ⟨b0, b1, b2, b3, b4, b5, by rw [isGroup, hm]; rfl, by rw [e]; rfl⟩
  · have hb := isMac_t hm
    obtain ⟨b1, b2, b3, b4, b5, e⟩ := be6_head n hb.1 hb.2
    refine ⟨_, b1, b2, b3, b4, b5, ?_, by rw [e]; rfl⟩
    rw [isGroup, hm, Bool.true_and, Bool.true_and, Bool.eq_iff_iff]
    have e1 : (UInt8.ofNat (n / 1099511627776).toNat).toNat = (n / 1099511627776).toNat := UInt8.toNat_ofNat_of_lt' (by show _ < 256; omega)
    simp only [decide_eq_true_eq, Bool.not_eq_true', beq_eq_false_iff_ne, ne_eq, ← UInt8.toNat_inj, evenB_nat, e1]
    omega
abbrev Six (G : Nat) (v0 v1 v2 v3 v4 v5 : Value) (w W : World) : Prop := W.cell? ⟨G, 0, none⟩ = some v0 ∧ W.cell? ⟨G, 1, none⟩ = some v1 ∧ W.cell? ⟨G, 2, none⟩ = some v2 ∧ W.cell? ⟨G, 3, none⟩ = some v3 ∧ W.cell? ⟨G, 4, none⟩ = some v4 ∧ W.cell? ⟨G, 5, none⟩ = some v5 ∧ Below w.heap.size w W
theorem Six.keep {G : Nat} {w W W' : World} {v0 v1 v2 v3 v4 v5 : Value} (h : Six G v0 v1 v2 v3 v4 v5 w W) (hb : Below W.heap.size W W') : Six G v0 v1 v2 v3 v4 v5 w W' := by
  obtain ⟨h0, h1, h2, h3, h4, h5, h6⟩ := h
  have hl := World.block_lt_of_cell? W _ h0
  exact ⟨(hb.cell hl).trans h0, (hb.cell (p := ⟨G, 1, none⟩) hl).trans h1, (hb.cell (p := ⟨G, 2, none⟩) hl).trans h2, (hb.cell (p := ⟨G, 3, none⟩) hl).trans h3, (hb.cell (p := ⟨G, 4, none⟩) hl).trans h4, (hb.cell (p := ⟨G, 5, none⟩) hl).trans h5, h6.trans (hb.mono h6.size)⟩
set_option maxHeartbeats 2000000 in
theorem implIsGroup_any (n : Int) (w : World) : Calls Try.prog 146 #[.int .i64 n] w fun e w' => e = .returned (.bool (isGroup n)) ∧ Below w.heap.size w w' := by
  obtain ⟨b0, b1, b2, b3, b4, b5, hg, hV⟩ := macOf_group n
  have HO := Lib.hid (fun W => macOf_any n W)
  rw [hV] at HO
  have HS := Lib.hid (fun W => macSingle_any b0 b1 b2 b3 b4 b5 W)
  clear hV
  have hq := mac_equal b0 (evenB b0) b1 b2 b3 b4 b5
  generalize evenB b0 = x at *
  cases hm : isMac n
  · rw [hm, Bool.false_and] at hg
    have HR := Lib.hid hg; clear hg
    go_enter Try.func146, Try.ntmps146
    go_wp2_with (go_at_call 155; refine (HO.out _).mono ?_; rintro e w1 ⟨rfl, hb1⟩)
    go_quiet ((go_at_call 145; refine Calls.quiet_of_same ((implMac_any n _).mono fun e w' h => ⟨h.1, h.2.symm⟩)))
    go_wp2
    go_ret
    exact ⟨bool_ret HR.out.symm, dn (hb1.alloc hb1.size _) _⟩
  · rw [hm, Bool.true_and] at hg
    have HR := Lib.hid hg; clear hg
    go_enter Try.func146, Try.ntmps146
    go_wp2_with (go_at_call 155; refine (HO.out _).mono ?_; rintro e w1 ⟨rfl, hb1⟩)
    obtain ⟨W, hW⟩ : ∃ W, W = w1.alloc (.cells #[.int .u8 (b0.toNat : Int), .int .u8 (b1.toNat : Int), .int .u8 (b2.toNat : Int), .int .u8 (b3.toNat : Int), .int .u8 (b4.toNat : Int), .int .u8 (b5.toNat : Int)] 167) := ⟨_, rfl⟩
    have S0 : Six w1.heap.size (.int .u8 (b0.toNat : Int)) (.int .u8 (b1.toNat : Int)) (.int .u8 (b2.toNat : Int)) (.int .u8 (b3.toNat : Int)) (.int .u8 (b4.toNat : Int)) (.int .u8 (b5.toNat : Int)) w W.drew := by
      subst hW; exact ⟨by simp, by simp, by simp, by simp, by simp, by simp, (hb1.alloc hb1.size _).drew⟩
    rw [← hW]
    clear hW
    go_region_held3 (fun w' => Six w1.heap.size (.int .u8 (b0.toNat : Int)) (.int .u8 (b1.toNat : Int)) (.int .u8 (b2.toNat : Int)) (.int .u8 (b3.toNat : Int)) (.int .u8 (b4.toNat : Int)) (.int .u8 (b5.toNat : Int)) w w') (first | exact S0)
      (first | (go_at_call 145; refine (implMac_any _ _).mono ?_; rintro e w' ⟨rfl, rfl⟩) | (go_at_call 156; refine (HS.out _).mono ?_; rintro e w2 ⟨rfl, hb2⟩; replace S0 := S0.keep hb2; clear hb2))
    go_wp2
    go_ret
    exact ⟨bool_ret HR.out.symm, S0.2.2.2.2.2.2⟩
end Go.Proofs.Ytmkoppbbenombaa
