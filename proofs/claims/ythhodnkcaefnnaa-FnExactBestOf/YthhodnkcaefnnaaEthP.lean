/- The model's numbers in bytes: l02Put at each size that it is called with, l02Get, and the tests of ranges. -/
import Derived.Test.YthhodnkcaefnnaaBe
import Derived.LoopN
import Derived.Handy
namespace Go.Proofs.Ythhodnkcaefnnaa
open Go.RowKit

theorem wraps_i64 (n : Int) (h0 : 0 ≤ n) (h1 : n < 2 ^ 63) : IntKind.i64.wrap n = n := by rw [IntKind.wrap_i64]; omega
theorem and255 (x : Int) (h0 : 0 ≤ x) (h1 : x < 9223372036854775808) : bits .and .i64 x 255 = x % 256 := bits_mask .i64 63 (by decide) wraps_i64 8 (by decide) x h0 h1
theorem and_one (x : Int) (h0 : 0 ≤ x) (h1 : x < 9223372036854775808) : bits .and .i64 x 1 = x % 2 := bits_mask .i64 63 (by decide) wraps_i64 1 (by decide) x h0 h1
theorem and_cell (x : Int) (m : Nat) (h : x = m) (h1 : x < 9223372036854775808) : Value.int .u8 (bits .and .i64 x 255 % 256) = byteV (UInt8.ofNat (m % 256)) := by
  rw [and255 x (by omega) h1]; exact byte_of (m % 256) _ (by omega) (by omega)

theorem put2_string (n : Int) (h0 : 0 ≤ n) (h1 : n ≤ 65535) (w : World) :
    (convert 53 9 (.slice (some ⟨w.heap.size, 0, none⟩) 2 2)).run Try.prog (w.alloc (.cells #[.int .u8 (bits .and .i64 (n / 256) 255 % 256), .int .u8 (bits .and .i64 n 255 % 256)] 5)) =
      .ok (.string (strOf (be 2 n.toNat))) (w.alloc (.cells #[.int .u8 (bits .and .i64 (n / 256) 255 % 256), .int .u8 (bits .and .i64 n 255 % 256)] 5)) :=
  row_string (l := be 2 n.toNat) (heap_alloc_new w _) (by
    simp only [be, List.nil_append, List.cons_append, List.map]
    rw [and_cell (n / 256) (n.toNat / 256) (by omega) (by omega), and_cell (n) (n.toNat) (by omega) (by omega)]) (by rw [be_length]; unfold maxLen; omega)
theorem put3_string (n : Int) (h0 : 0 ≤ n) (h1 : n ≤ 16777215) (w : World) :
    (convert 53 9 (.slice (some ⟨w.heap.size, 0, none⟩) 3 3)).run Try.prog (w.alloc (.cells #[.int .u8 (bits .and .i64 (n / 256 / 256) 255 % 256), .int .u8 (bits .and .i64 (n / 256) 255 % 256), .int .u8 (bits .and .i64 n 255 % 256)] 5)) =
      .ok (.string (strOf (be 3 n.toNat))) (w.alloc (.cells #[.int .u8 (bits .and .i64 (n / 256 / 256) 255 % 256), .int .u8 (bits .and .i64 (n / 256) 255 % 256), .int .u8 (bits .and .i64 n 255 % 256)] 5)) :=
  row_string (l := be 3 n.toNat) (heap_alloc_new w _) (by
    simp only [be, List.nil_append, List.cons_append, List.map]
    rw [and_cell (n / 256 / 256) (n.toNat / 256 / 256) (by omega) (by omega), and_cell (n / 256) (n.toNat / 256) (by omega) (by omega), and_cell (n) (n.toNat) (by omega) (by omega)]) (by rw [be_length]; unfold maxLen; omega)
theorem put4_string (n : Int) (h0 : 0 ≤ n) (h1 : n ≤ 4294967295) (w : World) :
    (convert 53 9 (.slice (some ⟨w.heap.size, 0, none⟩) 4 4)).run Try.prog (w.alloc (.cells #[.int .u8 (bits .and .i64 (n / 256 / 256 / 256) 255 % 256), .int .u8 (bits .and .i64 (n / 256 / 256) 255 % 256), .int .u8 (bits .and .i64 (n / 256) 255 % 256), .int .u8 (bits .and .i64 n 255 % 256)] 5)) =
      .ok (.string (strOf (be 4 n.toNat))) (w.alloc (.cells #[.int .u8 (bits .and .i64 (n / 256 / 256 / 256) 255 % 256), .int .u8 (bits .and .i64 (n / 256 / 256) 255 % 256), .int .u8 (bits .and .i64 (n / 256) 255 % 256), .int .u8 (bits .and .i64 n 255 % 256)] 5)) :=
  row_string (l := be 4 n.toNat) (heap_alloc_new w _) (by
    simp only [be, List.nil_append, List.cons_append, List.map]
    rw [and_cell (n / 256 / 256 / 256) (n.toNat / 256 / 256 / 256) (by omega) (by omega), and_cell (n / 256 / 256) (n.toNat / 256 / 256) (by omega) (by omega), and_cell (n / 256) (n.toNat / 256) (by omega) (by omega), and_cell (n) (n.toNat) (by omega) (by omega)]) (by rw [be_length]; unfold maxLen; omega)
theorem put6_string (n : Int) (h0 : 0 ≤ n) (h1 : n ≤ 281474976710655) (w : World) :
    (convert 53 9 (.slice (some ⟨w.heap.size, 0, none⟩) 6 6)).run Try.prog (w.alloc (.cells #[.int .u8 (bits .and .i64 (n / 256 / 256 / 256 / 256 / 256) 255 % 256), .int .u8 (bits .and .i64 (n / 256 / 256 / 256 / 256) 255 % 256), .int .u8 (bits .and .i64 (n / 256 / 256 / 256) 255 % 256), .int .u8 (bits .and .i64 (n / 256 / 256) 255 % 256), .int .u8 (bits .and .i64 (n / 256) 255 % 256), .int .u8 (bits .and .i64 n 255 % 256)] 5)) =
      .ok (.string (strOf (be 6 n.toNat))) (w.alloc (.cells #[.int .u8 (bits .and .i64 (n / 256 / 256 / 256 / 256 / 256) 255 % 256), .int .u8 (bits .and .i64 (n / 256 / 256 / 256 / 256) 255 % 256), .int .u8 (bits .and .i64 (n / 256 / 256 / 256) 255 % 256), .int .u8 (bits .and .i64 (n / 256 / 256) 255 % 256), .int .u8 (bits .and .i64 (n / 256) 255 % 256), .int .u8 (bits .and .i64 n 255 % 256)] 5)) :=
  row_string (l := be 6 n.toNat) (heap_alloc_new w _) (by
    simp only [be, List.nil_append, List.cons_append, List.map]
    rw [and_cell (n / 256 / 256 / 256 / 256 / 256) (n.toNat / 256 / 256 / 256 / 256 / 256) (by omega) (by omega), and_cell (n / 256 / 256 / 256 / 256) (n.toNat / 256 / 256 / 256 / 256) (by omega) (by omega), and_cell (n / 256 / 256 / 256) (n.toNat / 256 / 256 / 256) (by omega) (by omega), and_cell (n / 256 / 256) (n.toNat / 256 / 256) (by omega) (by omega), and_cell (n / 256) (n.toNat / 256) (by omega) (by omega), and_cell (n) (n.toNat) (by omega) (by omega)]) (by rw [be_length]; unfold maxLen; omega)
inductive PutOk : Int → Int → Prop
  | two {n : Int} (h0 : 0 ≤ n) (h1 : n ≤ 65535) : PutOk n 2
  | three {n : Int} (h0 : 0 ≤ n) (h1 : n ≤ 16777215) : PutOk n 3
  | four {n : Int} (h0 : 0 ≤ n) (h1 : n ≤ 4294967295) : PutOk n 4
  | six {n : Int} (h0 : 0 ≤ n) (h1 : n ≤ 281474976710655) : PutOk n 6
theorem num_take (s : ByteArray) (k : Nat) (h : k < s.size) : num (s.data.toList.take (k + 1)) = num (s.data.toList.take k) * 256 + s[k].toNat := by rw [take_snoc s k h, num_snoc]
theorem num_take_lt (s : ByteArray) (k : Nat) (h : k ≤ 6) : num (s.data.toList.take k) < 281474976710656 := by
  have h1 := num_lt (s.data.toList.take k)
  have h2 : (s.data.toList.take k).length ≤ 6 := by rw [List.length_take]; omega
  exact Nat.lt_of_lt_of_le h1 (Nat.pow_le_pow_right (by decide) h2)
def inR (n lo hi : Int) : Bool := decide (lo ≤ n) && decide (n ≤ hi)
theorem inR_t {n lo hi : Int} (h : inR n lo hi = true) : lo ≤ n ∧ n ≤ hi := by simpa [inR] using h
theorem specIs_any (n lo hi : Int) (w : World) :
    Calls Try.prog 24 #[.int .i64 n, .int .i64 lo, .int .i64 hi] w fun e w' => e = .returned (.bool (inR n lo hi)) ∧ w = w' := by
  by_cases h1 : lo ≤ n
  · have HR : Hid (inR n lo hi = decide (n ≤ hi)) := Lib.hid (by rw [inR, decide_eq_true h1]; rfl)
    go_enter Try.func24, Try.ntmps24
    go_wp2
    go_ret
    exact ⟨bool_ret HR.out.symm, rfl⟩
  · have HR : Hid (inR n lo hi = false) := Lib.hid (by rw [inR, decide_eq_false h1]; rfl)
    go_enter Try.func24, Try.ntmps24
    go_wp2
    go_ret
    exact ⟨bool_ret HR.out.symm, rfl⟩
def isMac (n : Int) : Bool := inR n 0 281474976710655
def isIp (n : Int) : Bool := inR n 0 4294967295
def isVni (n : Int) : Bool := inR n 1 16777215
theorem isMac_t {n : Int} (h : isMac n = true) : 0 ≤ n ∧ n ≤ 281474976710655 := inR_t h
theorem isIp_t {n : Int} (h : isIp n = true) : 0 ≤ n ∧ n ≤ 4294967295 := inR_t h
theorem isVni_t {n : Int} (h : isVni n = true) : 1 ≤ n ∧ n ≤ 16777215 := inR_t h
theorem specMac_any (n : Int) (w : World) : Calls Try.prog 25 #[.int .i64 n] w fun e w' => e = .returned (.bool (isMac n)) ∧ w = w' := by
  go_enter Try.func25, Try.ntmps25
  go_wp2_with (go_at_call 24; refine (specIs_any _ _ _ _).mono ?_; rintro e w' ⟨rfl, rfl⟩)
  go_ret
  exact ⟨rfl, rfl⟩
theorem specIp_any (n : Int) (w : World) : Calls Try.prog 27 #[.int .i64 n] w fun e w' => e = .returned (.bool (isIp n)) ∧ w = w' := by
  go_enter Try.func27, Try.ntmps27
  go_wp2_with (go_at_call 24; refine (specIs_any _ _ _ _).mono ?_; rintro e w' ⟨rfl, rfl⟩)
  go_ret
  exact ⟨rfl, rfl⟩
theorem specVni_any (n : Int) (w : World) : Calls Try.prog 23 #[.int .i64 n] w fun e w' => e = .returned (.bool (isVni n)) ∧ w = w' := by
  go_enter Try.func23, Try.ntmps23
  go_wp2_with (go_at_call 24; refine (specIs_any _ _ _ _).mono ?_; rintro e w' ⟨rfl, rfl⟩)
  go_ret
  exact ⟨rfl, rfl⟩
def isGroup (n : Int) : Bool := isMac n && decide (n / 1099511627776 % 2 = 1)
theorem specIsGroup_any (n : Int) (w : World) : Calls Try.prog 26 #[.int .i64 n] w fun e w' => e = .returned (.bool (isGroup n)) ∧ w = w' := by
  cases hm : isMac n
  · have HR : Hid (isGroup n = false) := Lib.hid (by rw [isGroup, hm]; rfl)
    go_enter Try.func26, Try.ntmps26
    go_wp2_with (go_at_call 25; refine (specMac_any _ _).mono ?_; rintro e w' ⟨rfl, rfl⟩)
    go_ret
    exact ⟨bool_ret HR.out.symm, rfl⟩
  · have hb := isMac_t hm
    have hand := and_one (n / 1099511627776) (by omega) (by omega)
    have HR : Hid (isGroup n = decide (n / 1099511627776 % 2 = 1)) := Lib.hid (by rw [isGroup, hm]; rfl)
    go_enter Try.func26, Try.ntmps26
    go_wp2_with (go_at_call 25; refine (specMac_any _ _).mono ?_; rintro e w' ⟨rfl, rfl⟩)
    go_ret
    exact ⟨bool_ret HR.out.symm, rfl⟩
end Go.Proofs.Ythhodnkcaefnnaa
