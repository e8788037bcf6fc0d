/- Contracts of sumOf, l01Four, Seal. -/
import Derived.Test.YtfmhccmaeonbhaaB1
import Derived.Test.YtfmhccmaeonbhaaCrc
import Derived.Test.YtfmhccmaeonbhaaClone
import Derived.LoopN
import Derived.Handy
namespace Go.Proofs.Ytfmhccmaeonbhaa
open Go.RowKit

def four (n : Nat) : List UInt8 := [UInt8.ofNat (n % 256), UInt8.ofNat (n / 256 % 256), UInt8.ofNat (n / 65536 % 256), UInt8.ofNat (n / 16777216 % 256)]
def fourC (n : Nat) : Array Value := #[.int .u8 ((n : Int) % 256), .int .u8 ((n : Int) / 256 % 256), .int .u8 ((n : Int) / 65536 % 256), .int .u8 ((n : Int) / 16777216)]
theorem four_cells (n : Nat) (hn : n < 4294967296) : (fourC n).toList = (four n).map byteV := by
  simp only [fourC, four, List.map]
  rw [byte_of (n % 256) ((n : Int) % 256) (by omega) (by omega), byte_of (n / 256 % 256) ((n : Int) / 256 % 256) (by omega) (by omega), byte_of (n / 65536 % 256) ((n : Int) / 65536 % 256) (by omega) (by omega), byte_of (n / 16777216 % 256) ((n : Int) / 16777216) (by omega) (by omega)]
theorem four_string (n : Nat) (hn : n < 4294967296) (w : World) :
    (convert 108 9 (.slice (some ⟨w.heap.size, 0, none⟩) 4 4)).run Try.prog (w.alloc (.cells #[.int .u8 ((n : Int) % 256), .int .u8 ((n : Int) / 256 % 256), .int .u8 ((n : Int) / 65536 % 256), .int .u8 ((n : Int) / 16777216)] 5)) =
      .ok (.string (strOf (four n))) (w.alloc (.cells #[.int .u8 ((n : Int) % 256), .int .u8 ((n : Int) / 256 % 256), .int .u8 ((n : Int) / 65536 % 256), .int .u8 ((n : Int) / 16777216)] 5)) :=
  row_string (l := four n) (heap_alloc_new w _) (four_cells n hn) (by show 4 ≤ maxLen; unfold maxLen; omega)

set_option maxHeartbeats 1000000 in
theorem specFour_any (n : Nat) (w : World) (hn : n < 4294967296) :
    Calls Try.prog 96 #[.int .i64 (n : Int)] w fun e w' => e = .returned (.string (strOf (four n))) ∧ Below w.heap.size w w' := by
  have hcv := four_string n hn
  go_enter Try.func96, Try.ntmps96
  go_wp2
  go_ret
  exact ⟨rfl, (Below.refl _ _).alloc (Nat.le_refl _) _⟩

set_option maxHeartbeats 1000000 in
theorem sumOf_any (s : ByteArray) (w : World) (hs : s.size ≤ maxLen) (h8 : s.size ≤ 8000) :
    Calls Try.prog 100 #[.string s] w fun e w' => e = .returned (.string (strOf (four (crcOf 0 s)))) ∧ Below w.heap.size w w' := by
  have HS := Lib.hid hs
  unfold maxLen at hs
  have hc : crcI s = (crcOf 0 s : Nat) := by rw [crcI, if_neg (by omega)]
  have hlt := crcOf_lt 0 s (by omega)
  obtain ⟨n, hn⟩ : ∃ n, n = crcOf 0 s := ⟨_, rfl⟩
  rw [← hn] at hc hlt ⊢
  clear hn
  have HC := Lib.hid hc; clear hc
  have hcv := four_string n hlt
  have hmk : ∀ w : World, (Instr.makeSlice 108 (.int .i64 4) (.int .i64 4)).run Try.prog w = .ok (.slice (some ⟨w.heap.size, 0, none⟩) 4 4) (w.alloc (.cells #[.int .u8 0, .int .u8 0, .int .u8 0, .int .u8 0] 5)) := fun _ => by kernel_rfl
  go_enter Try.func100, Try.ntmps100
  go_wp2_with (go_at_call 114; refine (implCrc_any _ _ HS.out).mono ?_; rintro e w' ⟨rfl, rfl⟩; rw [HC.out])
  go_rounds 5
  go_ret
  exact ⟨rfl, (Below.refl _ _).alloc (Nat.le_refl _) _⟩

def sealS (s : ByteArray) : ByteArray := if 7996 < s.size then ⟨#[]⟩ else strOf (s.data.toList ++ four (crcOf 0 s))
theorem sealS_big (s : ByteArray) (h : 7996 < s.size) : sealS s = ⟨#[]⟩ := by rw [sealS, if_pos h]
theorem sealS_small (s : ByteArray) (h : ¬ 7996 < s.size) : sealS s = strOf (s.data.toList ++ four (crcOf 0 s)) := by rw [sealS, if_neg h]

set_option maxHeartbeats 1000000 in
theorem implSeal_any (s : ByteArray) (w : World) (hs : s.size ≤ maxLen) :
    Calls Try.prog 72 #[.string s] w fun e w' => e = .returned (.string (sealS s)) ∧ Below w.heap.size w w' := by
  have HS := Lib.hid hs
  unfold maxLen at hs
  by_cases h1 : 7996 < s.size
  · have HR := Lib.hid (sealS_big s h1)
    go_enter Try.func72, Try.ntmps72
    go_wp2_with fail
    go_ret
    exact ⟨str_ret HR.out.symm, Below.refl _ _⟩
  · have HR := Lib.hid (sealS_small s h1)
    have hj : s.size + (strOf (four (crcOf 0 s))).size ≤ 140737488355328 := by rw [strOf_size]; show s.size + 4 ≤ _; omega
    have HJ := Lib.hid hj; clear hj
    go_enter Try.func72, Try.ntmps72
    go_wp2_with (first | (go_at_call 100; refine (sumOf_any _ _ HS.out (by omega)).mono ?_; rintro e w1 ⟨rfl, hb1⟩) | (go_at_call 73; refine (joined_any _ _ _ HJ.out).mono ?_; rintro e w2 ⟨rfl, hb2⟩))
    go_ret
    exact ⟨str_ret (by rw [HR.out, strOf_list]), hb1.trans (hb2.mono hb1.size)⟩

set_option maxHeartbeats 1000000 in
theorem specSeal_any (s : ByteArray) (w : World) (hs : s.size ≤ maxLen) :
    Calls Try.prog 68 #[.string s] w fun e w' => e = .returned (.string (sealS s)) ∧ Below w.heap.size w w' := by
  have HS := Lib.hid hs
  unfold maxLen at hs
  by_cases h1 : 7996 < s.size
  · have HR := Lib.hid (sealS_big s h1)
    go_enter Try.func68, Try.ntmps68
    go_wp2_with fail
    go_ret
    exact ⟨str_ret HR.out.symm, Below.refl _ _⟩
  · have HR := Lib.hid (sealS_small s h1)
    have hlt := crcOf_lt 0 s (by omega)
    have hcat : ¬ 9223372036854775807 < s.size + (strOf (four (crcOf 0 s))).size := by rw [strOf_size]; show ¬ _ < s.size + 4; omega
    go_enter Try.func68, Try.ntmps68
    go_wp2_with (first | (go_at_call 97; refine (specL01Crc_any 0 _ _ HS.out (by omega)).mono ?_; rintro e w' ⟨rfl, rfl⟩) | (go_at_call 96; refine (specFour_any _ _ hlt).mono ?_; rintro e w1 ⟨rfl, hb1⟩))
    go_ret
    exact ⟨str_ret (by rw [HR.out, app_strOf, strOf_list]), hb1⟩

end Go.Proofs.Ytfmhccmaeonbhaa
