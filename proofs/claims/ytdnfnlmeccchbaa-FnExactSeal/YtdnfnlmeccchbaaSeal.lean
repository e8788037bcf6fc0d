/- Contracts of sumOf, l01Four, Seal, Clone, Unseal. -/
import Derived.Test.YtdnfnlmeccchbaaJoin
import Derived.LoopN
import Derived.Handy
namespace Go.Proofs.Ytdnfnlmeccchbaa
open Go.RowKit

def four (n : Nat) : List UInt8 := [UInt8.ofNat (n % 256), UInt8.ofNat (n / 256 % 256), UInt8.ofNat (n / 65536 % 256), UInt8.ofNat (n / 16777216 % 256)]
def fourC (n : Nat) : Array Value := #[.int .u8 ((n : Int) % 256), .int .u8 ((n : Int) / 256 % 256), .int .u8 ((n : Int) / 65536 % 256), .int .u8 ((n : Int) / 16777216)]
theorem four_cells (n : Nat) (hn : n < 4294967296) : (fourC n).toList = (four n).map byteV := by
  simp only [fourC, four, List.map]
  rw [byte_of (n % 256) ((n : Int) % 256) (by omega) (by omega), byte_of (n / 256 % 256) ((n : Int) / 256 % 256) (by omega) (by omega), byte_of (n / 65536 % 256) ((n : Int) / 65536 % 256) (by omega) (by omega), byte_of (n / 16777216 % 256) ((n : Int) / 16777216) (by omega) (by omega)]
theorem four_string (n : Nat) (hn : n < 4294967296) (w : World) :
    (convert 22 9 (.slice (some ⟨w.heap.size, 0, none⟩) 4 4)).run Try.prog (w.alloc (.cells #[.int .u8 ((n : Int) % 256), .int .u8 ((n : Int) / 256 % 256), .int .u8 ((n : Int) / 65536 % 256), .int .u8 ((n : Int) / 16777216)] 5)) =
      .ok (.string (strOf (four n))) (w.alloc (.cells #[.int .u8 ((n : Int) % 256), .int .u8 ((n : Int) / 256 % 256), .int .u8 ((n : Int) / 65536 % 256), .int .u8 ((n : Int) / 16777216)] 5)) :=
  row_string (l := four n) (heap_alloc_new w _) (four_cells n hn) (by show 4 ≤ maxLen; unfold maxLen; omega)

set_option maxHeartbeats 1000000 in
theorem specFour_any (n : Nat) (w : World) (hn : n < 4294967296) :
    Calls Try.prog 35 #[.int .i64 (n : Int)] w fun e w' => e = .returned (.string (strOf (four n))) ∧ Below w.heap.size w w' := by
  have hcv := four_string n hn
  go_enter Try.func35, Try.ntmps35
  go_wp2
  go_ret
  exact ⟨rfl, (Below.refl _ _).alloc (Nat.le_refl _) _⟩

set_option maxHeartbeats 1000000 in
theorem sumOf_any (s : ByteArray) (w : World) (hs : s.size ≤ maxLen) (h8 : s.size ≤ 8000) :
    Calls Try.prog 34 #[.string s] w fun e w' => e = .returned (.string (strOf (four (crcOf 0 s)))) ∧ Below w.heap.size w w' := by
  have HS := Lib.hid hs
  unfold maxLen at hs
  have hc : crcI s = (crcOf 0 s : Nat) := by rw [crcI, if_neg (by omega)]
  have hlt := crcOf_lt 0 s (by omega)
  obtain ⟨n, hn⟩ : ∃ n, n = crcOf 0 s := ⟨_, rfl⟩
  rw [← hn] at hc hlt ⊢
  clear hn
  have HC := Lib.hid hc; clear hc
  have hcv := four_string n hlt
  have hmk : ∀ w : World, (Instr.makeSlice 22 (.int .i64 4) (.int .i64 4)).run Try.prog w = .ok (.slice (some ⟨w.heap.size, 0, none⟩) 4 4) (w.alloc (.cells #[.int .u8 0, .int .u8 0, .int .u8 0, .int .u8 0] 5)) := fun _ => by kernel_rfl
  go_enter Try.func34, Try.ntmps34
  go_wp2_with (go_at_call 19; refine (implCrc_any _ _ HS.out).mono ?_; rintro e w' ⟨rfl, rfl⟩; rw [HC.out])
  go_rounds 5
  go_ret
  exact ⟨rfl, (Below.refl _ _).alloc (Nat.le_refl _) _⟩

def sealS (s : ByteArray) : ByteArray := if 7996 < s.size then ⟨#[]⟩ else strOf (s.data.toList ++ four (crcOf 0 s))
theorem sealS_big (s : ByteArray) (h : 7996 < s.size) : sealS s = ⟨#[]⟩ := by rw [sealS, if_pos h]
theorem sealS_small (s : ByteArray) (h : ¬ 7996 < s.size) : sealS s = strOf (s.data.toList ++ four (crcOf 0 s)) := by rw [sealS, if_neg h]

set_option maxHeartbeats 1000000 in
theorem implSeal_any (s : ByteArray) (w : World) (hs : s.size ≤ maxLen) :
    Calls Try.prog 12 #[.string s] w fun e w' => e = .returned (.string (sealS s)) ∧ Below w.heap.size w w' := by
  have HS := Lib.hid hs
  unfold maxLen at hs
  by_cases h1 : 7996 < s.size
  · have HR := Lib.hid (sealS_big s h1)
    go_enter Try.func12, Try.ntmps12
    go_wp2_with fail
    go_ret
    exact ⟨str_ret HR.out.symm, Below.refl _ _⟩
  · have HR := Lib.hid (sealS_small s h1)
    have hj : s.size + (strOf (four (crcOf 0 s))).size ≤ 140737488355328 := by rw [strOf_size]; show s.size + 4 ≤ _; omega
    have HJ := Lib.hid hj; clear hj
    go_enter Try.func12, Try.ntmps12
    go_wp2_with (first | (go_at_call 34; refine (sumOf_any _ _ HS.out (by omega)).mono ?_; rintro e w1 ⟨rfl, hb1⟩) | (go_at_call 33; refine (joined_any _ _ _ HJ.out).mono ?_; rintro e w2 ⟨rfl, hb2⟩))
    go_ret
    exact ⟨str_ret (by rw [HR.out, strOf_list]), hb1.trans (hb2.mono hb1.size)⟩

set_option maxHeartbeats 1000000 in
theorem specSeal_any (s : ByteArray) (w : World) (hs : s.size ≤ maxLen) :
    Calls Try.prog 13 #[.string s] w fun e w' => e = .returned (.string (sealS s)) ∧ Below w.heap.size w w' := by
  have HS := Lib.hid hs
  unfold maxLen at hs
  by_cases h1 : 7996 < s.size
  · have HR := Lib.hid (sealS_big s h1)
    go_enter Try.func13, Try.ntmps13
    go_wp2_with fail
    go_ret
    exact ⟨str_ret HR.out.symm, Below.refl _ _⟩
  · have HR := Lib.hid (sealS_small s h1)
    have hlt := crcOf_lt 0 s (by omega)
    have hcat : ¬ 9223372036854775807 < s.size + (strOf (four (crcOf 0 s))).size := by rw [strOf_size]; show ¬ _ < s.size + 4; omega
    go_enter Try.func13, Try.ntmps13
    go_wp2_with (first | (go_at_call 36; refine (specL01Crc_any 0 _ _ HS.out (by omega)).mono ?_; rintro e w' ⟨rfl, rfl⟩) | (go_at_call 35; refine (specFour_any _ _ hlt).mono ?_; rintro e w1 ⟨rfl, hb1⟩))
    go_ret
    exact ⟨str_ret (by rw [HR.out, app_strOf, strOf_list]), hb1⟩

theorem cellsB : Try.prog.cellsOf 5 = 1 := by kernel_rfl
set_option maxHeartbeats 1000000 in
theorem cloneIn_any (s : ByteArray) (w : World) (hlim : s.size ≤ 140737488355328) :
    Calls Try.prog 45 #[.string s] w fun e w' => e = .returned (.string s) ∧ Below w.heap.size w w' := by
  by_cases h0 : s.size = 0
  · have hse := size_zero h0
    subst hse
    go_enter Try.func45, Try.ntmps45
    go_wp2
    go_ret
    exact ⟨rfl, Below.refl _ _⟩
  · obtain ⟨M, hM, hmk⟩ := make_bytes s.size (by omega)
    have hcp := Lib.run_copy_row_string (P := Try.prog) (w.alloc (.cells M 5)) 22 9 3 5 w.heap.size 0 s.size s.size s M 5 Try.underlying22 info_u8s (heap_alloc_new w _) (by omega) (by omega)
    obtain ⟨Y, hY⟩ : ∃ Y, Y = (M.toList.take 0 ++ Lib.byteCells s.data.toList ++ M.toList.drop (0 + s.size)).toArray := ⟨_, rfl⟩
    rw [← hY] at hcp
    have hML : M.toList.length = s.size := by rw [Array.length_toList, hM]
    have hYl : Y.toList = Lib.byteCells s.data.toList := by
      rw [hY, List.toList_toArray, List.take_zero, List.nil_append, Nat.zero_add, List.drop_of_length_le (by omega), List.append_nil]
    have hYs : Y.size = s.size := by rw [← Array.length_toList, hYl, byteCells_map, len_bytes]
    have hgY : ((w.alloc (.cells M 5)).setRow w.heap.size Y).heap[w.heap.size]? = some (.cells Y 5 (0, 0)) := setRow_heap _ _ M _ 5 (0, 0) (heap_alloc_new w _)
    have hne : s.data.toList ≠ [] := fun e => h0 (by rw [size_list, e]; rfl)
    have hus := Lib.run_unsafeString_row (P := Try.prog) ((w.alloc (.cells M 5)).setRow w.heap.size Y) 53 3 9 5 Try.underlying53 cellsB w.heap.size Y.size (by unfold World.shape?; rw [hgY]) s.data.toList hne (by rw [← size_list]; omega) (by rw [← size_list]; omega)
      (fun j x hx => Lib.cells_of_row hgY Y.size j _ (by rw [List.take_of_length_le (by rw [Array.length_toList]; exact Nat.le_refl _), hYl]; simp [Lib.byteCells, hx]))
    rw [← size_list] at hus
    have hb1 : Below w.heap.size w (w.alloc (.cells M 5)) := (Below.refl _ w).alloc (Nat.le_refl _) _
    have hb2 : Below w.heap.size (w.alloc (.cells M 5)) ((w.alloc (.cells M 5)).setRow w.heap.size Y) := ⟨rfl, rfl, rfl, by simp, fun k hk => setRow_other _ _ _ _ (by omega)⟩
    have HB := Lib.hid (hb1.trans hb2)
    clear hY hb1 hb2 hYl hYs hgY hML hM hne
    go_enter Try.func45, Try.ntmps45
    go_wp2
    go_ret
    exact ⟨rfl, Lib.below_freeze HB.out (p := ⟨w.heap.size, 0, none⟩) (Nat.le_refl _) _⟩
theorem clone_any (s : ByteArray) (w : World) (hlim : s.size ≤ 140737488355328) :
    Calls Try.prog 38 #[.string s] w fun e w' => e = .returned (.string s) ∧ Below w.heap.size w w' := by
  go_enter Try.func38, Try.ntmps38
  go_wp2_with (go_at_call 45; refine (cloneIn_any _ _ hlim).mono ?_; rintro e w1 ⟨rfl, hb1⟩)
  go_ret
  exact ⟨rfl, hb1⟩
end Go.Proofs.Ytdnfnlmeccchbaa
