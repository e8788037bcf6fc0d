/- Bytes that a call makes itself: make, copy, a row read as a string. -/
import Derived.Test.YthhodnkcaefnnaaBase
import Derived.Lib.BufferWrite
import Derived.Laws.MakeOwn
import Derived.Lib.UnsafeStr
import Derived.WalkSpells
namespace Go.Proofs.Ythhodnkcaefnnaa
open Go.RowKit

theorem info_u8 : (Try.prog.info? 5).map (fun i => (i.zero, i.size, i.bytes)) = some (some (.int .u8 0), 1, 1) := by kernel_rfl
theorem byteCells_map (l : List UInt8) : Lib.byteCells l = l.map byteV := rfl
theorem size_list (s : ByteArray) : s.size = s.data.toList.length := Lib.size_eq s
theorem size_zero {b : ByteArray} (h : b.size = 0) : b = ByteArray.empty := ByteArray.ext (Array.eq_empty_of_size_eq_zero h)
theorem app_strOf (a b : ByteArray) : a ++ b = strOf (a.data.toList ++ b.data.toList) := by
  apply ByteArray.ext; rw [ByteArray.data_append, strOf]; simp
theorem len_bytes (s : ByteArray) : (s.data.toList.map byteV).length = s.size := by rw [List.length_map, ← size_list]
theorem info_u8s : (Try.prog.info? 5).map (·.size) = some 1 := by kernel_rfl

/- 'make([]byte, n)' -/
theorem make_bytes (n : Nat) (hn : n ≤ 281474976710656) : ∃ M : Array Value, M.size = n ∧
    ∀ W : World, (Instr.makeSlice 53 (.int .i64 (n : Int)) (.int .i64 (n : Int))).run Try.prog W = .ok (.slice (some ⟨W.heap.size, 0, none⟩) n n) (W.alloc (.cells M 5)) := by
  obtain ⟨i0, hi, hz0, hz1, hz2⟩ := info_parts info_u8
  refine ⟨madeCells (Value.int .u8 0).cells (((n : Nat) : Int).toNat * i0.size), by rw [size_madeCells, hz1]; simp, fun W => ?_⟩
  have h := run_make (P := Try.prog) W 53 5 i0 (.int .u8 0) Try.underlying53 hi hz0 .i64 .i64 (n : Int) (n : Int) (by omega) (by omega) (by rw [hz2]; omega) (by omega)
  simpa using h

/- a row that holds the bytes l and nothing else, as a string -/
theorem row_string {w : World} {g : Nat} {Y : Array Value} {l : List UInt8} (hg : w.heap[g]? = some (.cells Y 5 (0, 0))) (hY : Y.toList = l.map byteV) (hl : l.length ≤ maxLen) :
    (convert 53 9 (.slice (some ⟨g, 0, none⟩) l.length l.length)).run Try.prog w = .ok (.string (strOf l)) w := by
  have hs : Y.size = l.length := by rw [← Array.length_toList, hY, List.length_map]
  refine own_string (P := Try.prog) (base := 0) (e := 5) 53 9 ⟨by simp, .inr ⟨g, l.length, Y, rfl, Nat.zero_le _, hg, Nat.le_refl _, hl, by omega, ?_⟩⟩ Try.underlying53 Try.underlying5 Try.underlying9
  rw [Nat.mul_one, List.take_of_length_le (by rw [Array.length_toList]; omega), hY]

end Go.Proofs.Ythhodnkcaefnnaa
