/- Contracts of joined, of PutText. -/
import Derived.Test.YthhodnkcaefnnaaDoorPut
import Derived.Test.YthhodnkcaefnnaaDoorLong
namespace Go.Proofs.YthhodnkcaefnnaaDoor
open Go.RowKit

set_option maxHeartbeats 1000000 in
theorem joined_any (a b : ByteArray) (w : World) (hab : a.size + b.size ≤ 140737488355328) :
    Calls Tryd.prog 25 #[.string a, .string b] w fun e w' => e = .returned (.string (strOf (a.data.toList ++ b.data.toList))) ∧ Below w.heap.size w w' := by
  obtain ⟨M, hM, hmk0⟩ := make_bytes (a.size + b.size) (by omega)
  have hmk : ∀ W : World, (Instr.makeSlice 22 (.int .i64 ((a.size : Int) + (b.size : Int))) (.int .i64 ((a.size : Int) + (b.size : Int)))).run Tryd.prog W = .ok (.slice (some ⟨W.heap.size, 0, none⟩) (a.size + b.size) (a.size + b.size)) (W.alloc (.cells M 5)) := fun W => by
    simpa using hmk0 W
  clear hmk0
  have hcp := Lib.run_copy_row_string (P := Tryd.prog) (w.alloc (.cells M 5)) 22 9 3 5 w.heap.size 0 (a.size + b.size) (a.size + b.size) a M 5 Tryd.underlying22 info_u8s (heap_alloc_new w _) (by omega) (by omega)
  obtain ⟨Y, hY⟩ : ∃ Y, Y = (M.toList.take 0 ++ Lib.byteCells a.data.toList ++ M.toList.drop (0 + a.size)).toArray := ⟨_, rfl⟩
  rw [← hY] at hcp
  have hML : M.toList.length = a.size + b.size := by rw [Array.length_toList, hM]
  have hYl : Y.toList = (a.data.toList.map byteV) ++ M.toList.drop a.size := by
    rw [hY, List.toList_toArray, List.take_zero, List.nil_append, Nat.zero_add, byteCells_map]
  have hYs : Y.size = a.size + b.size := by rw [← Array.length_toList, hYl, List.length_append, len_bytes, List.length_drop, hML]; omega
  have hgY : ((w.alloc (.cells M 5)).setRow w.heap.size Y).heap[w.heap.size]? = some (.cells Y 5 (0, 0)) := setRow_heap _ _ M _ 5 (0, 0) (heap_alloc_new w _)
  have hb1 : Below w.heap.size w (w.alloc (.cells M 5)) := (Below.refl _ w).alloc (Nat.le_refl _) _
  have hb2 : Below w.heap.size (w.alloc (.cells M 5)) ((w.alloc (.cells M 5)).setRow w.heap.size Y) := ⟨rfl, rfl, rfl, by simp, fun k hk => setRow_other _ _ _ _ (by omega)⟩
  have HB := Lib.hid (hb1.trans hb2)
  clear hY hb1 hb2
  by_cases h0 : b.size = 0
  · have hbe := size_zero h0
    subst hbe
    have he : (ByteArray.empty).size = 0 := rfl
    have hcv := row_string (l := a.data.toList) hgY (by rw [hYl, List.drop_of_length_le (by rw [hML, he]; omega), List.append_nil]) (by rw [← size_list]; unfold maxLen; omega)
    rw [← size_list] at hcv
    have hl : a.data.toList ++ ByteArray.empty.data.toList = a.data.toList := by rw [show ByteArray.empty.data.toList = [] from rfl, List.append_nil]
    rw [hl]
    have hc0 : ∀ W d, (Builtin.copy_ #[22, 9] 3 #[.slice d 0 0, .string ByteArray.empty]).run Tryd.prog W = .ok (goInt 0) W := fun W d =>
      Lib.run_copy_empty_string (P := Tryd.prog) W 22 9 3 5 d 0 0 ByteArray.empty Tryd.underlying22 (by rw [info_u8s]; rfl) rfl
    simp only [ByteArray.size_empty, Int.natCast_zero, Int.add_zero, Nat.add_zero] at hmk hcp
    clear hl hgY hYl hYs hM hML he h0
    go_enter Tryd.func25, Tryd.ntmps25
    go_wp2
    go_ret
    exact ⟨rfl, HB.out⟩
  · have hne : ¬ b = ByteArray.empty := fun e => h0 (by rw [e]; rfl)
    have hcp2 := Lib.run_copy_row_string (P := Tryd.prog) ((w.alloc (.cells M 5)).setRow w.heap.size Y) 22 9 3 5 w.heap.size a.size b.size b.size b Y 5 Tryd.underlying22 info_u8s hgY (by omega) (by omega)
    obtain ⟨Z, hZ⟩ : ∃ Z, Z = (Y.toList.take a.size ++ Lib.byteCells b.data.toList ++ Y.toList.drop (a.size + b.size)).toArray := ⟨_, rfl⟩
    rw [← hZ] at hcp2
    have hZl : Z.toList = (a.data.toList ++ b.data.toList).map byteV := by
      rw [hZ, List.toList_toArray, hYl, List.map_append, byteCells_map, List.take_append_of_le_length (by rw [len_bytes]; omega), List.take_of_length_le (by rw [len_bytes]; omega),
        List.drop_of_length_le (by rw [List.length_append, len_bytes, List.length_drop, hML]; omega), List.append_nil]
    have hgZ : (((w.alloc (.cells M 5)).setRow w.heap.size Y).setRow w.heap.size Z).heap[w.heap.size]? = some (.cells Z 5 (0, 0)) := setRow_heap _ _ Y _ 5 (0, 0) hgY
    have hb3 : Below w.heap.size ((w.alloc (.cells M 5)).setRow w.heap.size Y) (((w.alloc (.cells M 5)).setRow w.heap.size Y).setRow w.heap.size Z) := ⟨rfl, rfl, rfl, by simp, fun k hk => setRow_other _ _ _ _ (by omega)⟩
    have hcv := row_string (l := a.data.toList ++ b.data.toList) hgZ hZl (by rw [List.length_append, ← size_list, ← size_list]; unfold maxLen; omega)
    rw [List.length_append, ← size_list, ← size_list] at hcv
    have HB3 := Lib.hid (HB.out.trans hb3)
    clear hZ hb3 hgZ hZl hYl hYs hM hML hgY
    go_enter Tryd.func25, Tryd.ntmps25
    go_wp2
    go_ret
    exact ⟨rfl, HB3.out⟩

def putText (s : ByteArray) : ByteArray := if 8000 < s.size then ⟨#[]⟩ else strOf (putNum s.size ++ s.data.toList)
theorem putText_big (s : ByteArray) (h : 8000 < s.size) : putText s = ⟨#[]⟩ := by rw [putText, if_pos h]
theorem putText_small (s : ByteArray) (h : ¬ 8000 < s.size) : putText s = strOf (putNum s.size ++ s.data.toList) := by rw [putText, if_neg h]

end Go.Proofs.YthhodnkcaefnnaaDoor
