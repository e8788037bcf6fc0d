/- The program's MAC addresses as arrays of bytes. -/
import Derived.Test.YthhodnkcaefnnaaEthI
import Derived.Deep.WholeRow
import Derived.Deep.QuietTactic
import Derived.BigQuiet
import Derived.Outline
import Derived.Stop.BytesEq
namespace Go.Proofs.Ythhodnkcaefnnaa
open Go.RowKit

def macV (s : ByteArray) : Value := .agg (s.data.toList.map byteV).toArray
theorem six_bytes (s : ByteArray) (h : s.size = 6) : ∃ b0 b1 b2 b3 b4 b5 : UInt8, s = ⟨#[b0, b1, b2, b3, b4, b5]⟩ := by
  rcases s with ⟨⟨l⟩⟩
  have hl : l.length = 6 := h
  match l, hl with
  | [b0, b1, b2, b3, b4, b5], _ => exact ⟨b0, b1, b2, b3, b4, b5, rfl⟩
theorem macV_six (b0 b1 b2 b3 b4 b5 : UInt8) : macV ⟨#[b0, b1, b2, b3, b4, b5]⟩ = .agg #[.int .u8 (b0.toNat : Int), .int .u8 (b1.toNat : Int), .int .u8 (b2.toNat : Int), .int .u8 (b3.toNat : Int), .int .u8 (b4.toNat : Int), .int .u8 (b5.toNat : Int)] := rfl
theorem copy_six (b0 b1 b2 b3 b4 b5 : UInt8) (w : World) :
    (Builtin.copy_ #[53, 9] 3 #[.slice (some ⟨w.heap.size, 0, none⟩) 6 6, .string ⟨#[b0, b1, b2, b3, b4, b5]⟩]).run Try.prog (w.alloc (.cells #[.int .u8 0, .int .u8 0, .int .u8 0, .int .u8 0, .int .u8 0, .int .u8 0] 57)) =
      .ok (.int .i64 6) (w.alloc (.cells #[.int .u8 (b0.toNat : Int), .int .u8 (b1.toNat : Int), .int .u8 (b2.toNat : Int), .int .u8 (b3.toNat : Int), .int .u8 (b4.toNat : Int), .int .u8 (b5.toNat : Int)] 57)) := by
  have h := Lib.run_copy_row_string (P := Try.prog) (w.alloc (.cells #[.int .u8 0, .int .u8 0, .int .u8 0, .int .u8 0, .int .u8 0, .int .u8 0] 57)) 53 9 3 5 w.heap.size 0 6 6 ⟨#[b0, b1, b2, b3, b4, b5]⟩ #[.int .u8 0, .int .u8 0, .int .u8 0, .int .u8 0, .int .u8 0, .int .u8 0] 57 Try.underlying53 info_u8s (heap_alloc_new w _) (by simp [ByteArray.size]) (by simp [ByteArray.size])
  rw [World.setRow_alloc_new] at h
  exact h
set_option maxHeartbeats 1000000 in
theorem macIn_any (s : ByteArray) (w : World) (hs : s.size = 6) :
    Calls Try.prog 51 #[.string s] w fun e w' => e = .returned (macV s) ∧ Below w.heap.size w w' := by
  obtain ⟨b0, b1, b2, b3, b4, b5, rfl⟩ := six_bytes s hs
  rw [macV_six]
  have hcp := copy_six b0 b1 b2 b3 b4 b5 (w.alloc (.cells #[.int .u8 0, .int .u8 0, .int .u8 0, .int .u8 0, .int .u8 0, .int .u8 0] 57))
  rw [World.size_alloc] at hcp
  go_enter Try.func51, Try.ntmps51
  go_wp2
  refine bodyPost_ret (v := .agg #[.int .u8 (b0.toNat : Int), .int .u8 (b1.toNat : Int), .int .u8 (b2.toNat : Int), .int .u8 (b3.toNat : Int), .int .u8 (b4.toNat : Int), .int .u8 (b5.toNat : Int)]) (by simp [results, Try.results51, go_sem]) rfl ⟨rfl, ?_⟩
  go_grown
theorem string_six (b0 b1 b2 b3 b4 b5 : UInt8) (w : World) :
    (convert 53 9 (.slice (some ⟨w.heap.size, 0, none⟩) 6 6)).run Try.prog (w.alloc (.cells #[.int .u8 (b0.toNat : Int), .int .u8 (b1.toNat : Int), .int .u8 (b2.toNat : Int), .int .u8 (b3.toNat : Int), .int .u8 (b4.toNat : Int), .int .u8 (b5.toNat : Int)] 57)) =
      .ok (.string ⟨#[b0, b1, b2, b3, b4, b5]⟩) (w.alloc (.cells #[.int .u8 (b0.toNat : Int), .int .u8 (b1.toNat : Int), .int .u8 (b2.toNat : Int), .int .u8 (b3.toNat : Int), .int .u8 (b4.toNat : Int), .int .u8 (b5.toNat : Int)] 57)) :=
  run_convert_bytes_back _ 53 9 5 ⟨w.heap.size, 0, none⟩ 6 [b0, b1, b2, b3, b4, b5] Try.underlying53 Try.underlying5 Try.underlying9 (fun j hj => by
    have hj' : j < 6 := hj
    rcases (by omega : j = 0 ∨ j = 1 ∨ j = 2 ∨ j = 3 ∨ j = 4 ∨ j = 5) with h | h | h | h | h | h <;> subst h <;> simp [Addr.add])
def evenB (b : UInt8) : UInt8 := UInt8.ofNat (b.toNat / 2 * 2)
theorem evenB_nat (b : UInt8) : (evenB b).toNat = b.toNat / 2 * 2 := UInt8.toNat_ofNat_of_lt' (by have := b.toNat_lt; show _ < 256; omega)
theorem even_byte (b : UInt8) : bits .andNot .u8 (b.toNat : Int) 1 = ((evenB b).toNat : Int) := by
  have h : ∀ c : Fin 256, c.val &&& 254 = c.val / 2 * 2 := by decide +kernel
  have k := u8_andNot_nat b.toNat 1 b.toNat_lt (by decide)
  rw [show ((1 : Nat) : Int) = 1 from rfl] at k
  rw [k, show 255 - 1 = 254 from rfl, h ⟨b.toNat, b.toNat_lt⟩, evenB_nat]
set_option maxHeartbeats 1000000 in
theorem macSingle_any (b0 b1 b2 b3 b4 b5 : UInt8) (w : World) :
    Calls Try.prog 49 #[.agg #[.int .u8 (b0.toNat : Int), .int .u8 (b1.toNat : Int), .int .u8 (b2.toNat : Int), .int .u8 (b3.toNat : Int), .int .u8 (b4.toNat : Int), .int .u8 (b5.toNat : Int)]] w fun e w' =>
      e = .returned (.agg #[.int .u8 ((evenB b0).toNat : Int), .int .u8 (b1.toNat : Int), .int .u8 (b2.toNat : Int), .int .u8 (b3.toNat : Int), .int .u8 (b4.toNat : Int), .int .u8 (b5.toNat : Int)]) ∧ Below w.heap.size w w' := by
  have he := even_byte b0
  generalize evenB b0 = x at *
  go_enter Try.func49, Try.ntmps49
  go_wp2
  refine bodyPost_ret (v := .agg #[.int .u8 (x.toNat : Int), .int .u8 (b1.toNat : Int), .int .u8 (b2.toNat : Int), .int .u8 (b3.toNat : Int), .int .u8 (b4.toNat : Int), .int .u8 (b5.toNat : Int)]) (by simp [results, Try.results49, go_sem]) rfl ⟨rfl, ?_⟩
  go_grown
theorem sizeB (w : World) : (sizeOf 5).run Try.prog w = .ok 1 w := by kernel_rfl
theorem mac_equal (b0 c0 b1 b2 b3 b4 b5 : UInt8) (w : World) : (Op.equalIn 10000 57 (.agg #[.int .u8 (b0.toNat : Int), .int .u8 (b1.toNat : Int), .int .u8 (b2.toNat : Int), .int .u8 (b3.toNat : Int), .int .u8 (b4.toNat : Int), .int .u8 (b5.toNat : Int)])
    (.agg #[.int .u8 (c0.toNat : Int), .int .u8 (b1.toNat : Int), .int .u8 (b2.toNat : Int), .int .u8 (b3.toNat : Int), .int .u8 (b4.toNat : Int), .int .u8 (b5.toNat : Int)])).run Try.prog w = .ok (b0 == c0) w := by
  have h := run_equalIn_bytes (P := Try.prog) w 9998 57 5 6 Try.underlying57 Try.underlying5 sizeB [b0, b1, b2, b3, b4, b5] [c0, b1, b2, b3, b4, b5] rfl rfl
  rw [show ([b0, b1, b2, b3, b4, b5] == [c0, b1, b2, b3, b4, b5]) = (b0 == c0) from by simp [List.cons_beq_cons]] at h
  exact h
theorem macOf_any (n : Int) (w : World) :
    Calls Try.prog 48 #[.int .i64 n] w fun e w' => e = .returned (macV (strOf (be 6 (n % 18446744073709551616).toNat))) ∧ Below w.heap.size w w' := by
  have hsz : (strOf (be 6 (n % 18446744073709551616).toNat)).size = 6 := by rw [strOf_size, be_length]
  have HB := Lib.hid (fun W => implBe_any n 6 W .six)
  rw [show (6 : Int).toNat = 6 from rfl] at HB
  generalize strOf (be 6 (n % 18446744073709551616).toNat) = s at *
  have HI := Lib.hid (fun W => macIn_any s W hsz)
  have hV : ∃ b0 b1 b2 b3 b4 b5 : UInt8, macV s = .agg #[.int .u8 (b0.toNat : Int), .int .u8 (b1.toNat : Int), .int .u8 (b2.toNat : Int), .int .u8 (b3.toNat : Int), .int .u8 (b4.toNat : Int), .int .u8 (b5.toNat : Int)] := by
    obtain ⟨b0, b1, b2, b3, b4, b5, rfl⟩ := six_bytes s hsz
    exact ⟨b0, b1, b2, b3, b4, b5, rfl⟩
  obtain ⟨b0, b1, b2, b3, b4, b5, hV⟩ := hV
  rw [hV] at HI ⊢
  clear hV hsz
  go_enter Try.func48, Try.ntmps48
  go_wp2_with (first | (go_at_call 52; refine (HB.out _).mono ?_; rintro e w1 ⟨rfl, hb1⟩) | (go_at_call 51; refine (HI.out _).mono ?_; rintro e w2 ⟨rfl, hb2⟩; have hz1 : w.heap.size < w1.heap.size := (by have := hb1.size; simp at this; omega); have hz2 : w.heap.size < w2.heap.size := (by have := hb2.size; omega); have hc : ∀ o, w2.cell? ⟨w.heap.size, o, none⟩ = _ := fun o => (hb2.cell (p := ⟨w.heap.size, o, none⟩) hz1).trans (hb1.cell (p := ⟨w.heap.size, o, none⟩) (by simp)); have hf : ∀ o, w2.frozen? ⟨w.heap.size, o, none⟩ = _ := fun o => (hb2.frozen (p := ⟨w.heap.size, o, none⟩) hz1).trans (hb1.frozen (p := ⟨w.heap.size, o, none⟩) (by simp))))
  refine bodyPost_ret (v := .agg #[.int .u8 (b0.toNat : Int), .int .u8 (b1.toNat : Int), .int .u8 (b2.toNat : Int), .int .u8 (b3.toNat : Int), .int .u8 (b4.toNat : Int), .int .u8 (b5.toNat : Int)]) (by simp [results, Try.results48, go_sem, *]) rfl ⟨rfl, ?_⟩
  have hbw : Below w.heap.size w w2 := (((Below.refl _ _).alloc (Nat.le_refl _) _).trans (hb1.mono (by simp))).trans (hb2.mono (Nat.le_of_lt hz1))
  go_grown
end Go.Proofs.Ythhodnkcaefnnaa
