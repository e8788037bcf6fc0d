/- The program's ArpBytes, EthRead; HasPrefix, HasSuffix. -/
import Derived.Test.YtjcjohapmaiecaaEthL
import Derived.Test.YtjcjohapmaiecaaClone
import Derived.Test.YtjcjohapmaiecaaLong
namespace Go.Proofs.Ytjcjohapmaiecaa
open Go.RowKit
attribute [local go_sem ↓] Go.wp_at_zero Go.wp_at_succ

abbrev Five (B : Nat) (v0 v1 v2 v3 v4 : Value) (w W : World) : Prop := W.cell? ⟨B, 0, none⟩ = some v0 ∧ W.cell? ⟨B, 1, none⟩ = some v1 ∧ W.cell? ⟨B, 2, none⟩ = some v2 ∧ W.cell? ⟨B, 3, none⟩ = some v3 ∧ W.cell? ⟨B, 4, none⟩ = some v4 ∧ W.frozen? ⟨B, 0, none⟩ = false ∧ W.frozen? ⟨B, 1, none⟩ = false ∧ W.frozen? ⟨B, 2, none⟩ = false ∧ W.frozen? ⟨B, 3, none⟩ = false ∧ W.frozen? ⟨B, 4, none⟩ = false ∧ Below w.heap.size w W
theorem Five.keep {B : Nat} {w W W' : World} {v0 v1 v2 v3 v4 : Value} (h : Five B v0 v1 v2 v3 v4 w W) (hb : Below W.heap.size W W') : Five B v0 v1 v2 v3 v4 w W' := by
  obtain ⟨h0, h1, h2, h3, h4, f0, f1, f2, f3, f4, hl⟩ := h
  have hB := World.block_lt_of_cell? W _ h0
  exact ⟨(hb.cell (p := ⟨B, 0, none⟩) hB).trans h0, (hb.cell (p := ⟨B, 1, none⟩) hB).trans h1, (hb.cell (p := ⟨B, 2, none⟩) hB).trans h2, (hb.cell (p := ⟨B, 3, none⟩) hB).trans h3, (hb.cell (p := ⟨B, 4, none⟩) hB).trans h4, (hb.frozen (p := ⟨B, 0, none⟩) hB).trans f0, (hb.frozen (p := ⟨B, 1, none⟩) hB).trans f1, (hb.frozen (p := ⟨B, 2, none⟩) hB).trans f2, (hb.frozen (p := ⟨B, 3, none⟩) hB).trans f3, (hb.frozen (p := ⟨B, 4, none⟩) hB).trans f4, hl.trans (hb.mono hl.size)⟩
abbrev Three (B : Nat) (v0 v1 v2 : Value) (w W : World) : Prop := W.cell? ⟨B, 0, none⟩ = some v0 ∧ W.cell? ⟨B, 1, none⟩ = some v1 ∧ W.cell? ⟨B, 2, none⟩ = some v2 ∧ W.frozen? ⟨B, 0, none⟩ = false ∧ W.frozen? ⟨B, 1, none⟩ = false ∧ W.frozen? ⟨B, 2, none⟩ = false ∧ Below w.heap.size w W
theorem Three.keep {B : Nat} {w W W' : World} {v0 v1 v2 : Value} (h : Three B v0 v1 v2 w W) (hb : Below W.heap.size W W') : Three B v0 v1 v2 w W' := by
  obtain ⟨h0, h1, h2, f0, f1, f2, hl⟩ := h
  have hB := World.block_lt_of_cell? W _ h0
  exact ⟨(hb.cell (p := ⟨B, 0, none⟩) hB).trans h0, (hb.cell (p := ⟨B, 1, none⟩) hB).trans h1, (hb.cell (p := ⟨B, 2, none⟩) hB).trans h2, (hb.frozen (p := ⟨B, 0, none⟩) hB).trans f0, (hb.frozen (p := ⟨B, 1, none⟩) hB).trans f1, (hb.frozen (p := ⟨B, 2, none⟩) hB).trans f2, hl.trans (hb.mono hl.size)⟩
abbrev Sixf (B : Nat) (v0 v1 v2 v3 v4 v5 : Value) (w W : World) : Prop := W.cell? ⟨B, 0, none⟩ = some v0 ∧ W.cell? ⟨B, 1, none⟩ = some v1 ∧ W.cell? ⟨B, 2, none⟩ = some v2 ∧ W.cell? ⟨B, 3, none⟩ = some v3 ∧ W.cell? ⟨B, 4, none⟩ = some v4 ∧ W.cell? ⟨B, 5, none⟩ = some v5 ∧ W.frozen? ⟨B, 0, none⟩ = false ∧ W.frozen? ⟨B, 1, none⟩ = false ∧ W.frozen? ⟨B, 2, none⟩ = false ∧ W.frozen? ⟨B, 3, none⟩ = false ∧ W.frozen? ⟨B, 4, none⟩ = false ∧ W.frozen? ⟨B, 5, none⟩ = false ∧ Below w.heap.size w W
theorem Sixf.keep {B : Nat} {w W W' : World} {v0 v1 v2 v3 v4 v5 : Value} (h : Sixf B v0 v1 v2 v3 v4 v5 w W) (hb : Below W.heap.size W W') : Sixf B v0 v1 v2 v3 v4 v5 w W' := by
  obtain ⟨h0, h1, h2, h3, h4, h5, f0, f1, f2, f3, f4, f5, hl⟩ := h
  have hB := World.block_lt_of_cell? W _ h0
  exact ⟨(hb.cell (p := ⟨B, 0, none⟩) hB).trans h0, (hb.cell (p := ⟨B, 1, none⟩) hB).trans h1, (hb.cell (p := ⟨B, 2, none⟩) hB).trans h2, (hb.cell (p := ⟨B, 3, none⟩) hB).trans h3, (hb.cell (p := ⟨B, 4, none⟩) hB).trans h4, (hb.cell (p := ⟨B, 5, none⟩) hB).trans h5, (hb.frozen (p := ⟨B, 0, none⟩) hB).trans f0, (hb.frozen (p := ⟨B, 1, none⟩) hB).trans f1, (hb.frozen (p := ⟨B, 2, none⟩) hB).trans f2, (hb.frozen (p := ⟨B, 3, none⟩) hB).trans f3, (hb.frozen (p := ⟨B, 4, none⟩) hB).trans f4, (hb.frozen (p := ⟨B, 5, none⟩) hB).trans f5, hl.trans (hb.mono hl.size)⟩

theorem be1 (n : Nat) : be 1 n = [UInt8.ofNat (n % 256)] := rfl
theorem arp_join (op : Int) (X Y : List UInt8) (h : inR op 1 2 = true) : strOf [0, 1, 8, 0, 6, 4, 0] ++ strOf (be 1 op.toNat) ++ strOf X ++ strOf Y = strOf ([0, 1, 8, 0, 6, 4] ++ (be 2 op.toNat ++ (X ++ Y))) := by
  have hb := inR_t h
  rw [app_strs, app_strs, app_strs, be1, be2, show op.toNat / 256 % 256 = 0 from by omega]
  simp only [List.append_assoc]; rfl
theorem arpB_no {op mac ip tm ti : Int} (h : arpOk op mac ip tm ti = false) : arpB op mac ip tm ti = ⟨#[]⟩ := by rw [arpB, h]; rfl
theorem arpOk_t {op mac ip tm ti : Int} (h : arpOk op mac ip tm ti = true) : inR op 1 2 = true ∧ isMac mac = true ∧ isMac tm = true ∧ isIp ip = true ∧ isIp ti = true := by
  simp only [arpOk, Bool.and_eq_true] at h; exact ⟨h.1.1.1.1, h.1.1.1.2, h.1.1.2, h.1.2, h.2⟩
set_option maxHeartbeats 2000000 in
theorem implArpBytes_any (op mac ip tm ti : Int) (w : World) :
    Calls Try.prog 15 #[arpV op mac ip tm ti] w fun e w' => e = .returned (.string (arpB op mac ip tm ti)) ∧ Below w.heap.size w w' := by
  have HRt := Lib.hid (fun W => arpRight_any op mac ip tm ti W)
  unfold arpV at HRt ⊢
  cases h1 : arpOk op mac ip tm ti
  · have HR := Lib.hid (arpB_no h1)
    rw [h1] at HRt
    go_enter Try.func15, Try.ntmps15
    go_wp2_with (go_at_call 49; refine (HRt.out _).mono ?_; rintro e w1 ⟨rfl, hb1⟩)
    go_ret
    exact ⟨str_ret HR.out.symm, ((Below.refl _ _).alloc (Nat.le_refl _) _).trans (hb1.mono (by simp))⟩
  · obtain ⟨m1, m2, m3, m4, m5⟩ := arpOk_t h1
    have HR := Lib.hid (arpB_0 m1 m2 m3 m4 m5)
    have HJ := Lib.hid m1
    rw [h1] at HRt
    have P1 : BeIs op 1 := .mk .one (by have := inR_t m1; omega) (by have := inR_t m1; omega)
    have M2 := Lib.hid m2
    have M3 := Lib.hid m3
    have M4 := Lib.hid m4
    have M5 := Lib.hid m5
    have c1 : ¬ 9223372036854775807 < (⟨#[0, 1, 8, 0, 6, 4, 0]⟩ : ByteArray).size + (strOf (be 1 op.toNat)).size := by rw [strOf_size, be_length]; show ¬ _ < 7 + 1; omega
    have d1 : ¬ 9223372036854775807 < 7 + (strOf (be 1 op.toNat)).size := by rw [strOf_size, be_length]; omega
    have c2 : ¬ 9223372036854775807 < (⟨#[0, 1, 8, 0, 6, 4, 0]⟩ : ByteArray).size + (strOf (be 1 op.toNat)).size + (strOf (be 6 mac.toNat ++ be 4 ip.toNat)).size := by rw [strOf_size, be_length, strOf_size, List.length_append, be_length, be_length]; show ¬ _ < 7 + 1 + _; omega
    have d2 : ¬ 9223372036854775807 < 7 + (strOf (be 1 op.toNat)).size + (strOf (be 6 mac.toNat ++ be 4 ip.toNat)).size := by rw [strOf_size, be_length, strOf_size, List.length_append, be_length, be_length]; omega
    have c3 : ¬ 9223372036854775807 < (⟨#[0, 1, 8, 0, 6, 4, 0]⟩ : ByteArray).size + (strOf (be 1 op.toNat)).size + (strOf (be 6 mac.toNat ++ be 4 ip.toNat)).size + (strOf (be 6 tm.toNat ++ be 4 ti.toNat)).size := by rw [strOf_size, be_length, strOf_size, List.length_append, be_length, be_length, strOf_size, List.length_append, be_length, be_length]; show ¬ _ < 7 + 1 + _ + _; omega
    have d3 : ¬ 9223372036854775807 < 7 + (strOf (be 1 op.toNat)).size + (strOf (be 6 mac.toNat ++ be 4 ip.toNat)).size + (strOf (be 6 tm.toNat ++ be 4 ti.toNat)).size := by rw [strOf_size, be_length, strOf_size, List.length_append, be_length, be_length, strOf_size, List.length_append, be_length, be_length]; omega
    clear m1 m2 m3 m4 m5
    go_enter Try.func15, Try.ntmps15
    go_wp2_with (go_at_call 49; refine (HRt.out _).mono ?_; rintro e w1 ⟨rfl, hb1⟩)
    have S0 : w1.drew.cell? ⟨w.heap.size, 0, none⟩ = some (.int .i64 op) ∧ w1.drew.cell? ⟨w.heap.size, 1, none⟩ = some (.int .i64 mac) ∧ w1.drew.cell? ⟨w.heap.size, 2, none⟩ = some (.int .i64 ip) ∧ w1.drew.cell? ⟨w.heap.size, 3, none⟩ = some (.int .i64 tm) ∧ w1.drew.cell? ⟨w.heap.size, 4, none⟩ = some (.int .i64 ti) ∧ Below w.heap.size w w1.drew := by
      have S1 := keep5 (B := w.heap.size) (w := w) (W := w.alloc (.cells #[.int .i64 op, .int .i64 mac, .int .i64 ip, .int .i64 tm, .int .i64 ti] 27)) (v0 := .int .i64 op) (v1 := .int .i64 mac) (v2 := .int .i64 ip) (v3 := .int .i64 tm) (v4 := .int .i64 ti) ⟨by simp, by simp, by simp, by simp, by simp, (Below.refl _ _).alloc (Nat.le_refl _) _⟩ hb1
      exact ⟨S1.1, S1.2.1, S1.2.2.1, S1.2.2.2.1, S1.2.2.2.2.1, S1.2.2.2.2.2.drew⟩
    clear hb1
    go_region_held3 (fun w' => w'.cell? ⟨w.heap.size, 0, none⟩ = some (.int .i64 op) ∧ w'.cell? ⟨w.heap.size, 1, none⟩ = some (.int .i64 mac) ∧ w'.cell? ⟨w.heap.size, 2, none⟩ = some (.int .i64 ip) ∧ w'.cell? ⟨w.heap.size, 3, none⟩ = some (.int .i64 tm) ∧ w'.cell? ⟨w.heap.size, 4, none⟩ = some (.int .i64 ti) ∧ Below w.heap.size w w') (first | exact S0)
      (first | (go_at_call 48; refine (implBe_is _ _ _ P1).mono ?_; rintro e w1 ⟨rfl, hb1⟩; replace S0 := keep5 S0 hb1; clear hb1) | (go_at_call 50; refine (ownerBytes_any _ _ _ ?_ ?_).mono ?_; (first | exact M2.out | exact M3.out); (first | exact M4.out | exact M5.out); rintro e w1 ⟨rfl, hb1⟩; replace S0 := keep5 S0 hb1; clear hb1))
    go_wp2
    go_ret
    exact ⟨str_ret (by rw [HR.out, show (⟨#[0, 1, 8, 0, 6, 4, 0]⟩ : ByteArray) = strOf [0, 1, 8, 0, 6, 4, 0] from rfl]; exact (arp_join op _ _ HJ.out).trans (by simp only [List.append_assoc])), S0.2.2.2.2.2⟩

end Go.Proofs.Ytjcjohapmaiecaa
