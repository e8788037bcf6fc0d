/- The law of chapter 3: its walk. -/
import Derived.Test.YtjcjohapmaiecaaFrM
import Derived.Test.YtjcjohapmaiecaaDraw10
import Derived.Test.YtjcjohapmaiecaaEthU
import Derived.Deep.Cut
import Derived.Deep.CutRange
import Derived.Outline
import Derived.Deep.QuietTactic
import Derived.BigQuiet
namespace Go.Proofs.Ytjcjohapmaiecaa
open Go.RowKit
attribute [local go_sem ↓] Go.wp_at_zero Go.wp_at_succ

abbrev Fr2 (w W : World) (P : Nat) (ta fr k : Int) (b : ByteArray) (op mac ip tm ti : Int) : Prop := W.cell? ⟨P, 0, none⟩ = some (.int .i64 ta) ∧ W.cell? ⟨P, 1, none⟩ = some (.int .i64 fr) ∧ W.cell? ⟨P, 2, none⟩ = some (.int .i64 k) ∧ W.cell? ⟨P, 3, none⟩ = some (.string b) ∧ W.cell? ⟨(P + 1), 0, none⟩ = some (.int .i64 op) ∧ W.cell? ⟨(P + 1), 1, none⟩ = some (.int .i64 mac) ∧ W.cell? ⟨(P + 1), 2, none⟩ = some (.int .i64 ip) ∧ W.cell? ⟨(P + 1), 3, none⟩ = some (.int .i64 tm) ∧ W.cell? ⟨(P + 1), 4, none⟩ = some (.int .i64 ti) ∧ Below w.heap.size w W
theorem Fr2.keep {w W W' : World} {P : Nat} {ta fr k : Int} {b : ByteArray} {op mac ip tm ti : Int} (h : Fr2 w W P ta fr k b op mac ip tm ti) (hb : Below W.heap.size W W') : Fr2 w W' P ta fr k b op mac ip tm ti := by
  obtain ⟨h0, h1, h2, h3, h4, h5, h6, h7, h8, hl⟩ := h
  exact ⟨(hb.cell (p := ⟨P, 0, none⟩) (World.block_lt_of_cell? W _ h0)).trans h0, (hb.cell (p := ⟨P, 1, none⟩) (World.block_lt_of_cell? W _ h1)).trans h1, (hb.cell (p := ⟨P, 2, none⟩) (World.block_lt_of_cell? W _ h2)).trans h2, (hb.cell (p := ⟨P, 3, none⟩) (World.block_lt_of_cell? W _ h3)).trans h3, (hb.cell (p := ⟨(P + 1), 0, none⟩) (World.block_lt_of_cell? W _ h4)).trans h4, (hb.cell (p := ⟨(P + 1), 1, none⟩) (World.block_lt_of_cell? W _ h5)).trans h5, (hb.cell (p := ⟨(P + 1), 2, none⟩) (World.block_lt_of_cell? W _ h6)).trans h6, (hb.cell (p := ⟨(P + 1), 3, none⟩) (World.block_lt_of_cell? W _ h7)).trans h7, (hb.cell (p := ⟨(P + 1), 4, none⟩) (World.block_lt_of_cell? W _ h8)).trans h8, hl.trans (hb.mono hl.size)⟩
theorem Fr2.low {w W : World} {P : Nat} {ta fr k : Int} {b : ByteArray} {op mac ip tm ti : Int} (h : Fr2 w W P ta fr k b op mac ip tm ti) : Below w.heap.size w W := by
  obtain ⟨_, _, _, _, _, _, _, _, _, hl⟩ := h
  exact hl
theorem Fr2.drew {w W : World} {P : Nat} {ta fr k : Int} {b : ByteArray} {op mac ip tm ti : Int} (h : Fr2 w W P ta fr k b op mac ip tm ti) : Fr2 w W.drew P ta fr k b op mac ip tm ti := by
  obtain ⟨h0, h1, h2, h3, h4, h5, h6, h7, h8, hl⟩ := h
  exact ⟨h0, h1, h2, h3, h4, h5, h6, h7, h8, hl.drew⟩
theorem Fr2.drewN {w W : World} {P : Nat} {ta fr k : Int} {b : ByteArray} {op mac ip tm ti : Int} (h : Fr2 w W P ta fr k b op mac ip tm ti) (n : Nat) : Fr2 w (W.drewN n) P ta fr k b op mac ip tm ti := by
  obtain ⟨h0, h1, h2, h3, h4, h5, h6, h7, h8, hl⟩ := h
  exact ⟨h0, h1, h2, h3, h4, h5, h6, h7, h8, dn hl n⟩
abbrev Fr5 (w W : World) (P R : Nat) (ta fr k : Int) (b : ByteArray) (op mac ip tm ti : Int) (X0 X1 X2 : Int) (Xb : ByteArray) (Xc Y0 Y1 Y2 Y3 Y4 Yc Z0 : Int) (Zt : ByteArray) (Zc : Int) : Prop := W.cell? ⟨P, 0, none⟩ = some (.int .i64 ta) ∧ W.cell? ⟨P, 1, none⟩ = some (.int .i64 fr) ∧ W.cell? ⟨P, 2, none⟩ = some (.int .i64 k) ∧ W.cell? ⟨P, 3, none⟩ = some (.string b) ∧ W.cell? ⟨(P + 1), 0, none⟩ = some (.int .i64 op) ∧ W.cell? ⟨(P + 1), 1, none⟩ = some (.int .i64 mac) ∧ W.cell? ⟨(P + 1), 2, none⟩ = some (.int .i64 ip) ∧ W.cell? ⟨(P + 1), 3, none⟩ = some (.int .i64 tm) ∧ W.cell? ⟨(P + 1), 4, none⟩ = some (.int .i64 ti) ∧ W.cell? ⟨R, 0, none⟩ = some (.int .i64 X0) ∧ W.cell? ⟨R, 1, none⟩ = some (.int .i64 X1) ∧ W.cell? ⟨R, 2, none⟩ = some (.int .i64 X2) ∧ W.cell? ⟨R, 3, none⟩ = some (.string Xb) ∧ W.cell? ⟨R, 4, none⟩ = some (.int .i64 Xc) ∧ W.cell? ⟨(R + 1), 0, none⟩ = some (.int .i64 Y0) ∧ W.cell? ⟨(R + 1), 1, none⟩ = some (.int .i64 Y1) ∧ W.cell? ⟨(R + 1), 2, none⟩ = some (.int .i64 Y2) ∧ W.cell? ⟨(R + 1), 3, none⟩ = some (.int .i64 Y3) ∧ W.cell? ⟨(R + 1), 4, none⟩ = some (.int .i64 Y4) ∧ W.cell? ⟨(R + 1), 5, none⟩ = some (.int .i64 Yc) ∧ W.cell? ⟨(R + 1 + 1), 0, none⟩ = some (.int .i64 Z0) ∧ W.cell? ⟨(R + 1 + 1), 1, none⟩ = some (.string Zt) ∧ W.cell? ⟨(R + 1 + 1), 2, none⟩ = some (.int .i64 Zc) ∧ Below w.heap.size w W
theorem Fr5.keep {w W W' : World} {P R : Nat} {ta fr k : Int} {b : ByteArray} {op mac ip tm ti : Int} {X0 X1 X2 : Int} {Xb : ByteArray} {Xc Y0 Y1 Y2 Y3 Y4 Yc Z0 : Int} {Zt : ByteArray} {Zc : Int} (h : Fr5 w W P R ta fr k b op mac ip tm ti X0 X1 X2 Xb Xc Y0 Y1 Y2 Y3 Y4 Yc Z0 Zt Zc) (hb : Below W.heap.size W W') : Fr5 w W' P R ta fr k b op mac ip tm ti X0 X1 X2 Xb Xc Y0 Y1 Y2 Y3 Y4 Yc Z0 Zt Zc := by
  obtain ⟨h0, h1, h2, h3, h4, h5, h6, h7, h8, h9, h10, h11, h12, h13, h14, h15, h16, h17, h18, h19, h20, h21, h22, hl⟩ := h
  exact ⟨(hb.cell (p := ⟨P, 0, none⟩) (World.block_lt_of_cell? W _ h0)).trans h0, (hb.cell (p := ⟨P, 1, none⟩) (World.block_lt_of_cell? W _ h1)).trans h1, (hb.cell (p := ⟨P, 2, none⟩) (World.block_lt_of_cell? W _ h2)).trans h2, (hb.cell (p := ⟨P, 3, none⟩) (World.block_lt_of_cell? W _ h3)).trans h3, (hb.cell (p := ⟨(P + 1), 0, none⟩) (World.block_lt_of_cell? W _ h4)).trans h4, (hb.cell (p := ⟨(P + 1), 1, none⟩) (World.block_lt_of_cell? W _ h5)).trans h5, (hb.cell (p := ⟨(P + 1), 2, none⟩) (World.block_lt_of_cell? W _ h6)).trans h6, (hb.cell (p := ⟨(P + 1), 3, none⟩) (World.block_lt_of_cell? W _ h7)).trans h7, (hb.cell (p := ⟨(P + 1), 4, none⟩) (World.block_lt_of_cell? W _ h8)).trans h8, (hb.cell (p := ⟨R, 0, none⟩) (World.block_lt_of_cell? W _ h9)).trans h9, (hb.cell (p := ⟨R, 1, none⟩) (World.block_lt_of_cell? W _ h10)).trans h10, (hb.cell (p := ⟨R, 2, none⟩) (World.block_lt_of_cell? W _ h11)).trans h11, (hb.cell (p := ⟨R, 3, none⟩) (World.block_lt_of_cell? W _ h12)).trans h12, (hb.cell (p := ⟨R, 4, none⟩) (World.block_lt_of_cell? W _ h13)).trans h13, (hb.cell (p := ⟨(R + 1), 0, none⟩) (World.block_lt_of_cell? W _ h14)).trans h14, (hb.cell (p := ⟨(R + 1), 1, none⟩) (World.block_lt_of_cell? W _ h15)).trans h15, (hb.cell (p := ⟨(R + 1), 2, none⟩) (World.block_lt_of_cell? W _ h16)).trans h16, (hb.cell (p := ⟨(R + 1), 3, none⟩) (World.block_lt_of_cell? W _ h17)).trans h17, (hb.cell (p := ⟨(R + 1), 4, none⟩) (World.block_lt_of_cell? W _ h18)).trans h18, (hb.cell (p := ⟨(R + 1), 5, none⟩) (World.block_lt_of_cell? W _ h19)).trans h19, (hb.cell (p := ⟨(R + 1 + 1), 0, none⟩) (World.block_lt_of_cell? W _ h20)).trans h20, (hb.cell (p := ⟨(R + 1 + 1), 1, none⟩) (World.block_lt_of_cell? W _ h21)).trans h21, (hb.cell (p := ⟨(R + 1 + 1), 2, none⟩) (World.block_lt_of_cell? W _ h22)).trans h22, hl.trans (hb.mono hl.size)⟩
theorem Fr5.low {w W : World} {P R : Nat} {ta fr k : Int} {b : ByteArray} {op mac ip tm ti : Int} {X0 X1 X2 : Int} {Xb : ByteArray} {Xc Y0 Y1 Y2 Y3 Y4 Yc Z0 : Int} {Zt : ByteArray} {Zc : Int} (h : Fr5 w W P R ta fr k b op mac ip tm ti X0 X1 X2 Xb Xc Y0 Y1 Y2 Y3 Y4 Yc Z0 Zt Zc) : Below w.heap.size w W := by
  obtain ⟨_, _, _, _, _, _, _, _, _, _, _, _, _, _, _, _, _, _, _, _, _, _, _, hl⟩ := h
  exact hl
theorem Fr5.drew {w W : World} {P R : Nat} {ta fr k : Int} {b : ByteArray} {op mac ip tm ti : Int} {X0 X1 X2 : Int} {Xb : ByteArray} {Xc Y0 Y1 Y2 Y3 Y4 Yc Z0 : Int} {Zt : ByteArray} {Zc : Int} (h : Fr5 w W P R ta fr k b op mac ip tm ti X0 X1 X2 Xb Xc Y0 Y1 Y2 Y3 Y4 Yc Z0 Zt Zc) : Fr5 w W.drew P R ta fr k b op mac ip tm ti X0 X1 X2 Xb Xc Y0 Y1 Y2 Y3 Y4 Yc Z0 Zt Zc := by
  obtain ⟨h0, h1, h2, h3, h4, h5, h6, h7, h8, h9, h10, h11, h12, h13, h14, h15, h16, h17, h18, h19, h20, h21, h22, hl⟩ := h
  exact ⟨h0, h1, h2, h3, h4, h5, h6, h7, h8, h9, h10, h11, h12, h13, h14, h15, h16, h17, h18, h19, h20, h21, h22, hl.drew⟩
theorem Fr5.drewN {w W : World} {P R : Nat} {ta fr k : Int} {b : ByteArray} {op mac ip tm ti : Int} {X0 X1 X2 : Int} {Xb : ByteArray} {Xc Y0 Y1 Y2 Y3 Y4 Yc Z0 : Int} {Zt : ByteArray} {Zc : Int} (h : Fr5 w W P R ta fr k b op mac ip tm ti X0 X1 X2 Xb Xc Y0 Y1 Y2 Y3 Y4 Yc Z0 Zt Zc) (n : Nat) : Fr5 w (W.drewN n) P R ta fr k b op mac ip tm ti X0 X1 X2 Xb Xc Y0 Y1 Y2 Y3 Y4 Yc Z0 Zt Zc := by
  obtain ⟨h0, h1, h2, h3, h4, h5, h6, h7, h8, h9, h10, h11, h12, h13, h14, h15, h16, h17, h18, h19, h20, h21, h22, hl⟩ := h
  exact ⟨h0, h1, h2, h3, h4, h5, h6, h7, h8, h9, h10, h11, h12, h13, h14, h15, h16, h17, h18, h19, h20, h21, h22, dn hl n⟩

theorem odd_byte (n : Nat) : Value.bool (!(decide (n % 2 = 1) == (((n : Nat) : Int).tmod 2 == 1))) = Value.bool false := by
  have e : ((n : Nat) : Int).tmod 2 = ((n % 2 : Nat) : Int) := by rw [Int.tmod_eq_emod_of_nonneg (by omega)]; omega
  rw [e]
  rcases (by omega : n % 2 = 0 ∨ n % 2 = 1) with h | h <;> rw [h] <;> rfl
theorem empty_f {p : ByteArray} (h : (p.toList == (⟨#[]⟩ : ByteArray).toList) = false) : (p.toList == []) = false ∧ ¬ p.toList = [] := by
  rw [show (⟨#[]⟩ : ByteArray).toList = [] from by rw [Lib.toList_data]] at h
  exact ⟨h, fun e => by rw [e] at h; cases h⟩
theorem empty_t {p : ByteArray} (h : (p.toList == (⟨#[]⟩ : ByteArray).toList) = true) : (p.toList == []) = true ∧ p.toList = [] := by
  rw [show (⟨#[]⟩ : ByteArray).toList = [] from by rw [Lib.toList_data]] at h
  exact ⟨h, by simpa using h⟩
theorem equal36 (X0 X1 X2 : Int) (Xb : ByteArray) (Xc : Int) (w : World) : (Op.equalIn 10000 36 (.agg #[.int .i64 X0, .int .i64 X1, .int .i64 X2, .string Xb, .int .i64 Xc]) (.agg #[.int .i64 X0, .int .i64 X1, .int .i64 X2, .string Xb, .int .i64 Xc])).run Try.prog w = .ok true w := by
  rw [show (10000 : Nat) = 9999 + 1 from rfl]
  go_simp
theorem equal39 (Y0 Y1 Y2 Y3 Y4 Yc : Int) (w : World) : (Op.equalIn 10000 39 (.agg #[.int .i64 Y0, .int .i64 Y1, .int .i64 Y2, .int .i64 Y3, .int .i64 Y4, .int .i64 Yc]) (.agg #[.int .i64 Y0, .int .i64 Y1, .int .i64 Y2, .int .i64 Y3, .int .i64 Y4, .int .i64 Yc])).run Try.prog w = .ok true w := by
  rw [show (10000 : Nat) = 9999 + 1 from rfl]
  go_simp
theorem equal42 (Z0 : Int) (Zt : ByteArray) (Zc : Int) (w : World) : (Op.equalIn 10000 42 (.agg #[.int .i64 Z0, .string Zt, .int .i64 Zc]) (.agg #[.int .i64 Z0, .string Zt, .int .i64 Zc])).run Try.prog w = .ok true w := by
  rw [show (10000 : Nat) = 9999 + 1 from rfl]
  go_simp

set_option maxRecDepth 100000 in
set_option maxHeartbeats 20000000 in
theorem fnFrames_main (a0 a1 : Option Addr) (len0 cap0 len1 cap1 : Nat) (w : World) (hy0 : BytesAt w a0 len0) (hy1 : BytesAt w a1 len1) (hl0 : len0 ≤ 1048576) (hl1 : len1 ≤ 1048576) :
    Calls Try.prog 3 #[.slice a0 len0 cap0, .slice a1 len1 cap1] w fun e w' => e = .returned (.bool true) ∧ Below w.heap.size w w' := by
  have HY0 := Lib.hid hy0; clear hy0
  have HY1 := Lib.hid hy1; clear hy1
  have t0 : decide ((1048576 : Int) < len0) = false := by simp; omega
  have t1 : decide ((1048576 : Int) < len1) = false := by simp; omega
  go_enter Try.func3, Try.ntmps3
  go_wp2_with fail
  refine (draw_ethBytes hl0 HY0.out).mono ?_
  rintro e w1 ⟨ta, fr, k, b, rfl, i1, i2, i3, hbs, hb1⟩
  have HB := Lib.hid hb1; clear hb1
  unfold ethV
  go_wp2_with fail
  refine (draw_arpBytes hl0 (HY0.out.below HB.out)).mono ?_
  rintro e w2 ⟨op, mac, ip, tm, ti, rfl, _, _, _, _, _, hb2⟩
  replace HB := Lib.hid (HB.out.trans (hb2.mono HB.out.size)); clear hb2
  go_wp2_with fail
  obtain ⟨P, hP⟩ : ∃ P, P = w2.heap.size := ⟨_, rfl⟩
  rw [← hP]
  obtain ⟨W, hW⟩ : ∃ W, W = (w2.alloc (.cells #[.int .i64 ta, .int .i64 fr, .int .i64 k, .string b] 24)).alloc (.cells #[.int .i64 op, .int .i64 mac, .int .i64 ip, .int .i64 tm, .int .i64 ti] 27) := ⟨_, rfl⟩
  have S0 : Fr2 w W P ta fr k b op mac ip tm ti := by
    subst hW hP
    exact ⟨by simp, by simp, by simp, by simp, by simp, by simp, by simp, by simp, by simp, (HB.out.alloc HB.out.size _).alloc (by have := HB.out.size; simp; omega) _⟩
  rw [← hW]
  clear hW hP HB
  refine (draw_vxBytes hl0 (HY0.out.below S0.low)).mono ?_
  rintro e w3 ⟨vni, l, rfl, _, hll, hb3⟩
  replace S0 := S0.keep hb3; clear hb3
  have hl75 : (strOf l).size ≤ maxLen := by rw [strOf_size]; unfold maxLen; omega
  generalize strOf l = tx at *
  have HE1 := Lib.hid (fun W => implEthBytes_any ta fr k b W (by unfold maxLen; omega))
  have HE2 := Lib.hid (fun W => implArpBytes_any op mac ip tm ti W)
  have HE3 := Lib.hid (fun W => implVxBytes_any vni tx W hl75)
  have SE1 := Lib.hid (fun W => specEthBytes_any ta fr k b W (by unfold maxLen; omega))
  have SE2 := Lib.hid (fun W => specArpBytes_any op mac ip tm ti W)
  have SE3 := Lib.hid (fun W => specVxBytes_any vni tx W hl75)
  have F1 := Lib.hid (eth_full ta fr k b)
  have F2 := Lib.hid (arp_full op mac ip tm ti)
  have F3 := Lib.hid (vx_full vni tx)
  have hz1 := eth_small ta fr k b
  have hz2 := arp_small op mac ip tm ti
  have hz3 := vx_small vni tx
  unfold ethV at HE1 SE1
  unfold arpV at HE2 SE2
  generalize ethB ta fr k b = p at HE1 SE1 F1 hz1
  generalize arpB op mac ip tm ti = q at HE2 SE2 F2 hz2
  generalize vxB vni tx = r at HE3 SE3 F3 hz3
  go_wp2_with fail
  have S1 : Fr2 w w3.drew P ta fr k b op mac ip tm ti := ⟨S0.1, S0.2.1, S0.2.2.1, S0.2.2.2.1, S0.2.2.2.2.1, S0.2.2.2.2.2.1, S0.2.2.2.2.2.2.1, S0.2.2.2.2.2.2.2.1, S0.2.2.2.2.2.2.2.2.1, S0.low.drew⟩
  clear S0
  go_region_held3 (fun W' => Fr2 w W' P ta fr k b op mac ip tm ti) (first | exact S1)
    (first | (go_at_call 14; refine (HE1.out _).mono ?_; rintro e w4 ⟨rfl, hb4⟩; replace S1 := S1.keep hb4; clear hb4) | (go_at_call 15; refine (HE2.out _).mono ?_; rintro e w4 ⟨rfl, hb4⟩; replace S1 := S1.keep hb4; clear hb4) | (go_at_call 16; refine (HE3.out _).mono ?_; rintro e w4 ⟨rfl, hb4⟩; replace S1 := S1.keep hb4; clear hb4))
  go_wp2_with fail
  refine (draw_ethRead hl1 (HY1.out.below S1.low)).mono ?_
  rintro e w5 ⟨u, rfl, hu, hb5⟩
  replace S1 := S1.keep hb5; clear hb5
  go_wp2_with fail
  refine (draw_arpRead hl1 (HY1.out.below S1.low)).mono ?_
  rintro e w6 ⟨v, rfl, hv, hb6⟩
  replace S1 := S1.keep hb6; clear hb6
  go_wp2_with fail
  refine (draw_vxRead hl1 (HY1.out.below S1.low)).mono ?_
  rintro e w7 ⟨t, rfl, ht, hb7⟩
  replace S1 := S1.keep hb7; clear hb7
  obtain ⟨X0, X1, X2, Xb, Xc, hX, hXb, hX0⟩ := eth_shapes u hu
  obtain ⟨Y0, Y1, Y2, Y3, Y4, Yc, hY, hY0⟩ := arp_shapes v hv
  obtain ⟨Z0, Zt, Zc, hZ, hZt, hZ0⟩ := vx_shapes t ht
  have R1 := Lib.hid (fun W => implEthRead_any u W (by unfold maxLen; omega))
  have R2 := Lib.hid (fun W => implArpRead_any v W (by unfold maxLen; omega))
  have R3 := Lib.hid (fun W => implVxRead_any t W (by unfold maxLen; omega))
  have Q1 := Lib.hid (fun W => specEthRead_any u W (by unfold maxLen; omega))
  have Q2 := Lib.hid (fun W => specArpRead_any v W (by unfold maxLen; omega))
  have Q3 := Lib.hid (fun W => specVxRead_any t W (by unfold maxLen; omega))
  rw [hX] at R1 Q1
  rw [hY] at R2 Q2
  rw [hZ] at R3 Q3
  unfold ethOutV at R1 Q1
  unfold arpOutV at R2 Q2
  unfold vxOutV at R3 Q3
  have KX := Lib.hid hX0
  have KY := Lib.hid hY0
  have KZ := Lib.hid hZ0
  clear hX hY hZ hX0 hY0 hZ0
  go_wp2_with (first | (go_at_call 20; refine (R1.out _).mono ?_; rintro e w8 ⟨rfl, hb8⟩; replace S1 := S1.keep hb8; clear hb8) | (go_at_call 21; refine (R2.out _).mono ?_; rintro e w9 ⟨rfl, hb9⟩; replace S1 := S1.keep hb9; clear hb9) | (go_at_call 22; refine (R3.out _).mono ?_; rintro e w10 ⟨rfl, hb10⟩; replace S1 := S1.keep hb10; clear hb10))
  obtain ⟨R, hR⟩ : ∃ R, R = w10.heap.size := ⟨_, rfl⟩
  rw [← hR]
  obtain ⟨W, hW⟩ : ∃ W, W = ((w10.alloc (.cells #[.int .i64 X0, .int .i64 X1, .int .i64 X2, .string Xb, .int .i64 Xc] 36)).alloc (.cells #[.int .i64 Y0, .int .i64 Y1, .int .i64 Y2, .int .i64 Y3, .int .i64 Y4, .int .i64 Yc] 39)).alloc (.cells #[.int .i64 Z0, .string Zt, .int .i64 Zc] 42) := ⟨_, rfl⟩
  have hbW : Below w10.heap.size w10 W := by subst hW; go_grown
  have S2 := S1.keep hbW
  have S0 : Fr5 w W P R ta fr k b op mac ip tm ti X0 X1 X2 Xb Xc Y0 Y1 Y2 Y3 Y4 Yc Z0 Zt Zc := by
    obtain ⟨g0, g1, g2, g3, g4, g5, g6, g7, g8, gl⟩ := S2
    refine ⟨g0, g1, g2, g3, g4, g5, g6, g7, g8, ?_, ?_, ?_, ?_, ?_, ?_, ?_, ?_, ?_, ?_, ?_, ?_, ?_, ?_, gl⟩ <;> (subst hW hR; simp [go_sem])
  clear S1 S2 hbW
  rw [← hW]
  clear hW hR
  refine (draw_isGroup hl1 (HY1.out.below S0.low)).mono ?_
  rintro e w11 ⟨m, rfl, _, hb11⟩
  replace S0 := S0.keep hb11; clear hb11
  have G1 := Lib.hid (fun W => implIsGroup_any m W)
  have G2 := Lib.hid (fun W => specIsGroup_any m W)
  generalize isGroup m = gm at G1 G2
  have q36 := equal36 X0 X1 X2 Xb Xc
  have q39 := equal39 Y0 Y1 Y2 Y3 Y4 Yc
  have q42 := equal42 Z0 Zt Zc
  go_upto_region 9 with fail
  go_cut [98] from 19 (fun s98 wx => s98 = .bool false ∧ Fr5 w wx P R ta fr k b op mac ip tm ti X0 X1 X2 Xb Xc Y0 Y1 Y2 Y3 Y4 Yc Z0 Zt Zc)
  case first =>
    as_aux_lemma =>
      replace S0 := S0.drew
      go_region_held3 (fun W' => Fr5 w W' P R ta fr k b op mac ip tm ti X0 X1 X2 Xb Xc Y0 Y1 Y2 Y3 Y4 Yc Z0 Zt Zc) (first | exact S0)
        (first | (go_at_call 24; refine (SE1.out _).mono ?_; rintro e w4 ⟨rfl, hb4⟩; replace S0 := S0.keep hb4; clear hb4) | (go_at_call 25; refine (SE2.out _).mono ?_; rintro e w4 ⟨rfl, hb4⟩; replace S0 := S0.keep hb4; clear hb4) | (go_at_call 26; refine (SE3.out _).mono ?_; rintro e w4 ⟨rfl, hb4⟩; replace S0 := S0.keep hb4; clear hb4) | (go_at_call 27; refine (Q1.out _).mono ?_; rintro e w4 ⟨rfl, hb4⟩; replace S0 := S0.keep hb4; clear hb4) | (go_at_call 28; refine (Q2.out _).mono ?_; rintro e w4 ⟨rfl, hb4⟩; replace S0 := S0.keep hb4; clear hb4) | (go_at_call 29; refine (Q3.out _).mono ?_; rintro e w4 ⟨rfl, hb4⟩; replace S0 := S0.keep hb4; clear hb4) | (go_at_call 30; refine (G1.out _).mono ?_; rintro e w4 ⟨rfl, hb4⟩; replace S0 := S0.keep hb4; clear hb4) | (go_at_call 31; refine (G2.out _).mono ?_; rintro e w4 ⟨rfl, rfl⟩))
      all_goals
        go_wp2_with fail
        go_meet
        exact ⟨rfl, S0⟩
  case rest =>
  obtain ⟨rfl, S9⟩ := hcut
  clear S0
  have I1 := Lib.hid (fun W => implEthBytes_any X0 X1 X2 Xb W hXb)
  have I2 := Lib.hid (fun W => implArpBytes_any Y0 Y1 Y2 Y3 Y4 W)
  have I3 := Lib.hid (fun W => implVxBytes_any Z0 Zt W hZt)
  unfold ethV at I1
  unfold arpV at I2
  go_upto_region 11 with fail
  go_cut [134] from 19 (fun s134 wx => s134 = .bool false ∧ Fr5 w wx P R ta fr k b op mac ip tm ti X0 X1 X2 Xb Xc Y0 Y1 Y2 Y3 Y4 Yc Z0 Zt Zc)
  case first =>
    by_cases hx : Xc = 0
    · obtain ⟨eX, _⟩ := KX.out hx
      rw [eX] at I1
      subst hx
      by_cases hy : Yc = 0
      · have eY := KY.out hy
        rw [eY] at I2
        subst hy
        by_cases hz : Zc = 0
        · have eZ := KZ.out hz
          rw [eZ] at I3
          subst hz
          clear eX eY eZ
          as_aux_lemma =>
            go_wp2_with (first | (go_at_call 14; refine (I1.out _).mono ?_; rintro e w4 ⟨rfl, hb4⟩; replace S9 := S9.keep hb4; clear hb4) | (go_at_call 15; refine (I2.out _).mono ?_; rintro e w4 ⟨rfl, hb4⟩; replace S9 := S9.keep hb4; clear hb4) | (go_at_call 16; refine (I3.out _).mono ?_; rintro e w4 ⟨rfl, hb4⟩; replace S9 := S9.keep hb4; clear hb4))
            go_meet
            exact ⟨rfl, S9⟩
        · clear eX eY
          as_aux_lemma =>
            go_wp2_with (first | (go_at_call 14; refine (I1.out _).mono ?_; rintro e w4 ⟨rfl, hb4⟩; replace S9 := S9.keep hb4; clear hb4) | (go_at_call 15; refine (I2.out _).mono ?_; rintro e w4 ⟨rfl, hb4⟩; replace S9 := S9.keep hb4; clear hb4) | (go_at_call 16; refine (I3.out _).mono ?_; rintro e w4 ⟨rfl, hb4⟩; replace S9 := S9.keep hb4; clear hb4))
            go_meet
            exact ⟨rfl, S9⟩
      · by_cases hz : Zc = 0
        · have eZ := KZ.out hz
          rw [eZ] at I3
          subst hz
          clear eX eZ
          as_aux_lemma =>
            go_wp2_with (first | (go_at_call 14; refine (I1.out _).mono ?_; rintro e w4 ⟨rfl, hb4⟩; replace S9 := S9.keep hb4; clear hb4) | (go_at_call 15; refine (I2.out _).mono ?_; rintro e w4 ⟨rfl, hb4⟩; replace S9 := S9.keep hb4; clear hb4) | (go_at_call 16; refine (I3.out _).mono ?_; rintro e w4 ⟨rfl, hb4⟩; replace S9 := S9.keep hb4; clear hb4))
            go_meet
            exact ⟨rfl, S9⟩
        · clear eX
          as_aux_lemma =>
            go_wp2_with (first | (go_at_call 14; refine (I1.out _).mono ?_; rintro e w4 ⟨rfl, hb4⟩; replace S9 := S9.keep hb4; clear hb4) | (go_at_call 15; refine (I2.out _).mono ?_; rintro e w4 ⟨rfl, hb4⟩; replace S9 := S9.keep hb4; clear hb4) | (go_at_call 16; refine (I3.out _).mono ?_; rintro e w4 ⟨rfl, hb4⟩; replace S9 := S9.keep hb4; clear hb4))
            go_meet
            exact ⟨rfl, S9⟩
    · by_cases hy : Yc = 0
      · have eY := KY.out hy
        rw [eY] at I2
        subst hy
        by_cases hz : Zc = 0
        · have eZ := KZ.out hz
          rw [eZ] at I3
          subst hz
          clear eY eZ
          as_aux_lemma =>
            go_wp2_with (first | (go_at_call 14; refine (I1.out _).mono ?_; rintro e w4 ⟨rfl, hb4⟩; replace S9 := S9.keep hb4; clear hb4) | (go_at_call 15; refine (I2.out _).mono ?_; rintro e w4 ⟨rfl, hb4⟩; replace S9 := S9.keep hb4; clear hb4) | (go_at_call 16; refine (I3.out _).mono ?_; rintro e w4 ⟨rfl, hb4⟩; replace S9 := S9.keep hb4; clear hb4))
            go_meet
            exact ⟨rfl, S9⟩
        · clear eY
          as_aux_lemma =>
            go_wp2_with (first | (go_at_call 14; refine (I1.out _).mono ?_; rintro e w4 ⟨rfl, hb4⟩; replace S9 := S9.keep hb4; clear hb4) | (go_at_call 15; refine (I2.out _).mono ?_; rintro e w4 ⟨rfl, hb4⟩; replace S9 := S9.keep hb4; clear hb4) | (go_at_call 16; refine (I3.out _).mono ?_; rintro e w4 ⟨rfl, hb4⟩; replace S9 := S9.keep hb4; clear hb4))
            go_meet
            exact ⟨rfl, S9⟩
      · by_cases hz : Zc = 0
        · have eZ := KZ.out hz
          rw [eZ] at I3
          subst hz
          clear eZ
          as_aux_lemma =>
            go_wp2_with (first | (go_at_call 14; refine (I1.out _).mono ?_; rintro e w4 ⟨rfl, hb4⟩; replace S9 := S9.keep hb4; clear hb4) | (go_at_call 15; refine (I2.out _).mono ?_; rintro e w4 ⟨rfl, hb4⟩; replace S9 := S9.keep hb4; clear hb4) | (go_at_call 16; refine (I3.out _).mono ?_; rintro e w4 ⟨rfl, hb4⟩; replace S9 := S9.keep hb4; clear hb4))
            go_meet
            exact ⟨rfl, S9⟩
        · as_aux_lemma =>
            go_wp2_with (first | (go_at_call 14; refine (I1.out _).mono ?_; rintro e w4 ⟨rfl, hb4⟩; replace S9 := S9.keep hb4; clear hb4) | (go_at_call 15; refine (I2.out _).mono ?_; rintro e w4 ⟨rfl, hb4⟩; replace S9 := S9.keep hb4; clear hb4) | (go_at_call 16; refine (I3.out _).mono ?_; rintro e w4 ⟨rfl, hb4⟩; replace S9 := S9.keep hb4; clear hb4))
            go_meet
            exact ⟨rfl, S9⟩
  case rest =>
  obtain ⟨rfl, S11⟩ := hcut
  clear S9 I1 I2 I3 KY KZ
  go_upto_region 13 with fail
  go_cut [148] from 19 (fun s148 wx => s148 = .bool false ∧ Fr5 w wx P R ta fr k b op mac ip tm ti X0 X1 X2 Xb Xc Y0 Y1 Y2 Y3 Y4 Yc Z0 Zt Zc)
  case first =>
    as_aux_lemma =>
      have S9d := S11
      replace S11 := S11.drew
      by_cases hx : Xc = 0
      · obtain ⟨_, hu0, hg⟩ := KX.out hx
        subst hx
        have J1 := Lib.hid (fun W => implIsGroup_any X0 W)
        rw [hg] at J1
        have huI : (0 : Int) < u.size := by omega
        clear hg
        go_region_held3 (fun W' => Fr5 w W' P R ta fr k b op mac ip tm ti X0 X1 X2 Xb 0 Y0 Y1 Y2 Y3 Y4 Yc Z0 Zt Zc) (first | exact S11)
          (first | (go_at_call 30; refine (J1.out _).mono ?_; rintro e w4 ⟨rfl, hb4⟩; replace S11 := S11.keep hb4; clear hb4))
        all_goals
          go_wp2_with fail
          go_meet
          exact ⟨odd_byte u[0].toNat, S11⟩
      · have hx1 : decide (Xc = 0) = false := decide_eq_false hx
        have hx2 : (Xc == 0) = false := by simpa using hx
        have SD := S9d
        obtain ⟨g0, g1, g2, g3, g4, g5, g6, g7, g8, g9, g10, g11, g12, g13, g14, g15, g16, g17, g18, g19, g20, g21, g22, gl⟩ := S9d
        go_quiet (fail)
        go_wp2_with fail
        go_meet
        exact ⟨rfl, SD.drewN _⟩
  case rest =>
  obtain ⟨rfl, S13⟩ := hcut
  clear S11 KX
  have hpm : p.size ≤ maxLen := by unfold maxLen; omega
  have hqm : q.size ≤ maxLen := by unfold maxLen; omega
  have hrm : r.size ≤ maxLen := by unfold maxLen; omega
  have T1 := Lib.hid (fun W => implEthRead_any p W hpm)
  have T2 := Lib.hid (fun W => implArpRead_any q W hqm)
  have T3 := Lib.hid (fun W => implVxRead_any r W hrm)
  have u36 := equal36 ta fr k b 0
  have u39 := equal39 op mac ip tm ti 0
  have u42 := equal42 vni tx 0
  clear q36 q39 q42 G1 G2 hz1 hz2 hz3 hpm hqm hrm hXb hZt R1 R2 R3 Q1 Q2 Q3 HE1 HE2 HE3 SE1 SE2 SE3
  go_upto_region 15 with fail
  have SD := S13
  replace S13 := S13.drew
  rcases F1.out with hp | ⟨hp, eP⟩
  · obtain ⟨hp1, hp2⟩ := empty_t hp
    clear hp
    rcases F2.out with hq | ⟨hq, eQ⟩
    · obtain ⟨hq1, hq2⟩ := empty_t hq
      clear hq
      rcases F3.out with hr | ⟨hr, eR⟩
      · obtain ⟨hr1, hr2⟩ := empty_t hr
        clear hr
        as_aux_lemma =>
          clear F1 F2 F3
          clear T1
          clear T2
          clear T3
          clear SD
          refine wp_region_held_drew (S := fun W' => Fr5 w W' P R ta fr k b op mac ip tm ti X0 X1 X2 Xb Xc Y0 Y1 Y2 Y3 Y4 Yc Z0 Zt Zc) (by kernel_rfl) S13 (fun hHeld => ?_)
          clear hHeld
          refine wpAnyH_take (i := 0) (oi := { dst := some 149, op := Op.move (Operand.tmp 9), type := 9, pos := "laws.go:150", after := #[], guard := none }) (v := ?vveee0) rfl (by kernel_rfl) (by kernel_rfl) (by kernel_rfl) (fun _ _ _ h => h) (Or.inl ⟨by rfl, ?hyeee0⟩) S13 ?resteee0
          case hyeee0 => (intro w hSw; go_simp <;> with_reducible rfl)
          try simp only [Act.put, List.setIfInBounds_toArray, List.set_cons_zero, List.set_cons_succ]
          refine wpAnyH_take (i := 1) (oi := { dst := some 150, op := Op.binOp BinOp.eql 9 (Operand.tmp 149) (Operand.const (Value.string { data := #[] })) 9, type := 4, pos := "laws.go:150", after := #[{ on := 0, ground := Ground.data }], guard := none }) (v := ?vveee1) rfl (by kernel_rfl) (by kernel_rfl) (by kernel_rfl) (fun _ _ _ h => h) (Or.inl ⟨by rfl, ?hyeee1⟩) S13 ?resteee1
          case hyeee1 => (intro w hSw; go_simp <;> with_reducible rfl)
          try simp only [Act.put, List.setIfInBounds_toArray, List.set_cons_zero, List.set_cons_succ]
          refine wpAnyH_take (i := 2) (oi := { dst := some 151, op := Op.move (Operand.tmp 150), type := 4, pos := "laws.go:150", after := #[{ on := 1, ground := Ground.data }], guard := none }) (v := ?vveee2) rfl (by kernel_rfl) (by kernel_rfl) (by kernel_rfl) (fun _ _ _ h => h) (Or.inl ⟨by rfl, ?hyeee2⟩) S13 ?resteee2
          case hyeee2 => (intro w hSw; go_simp <;> with_reducible rfl)
          try simp only [Act.put, List.setIfInBounds_toArray, List.set_cons_zero, List.set_cons_succ]
          refine wpAnyH_take (i := 3) (oi := { dst := some 152, op := Op.move (Operand.tmp 9), type := 9, pos := "laws.go:150", after := #[{ on := 2, ground := Ground.guard }], guard := some (2, false) }) (v := undef) rfl (by kernel_rfl) (by kernel_rfl) (by kernel_rfl) (fun _ _ _ h => h) (Or.inr ⟨by rfl, rfl⟩) S13 ?_
          try simp only [Act.put, List.setIfInBounds_toArray, List.set_cons_zero, List.set_cons_succ]
          refine wpAnyH_take (i := 5) (oi := { dst := some 154, op := Op.load 24 (Operand.tmp 5), type := 24, pos := "laws.go:150", after := #[{ on := 2, ground := Ground.guard }], guard := some (2, false) }) (v := undef) rfl (by kernel_rfl) (by kernel_rfl) (by kernel_rfl) (fun _ _ _ h => h) (Or.inr ⟨by rfl, rfl⟩) S13 ?_
          try simp only [Act.put, List.setIfInBounds_toArray, List.set_cons_zero, List.set_cons_succ]
          refine wpAnyH_take (i := 6) (oi := { dst := some 155, op := Op.build 36 #[(0, Operand.tmp 154)], type := 36, pos := "laws.go:150", after := #[{ on := 5, ground := Ground.data }, { on := 2, ground := Ground.guard }], guard := some (2, false) }) (v := undef) rfl (by kernel_rfl) (by kernel_rfl) (by kernel_rfl) (fun _ _ _ h => h) (Or.inr ⟨by rfl, rfl⟩) S13 ?_
          try simp only [Act.put, List.setIfInBounds_toArray, List.set_cons_zero, List.set_cons_succ]
          refine wpAnyH_take (i := 4) (oi := { dst := some 153, op := Op.call { callee := Callee.value (Operand.func 20), args := #[Operand.tmp 152], argTypes := #[9] }, type := 36, pos := "laws.go:150", after := #[{ on := 3, ground := Ground.data }, { on := 2, ground := Ground.chain }, { on := 2, ground := Ground.guard }], guard := some (2, false) }) (v := undef) rfl (by kernel_rfl) (by kernel_rfl) (by kernel_rfl) (fun _ _ _ h => h) (Or.inr ⟨by rfl, rfl⟩) S13 ?_
          try simp only [Act.put, List.setIfInBounds_toArray, List.set_cons_zero, List.set_cons_succ]
          refine wpAnyH_take (i := 7) (oi := { dst := some 156, op := Op.binOp BinOp.eql 36 (Operand.tmp 153) (Operand.tmp 155) 36, type := 4, pos := "laws.go:150", after := #[{ on := 4, ground := Ground.data }, { on := 6, ground := Ground.data }, { on := 2, ground := Ground.guard }], guard := some (2, false) }) (v := undef) rfl (by kernel_rfl) (by kernel_rfl) (by kernel_rfl) (fun _ _ _ h => h) (Or.inr ⟨by rfl, rfl⟩) S13 ?_
          try simp only [Act.put, List.setIfInBounds_toArray, List.set_cons_zero, List.set_cons_succ]
          refine wpAnyH_take (i := 8) (oi := { dst := some 157, op := Op.pick (Operand.tmp 151) (Operand.const (Value.bool true)) (Operand.tmp 156), type := 4, pos := "laws.go:150", after := #[{ on := 2, ground := Ground.data }, { on := 7, ground := Ground.data }], guard := none }) (v := ?vveee8) rfl (by kernel_rfl) (by kernel_rfl) (by kernel_rfl) (fun _ _ _ h => h) (Or.inl ⟨by rfl, ?hyeee8⟩) S13 ?resteee8
          case hyeee8 => (intro w hSw; go_simp <;> with_reducible rfl)
          try simp only [Act.put, List.setIfInBounds_toArray, List.set_cons_zero, List.set_cons_succ]
          refine wpAnyH_take (i := 9) (oi := { dst := some 158, op := Op.move (Operand.tmp 157), type := 4, pos := "laws.go:150", after := #[{ on := 8, ground := Ground.data }, { on := 4, ground := Ground.chain }], guard := none }) (v := ?vveee9) rfl (by kernel_rfl) (by kernel_rfl) (by kernel_rfl) (fun _ _ _ h => h) (Or.inl ⟨by rfl, ?hyeee9⟩) S13 ?resteee9
          case hyeee9 => (intro w hSw; go_simp <;> with_reducible rfl)
          try simp only [Act.put, List.setIfInBounds_toArray, List.set_cons_zero, List.set_cons_succ]
          refine wpAnyH_take (i := 10) (oi := { dst := some 159, op := Op.move (Operand.tmp 10), type := 9, pos := "laws.go:150", after := #[{ on := 9, ground := Ground.guard }], guard := some (9, true) }) (v := ?vveee10) rfl (by kernel_rfl) (by kernel_rfl) (by kernel_rfl) (fun _ _ _ h => h) (Or.inl ⟨by rfl, ?hyeee10⟩) S13 ?resteee10
          case hyeee10 => (intro w hSw; go_simp <;> with_reducible rfl)
          try simp only [Act.put, List.setIfInBounds_toArray, List.set_cons_zero, List.set_cons_succ]
          refine wpAnyH_take (i := 11) (oi := { dst := some 160, op := Op.binOp BinOp.eql 9 (Operand.tmp 159) (Operand.const (Value.string { data := #[] })) 9, type := 4, pos := "laws.go:150", after := #[{ on := 10, ground := Ground.data }, { on := 9, ground := Ground.guard }], guard := some (9, true) }) (v := ?vveee11) rfl (by kernel_rfl) (by kernel_rfl) (by kernel_rfl) (fun _ _ _ h => h) (Or.inl ⟨by rfl, ?hyeee11⟩) S13 ?resteee11
          case hyeee11 => (intro w hSw; go_simp <;> with_reducible rfl)
          try simp only [Act.put, List.setIfInBounds_toArray, List.set_cons_zero, List.set_cons_succ]
          refine wpAnyH_take (i := 12) (oi := { dst := some 161, op := Op.move (Operand.tmp 160), type := 4, pos := "laws.go:150", after := #[{ on := 11, ground := Ground.data }, { on := 9, ground := Ground.chain }, { on := 9, ground := Ground.guard }], guard := some (9, true) }) (v := ?vveee12) rfl (by kernel_rfl) (by kernel_rfl) (by kernel_rfl) (fun _ _ _ h => h) (Or.inl ⟨by rfl, ?hyeee12⟩) S13 ?resteee12
          case hyeee12 => (intro w hSw; go_simp <;> with_reducible rfl)
          try simp only [Act.put, List.setIfInBounds_toArray, List.set_cons_zero, List.set_cons_succ]
          refine wpAnyH_take (i := 13) (oi := { dst := some 162, op := Op.move (Operand.tmp 10), type := 9, pos := "laws.go:150", after := #[{ on := 12, ground := Ground.guard }], guard := some (12, false) }) (v := undef) rfl (by kernel_rfl) (by kernel_rfl) (by kernel_rfl) (fun _ _ _ h => h) (Or.inr ⟨by rfl, rfl⟩) S13 ?_
          try simp only [Act.put, List.setIfInBounds_toArray, List.set_cons_zero, List.set_cons_succ]
          refine wpAnyH_take (i := 15) (oi := { dst := some 164, op := Op.load 27 (Operand.tmp 6), type := 27, pos := "laws.go:150", after := #[{ on := 12, ground := Ground.guard }], guard := some (12, false) }) (v := undef) rfl (by kernel_rfl) (by kernel_rfl) (by kernel_rfl) (fun _ _ _ h => h) (Or.inr ⟨by rfl, rfl⟩) S13 ?_
          try simp only [Act.put, List.setIfInBounds_toArray, List.set_cons_zero, List.set_cons_succ]
          refine wpAnyH_take (i := 16) (oi := { dst := some 165, op := Op.build 39 #[(0, Operand.tmp 164)], type := 39, pos := "laws.go:150", after := #[{ on := 15, ground := Ground.data }, { on := 12, ground := Ground.guard }], guard := some (12, false) }) (v := undef) rfl (by kernel_rfl) (by kernel_rfl) (by kernel_rfl) (fun _ _ _ h => h) (Or.inr ⟨by rfl, rfl⟩) S13 ?_
          try simp only [Act.put, List.setIfInBounds_toArray, List.set_cons_zero, List.set_cons_succ]
          refine wpAnyH_take (i := 14) (oi := { dst := some 163, op := Op.call { callee := Callee.value (Operand.func 21), args := #[Operand.tmp 162], argTypes := #[9] }, type := 39, pos := "laws.go:150", after := #[{ on := 13, ground := Ground.data }, { on := 12, ground := Ground.chain }, { on := 12, ground := Ground.guard }], guard := some (12, false) }) (v := undef) rfl (by kernel_rfl) (by kernel_rfl) (by kernel_rfl) (fun _ _ _ h => h) (Or.inr ⟨by rfl, rfl⟩) S13 ?_
          try simp only [Act.put, List.setIfInBounds_toArray, List.set_cons_zero, List.set_cons_succ]
          refine wpAnyH_take (i := 17) (oi := { dst := some 166, op := Op.binOp BinOp.eql 39 (Operand.tmp 163) (Operand.tmp 165) 39, type := 4, pos := "laws.go:150", after := #[{ on := 14, ground := Ground.data }, { on := 16, ground := Ground.data }, { on := 12, ground := Ground.guard }], guard := some (12, false) }) (v := undef) rfl (by kernel_rfl) (by kernel_rfl) (by kernel_rfl) (fun _ _ _ h => h) (Or.inr ⟨by rfl, rfl⟩) S13 ?_
          try simp only [Act.put, List.setIfInBounds_toArray, List.set_cons_zero, List.set_cons_succ]
          refine wpAnyH_take (i := 18) (oi := { dst := some 167, op := Op.pick (Operand.tmp 161) (Operand.const (Value.bool true)) (Operand.tmp 166), type := 4, pos := "laws.go:150", after := #[{ on := 12, ground := Ground.data }, { on := 17, ground := Ground.data }, { on := 9, ground := Ground.guard }], guard := some (9, true) }) (v := ?vveee18) rfl (by kernel_rfl) (by kernel_rfl) (by kernel_rfl) (fun _ _ _ h => h) (Or.inl ⟨by rfl, ?hyeee18⟩) S13 ?resteee18
          case hyeee18 => (intro w hSw; go_simp <;> with_reducible rfl)
          try simp only [Act.put, List.setIfInBounds_toArray, List.set_cons_zero, List.set_cons_succ]
          refine wpAnyH_take (i := 19) (oi := { dst := some 168, op := Op.pick (Operand.tmp 158) (Operand.tmp 167) (Operand.const (Value.bool false)), type := 4, pos := "laws.go:150", after := #[{ on := 9, ground := Ground.data }, { on := 18, ground := Ground.data }], guard := none }) (v := ?vveee19) rfl (by kernel_rfl) (by kernel_rfl) (by kernel_rfl) (fun _ _ _ h => h) (Or.inl ⟨by rfl, ?hyeee19⟩) S13 ?resteee19
          case hyeee19 => (intro w hSw; go_simp <;> with_reducible rfl)
          try simp only [Act.put, List.setIfInBounds_toArray, List.set_cons_zero, List.set_cons_succ]
          refine wpAnyH_take (i := 20) (oi := { dst := some 169, op := Op.move (Operand.tmp 168), type := 4, pos := "laws.go:150", after := #[{ on := 19, ground := Ground.data }, { on := 14, ground := Ground.chain }], guard := none }) (v := ?vveee20) rfl (by kernel_rfl) (by kernel_rfl) (by kernel_rfl) (fun _ _ _ h => h) (Or.inl ⟨by rfl, ?hyeee20⟩) S13 ?resteee20
          case hyeee20 => (intro w hSw; go_simp <;> with_reducible rfl)
          try simp only [Act.put, List.setIfInBounds_toArray, List.set_cons_zero, List.set_cons_succ]
          refine wpAnyH_take (i := 21) (oi := { dst := some 170, op := Op.move (Operand.tmp 11), type := 9, pos := "laws.go:150", after := #[{ on := 20, ground := Ground.guard }], guard := some (20, true) }) (v := ?vveee21) rfl (by kernel_rfl) (by kernel_rfl) (by kernel_rfl) (fun _ _ _ h => h) (Or.inl ⟨by rfl, ?hyeee21⟩) S13 ?resteee21
          case hyeee21 => (intro w hSw; go_simp <;> with_reducible rfl)
          try simp only [Act.put, List.setIfInBounds_toArray, List.set_cons_zero, List.set_cons_succ]
          refine wpAnyH_take (i := 22) (oi := { dst := some 171, op := Op.binOp BinOp.eql 9 (Operand.tmp 170) (Operand.const (Value.string { data := #[] })) 9, type := 4, pos := "laws.go:150", after := #[{ on := 21, ground := Ground.data }, { on := 20, ground := Ground.guard }], guard := some (20, true) }) (v := ?vveee22) rfl (by kernel_rfl) (by kernel_rfl) (by kernel_rfl) (fun _ _ _ h => h) (Or.inl ⟨by rfl, ?hyeee22⟩) S13 ?resteee22
          case hyeee22 => (intro w hSw; go_simp <;> with_reducible rfl)
          try simp only [Act.put, List.setIfInBounds_toArray, List.set_cons_zero, List.set_cons_succ]
          refine wpAnyH_take (i := 23) (oi := { dst := some 172, op := Op.move (Operand.tmp 171), type := 4, pos := "laws.go:150", after := #[{ on := 22, ground := Ground.data }, { on := 20, ground := Ground.chain }, { on := 20, ground := Ground.guard }], guard := some (20, true) }) (v := ?vveee23) rfl (by kernel_rfl) (by kernel_rfl) (by kernel_rfl) (fun _ _ _ h => h) (Or.inl ⟨by rfl, ?hyeee23⟩) S13 ?resteee23
          case hyeee23 => (intro w hSw; go_simp <;> with_reducible rfl)
          try simp only [Act.put, List.setIfInBounds_toArray, List.set_cons_zero, List.set_cons_succ]
          refine wpAnyH_take (i := 24) (oi := { dst := some 173, op := Op.move (Operand.tmp 11), type := 9, pos := "laws.go:150", after := #[{ on := 23, ground := Ground.guard }], guard := some (23, false) }) (v := undef) rfl (by kernel_rfl) (by kernel_rfl) (by kernel_rfl) (fun _ _ _ h => h) (Or.inr ⟨by rfl, rfl⟩) S13 ?_
          try simp only [Act.put, List.setIfInBounds_toArray, List.set_cons_zero, List.set_cons_succ]
          refine wpAnyH_take (i := 26) (oi := { dst := some 175, op := Op.move (Operand.tmp 7), type := 2, pos := "laws.go:150", after := #[{ on := 23, ground := Ground.guard }], guard := some (23, false) }) (v := undef) rfl (by kernel_rfl) (by kernel_rfl) (by kernel_rfl) (fun _ _ _ h => h) (Or.inr ⟨by rfl, rfl⟩) S13 ?_
          try simp only [Act.put, List.setIfInBounds_toArray, List.set_cons_zero, List.set_cons_succ]
          refine wpAnyH_take (i := 27) (oi := { dst := some 176, op := Op.move (Operand.tmp 8), type := 9, pos := "laws.go:150", after := #[{ on := 23, ground := Ground.guard }], guard := some (23, false) }) (v := undef) rfl (by kernel_rfl) (by kernel_rfl) (by kernel_rfl) (fun _ _ _ h => h) (Or.inr ⟨by rfl, rfl⟩) S13 ?_
          try simp only [Act.put, List.setIfInBounds_toArray, List.set_cons_zero, List.set_cons_succ]
          refine wpAnyH_take (i := 28) (oi := { dst := some 177, op := Op.build 42 #[(0, Operand.tmp 175), (1, Operand.tmp 176)], type := 42, pos := "laws.go:150", after := #[{ on := 26, ground := Ground.data }, { on := 27, ground := Ground.data }, { on := 23, ground := Ground.guard }], guard := some (23, false) }) (v := undef) rfl (by kernel_rfl) (by kernel_rfl) (by kernel_rfl) (fun _ _ _ h => h) (Or.inr ⟨by rfl, rfl⟩) S13 ?_
          try simp only [Act.put, List.setIfInBounds_toArray, List.set_cons_zero, List.set_cons_succ]
          refine wpAnyH_take (i := 25) (oi := { dst := some 174, op := Op.call { callee := Callee.value (Operand.func 22), args := #[Operand.tmp 173], argTypes := #[9] }, type := 42, pos := "laws.go:150", after := #[{ on := 24, ground := Ground.data }, { on := 23, ground := Ground.chain }, { on := 23, ground := Ground.guard }], guard := some (23, false) }) (v := undef) rfl (by kernel_rfl) (by kernel_rfl) (by kernel_rfl) (fun _ _ _ h => h) (Or.inr ⟨by rfl, rfl⟩) S13 ?_
          try simp only [Act.put, List.setIfInBounds_toArray, List.set_cons_zero, List.set_cons_succ]
          refine wpAnyH_take (i := 29) (oi := { dst := some 178, op := Op.binOp BinOp.eql 42 (Operand.tmp 174) (Operand.tmp 177) 42, type := 4, pos := "laws.go:150", after := #[{ on := 25, ground := Ground.data }, { on := 28, ground := Ground.data }, { on := 23, ground := Ground.guard }], guard := some (23, false) }) (v := undef) rfl (by kernel_rfl) (by kernel_rfl) (by kernel_rfl) (fun _ _ _ h => h) (Or.inr ⟨by rfl, rfl⟩) S13 ?_
          try simp only [Act.put, List.setIfInBounds_toArray, List.set_cons_zero, List.set_cons_succ]
          refine wpAnyH_take (i := 30) (oi := { dst := some 179, op := Op.pick (Operand.tmp 172) (Operand.const (Value.bool true)) (Operand.tmp 178), type := 4, pos := "laws.go:150", after := #[{ on := 23, ground := Ground.data }, { on := 29, ground := Ground.data }, { on := 20, ground := Ground.guard }], guard := some (20, true) }) (v := ?vveee30) rfl (by kernel_rfl) (by kernel_rfl) (by kernel_rfl) (fun _ _ _ h => h) (Or.inl ⟨by rfl, ?hyeee30⟩) S13 ?resteee30
          case hyeee30 => (intro w hSw; go_simp <;> with_reducible rfl)
          try simp only [Act.put, List.setIfInBounds_toArray, List.set_cons_zero, List.set_cons_succ]
          refine wpAnyH_take (i := 31) (oi := { dst := some 180, op := Op.pick (Operand.tmp 169) (Operand.tmp 179) (Operand.const (Value.bool false)), type := 4, pos := "laws.go:150", after := #[{ on := 20, ground := Ground.data }, { on := 30, ground := Ground.data }], guard := none }) (v := ?vveee31) rfl (by kernel_rfl) (by kernel_rfl) (by kernel_rfl) (fun _ _ _ h => h) (Or.inl ⟨by rfl, ?hyeee31⟩) S13 ?resteee31
          case hyeee31 => (intro w hSw; go_simp <;> with_reducible rfl)
          try simp only [Act.put, List.setIfInBounds_toArray, List.set_cons_zero, List.set_cons_succ]
          refine wpAnyH_take (i := 32) (oi := { dst := some 4, op := Op.assign (Operand.tmp 180), type := 4, pos := "laws.go:150", after := #[{ on := 31, ground := Ground.data }, { on := 25, ground := Ground.chain }, { on := 0, ground := Ground.phase }, { on := 1, ground := Ground.phase }, { on := 2, ground := Ground.phase }, { on := 3, ground := Ground.phase }, { on := 4, ground := Ground.phase }, { on := 5, ground := Ground.phase }, { on := 6, ground := Ground.phase }, { on := 7, ground := Ground.phase }, { on := 8, ground := Ground.phase }, { on := 9, ground := Ground.phase }, { on := 10, ground := Ground.phase }, { on := 11, ground := Ground.phase }, { on := 12, ground := Ground.phase }, { on := 13, ground := Ground.phase }, { on := 14, ground := Ground.phase }, { on := 15, ground := Ground.phase }, { on := 16, ground := Ground.phase }, { on := 17, ground := Ground.phase }, { on := 18, ground := Ground.phase }, { on := 19, ground := Ground.phase }, { on := 20, ground := Ground.phase }, { on := 21, ground := Ground.phase }, { on := 22, ground := Ground.phase }, { on := 23, ground := Ground.phase }, { on := 24, ground := Ground.phase }, { on := 25, ground := Ground.phase }, { on := 26, ground := Ground.phase }, { on := 27, ground := Ground.phase }, { on := 28, ground := Ground.phase }, { on := 29, ground := Ground.phase }, { on := 30, ground := Ground.phase }, { on := 31, ground := Ground.phase }], guard := none }) (v := ?vveee32) rfl (by kernel_rfl) (by kernel_rfl) (by kernel_rfl) (fun _ _ _ h => h) (Or.inl ⟨by rfl, ?hyeee32⟩) S13 ?resteee32
          case hyeee32 => (intro w hSw; go_simp <;> with_reducible rfl)
          try simp only [Act.put, List.setIfInBounds_toArray, List.set_cons_zero, List.set_cons_succ]
          refine wpAnyH_done (by kernel_rfl) ?_ _
          go_wp2_with fail
          go_ret
          exact ⟨rfl, S13.low⟩
      · obtain ⟨hr1, hr2⟩ := empty_f hr
        rw [eR] at T3
        unfold vxOutV at T3
        clear hr eR
        as_aux_lemma =>
          clear F1 F2 F3
          clear T1
          clear T2
          clear SD
          refine wp_region_held_drew (S := fun W' => Fr5 w W' P R ta fr k b op mac ip tm ti X0 X1 X2 Xb Xc Y0 Y1 Y2 Y3 Y4 Yc Z0 Zt Zc) (by kernel_rfl) S13 (fun hHeld => ?_)
          clear hHeld
          refine wpAnyH_take (i := 0) (oi := { dst := some 149, op := Op.move (Operand.tmp 9), type := 9, pos := "laws.go:150", after := #[], guard := none }) (v := ?vveef0) rfl (by kernel_rfl) (by kernel_rfl) (by kernel_rfl) (fun _ _ _ h => h) (Or.inl ⟨by rfl, ?hyeef0⟩) S13 ?resteef0
          case hyeef0 => (intro w hSw; go_simp <;> with_reducible rfl)
          try simp only [Act.put, List.setIfInBounds_toArray, List.set_cons_zero, List.set_cons_succ]
          refine wpAnyH_take (i := 1) (oi := { dst := some 150, op := Op.binOp BinOp.eql 9 (Operand.tmp 149) (Operand.const (Value.string { data := #[] })) 9, type := 4, pos := "laws.go:150", after := #[{ on := 0, ground := Ground.data }], guard := none }) (v := ?vveef1) rfl (by kernel_rfl) (by kernel_rfl) (by kernel_rfl) (fun _ _ _ h => h) (Or.inl ⟨by rfl, ?hyeef1⟩) S13 ?resteef1
          case hyeef1 => (intro w hSw; go_simp <;> with_reducible rfl)
          try simp only [Act.put, List.setIfInBounds_toArray, List.set_cons_zero, List.set_cons_succ]
          refine wpAnyH_take (i := 2) (oi := { dst := some 151, op := Op.move (Operand.tmp 150), type := 4, pos := "laws.go:150", after := #[{ on := 1, ground := Ground.data }], guard := none }) (v := ?vveef2) rfl (by kernel_rfl) (by kernel_rfl) (by kernel_rfl) (fun _ _ _ h => h) (Or.inl ⟨by rfl, ?hyeef2⟩) S13 ?resteef2
          case hyeef2 => (intro w hSw; go_simp <;> with_reducible rfl)
          try simp only [Act.put, List.setIfInBounds_toArray, List.set_cons_zero, List.set_cons_succ]
          refine wpAnyH_take (i := 3) (oi := { dst := some 152, op := Op.move (Operand.tmp 9), type := 9, pos := "laws.go:150", after := #[{ on := 2, ground := Ground.guard }], guard := some (2, false) }) (v := undef) rfl (by kernel_rfl) (by kernel_rfl) (by kernel_rfl) (fun _ _ _ h => h) (Or.inr ⟨by rfl, rfl⟩) S13 ?_
          try simp only [Act.put, List.setIfInBounds_toArray, List.set_cons_zero, List.set_cons_succ]
          refine wpAnyH_take (i := 5) (oi := { dst := some 154, op := Op.load 24 (Operand.tmp 5), type := 24, pos := "laws.go:150", after := #[{ on := 2, ground := Ground.guard }], guard := some (2, false) }) (v := undef) rfl (by kernel_rfl) (by kernel_rfl) (by kernel_rfl) (fun _ _ _ h => h) (Or.inr ⟨by rfl, rfl⟩) S13 ?_
          try simp only [Act.put, List.setIfInBounds_toArray, List.set_cons_zero, List.set_cons_succ]
          refine wpAnyH_take (i := 6) (oi := { dst := some 155, op := Op.build 36 #[(0, Operand.tmp 154)], type := 36, pos := "laws.go:150", after := #[{ on := 5, ground := Ground.data }, { on := 2, ground := Ground.guard }], guard := some (2, false) }) (v := undef) rfl (by kernel_rfl) (by kernel_rfl) (by kernel_rfl) (fun _ _ _ h => h) (Or.inr ⟨by rfl, rfl⟩) S13 ?_
          try simp only [Act.put, List.setIfInBounds_toArray, List.set_cons_zero, List.set_cons_succ]
          refine wpAnyH_take (i := 4) (oi := { dst := some 153, op := Op.call { callee := Callee.value (Operand.func 20), args := #[Operand.tmp 152], argTypes := #[9] }, type := 36, pos := "laws.go:150", after := #[{ on := 3, ground := Ground.data }, { on := 2, ground := Ground.chain }, { on := 2, ground := Ground.guard }], guard := some (2, false) }) (v := undef) rfl (by kernel_rfl) (by kernel_rfl) (by kernel_rfl) (fun _ _ _ h => h) (Or.inr ⟨by rfl, rfl⟩) S13 ?_
          try simp only [Act.put, List.setIfInBounds_toArray, List.set_cons_zero, List.set_cons_succ]
          refine wpAnyH_take (i := 7) (oi := { dst := some 156, op := Op.binOp BinOp.eql 36 (Operand.tmp 153) (Operand.tmp 155) 36, type := 4, pos := "laws.go:150", after := #[{ on := 4, ground := Ground.data }, { on := 6, ground := Ground.data }, { on := 2, ground := Ground.guard }], guard := some (2, false) }) (v := undef) rfl (by kernel_rfl) (by kernel_rfl) (by kernel_rfl) (fun _ _ _ h => h) (Or.inr ⟨by rfl, rfl⟩) S13 ?_
          try simp only [Act.put, List.setIfInBounds_toArray, List.set_cons_zero, List.set_cons_succ]
          refine wpAnyH_take (i := 8) (oi := { dst := some 157, op := Op.pick (Operand.tmp 151) (Operand.const (Value.bool true)) (Operand.tmp 156), type := 4, pos := "laws.go:150", after := #[{ on := 2, ground := Ground.data }, { on := 7, ground := Ground.data }], guard := none }) (v := ?vveef8) rfl (by kernel_rfl) (by kernel_rfl) (by kernel_rfl) (fun _ _ _ h => h) (Or.inl ⟨by rfl, ?hyeef8⟩) S13 ?resteef8
          case hyeef8 => (intro w hSw; go_simp <;> with_reducible rfl)
          try simp only [Act.put, List.setIfInBounds_toArray, List.set_cons_zero, List.set_cons_succ]
          refine wpAnyH_take (i := 9) (oi := { dst := some 158, op := Op.move (Operand.tmp 157), type := 4, pos := "laws.go:150", after := #[{ on := 8, ground := Ground.data }, { on := 4, ground := Ground.chain }], guard := none }) (v := ?vveef9) rfl (by kernel_rfl) (by kernel_rfl) (by kernel_rfl) (fun _ _ _ h => h) (Or.inl ⟨by rfl, ?hyeef9⟩) S13 ?resteef9
          case hyeef9 => (intro w hSw; go_simp <;> with_reducible rfl)
          try simp only [Act.put, List.setIfInBounds_toArray, List.set_cons_zero, List.set_cons_succ]
          refine wpAnyH_take (i := 10) (oi := { dst := some 159, op := Op.move (Operand.tmp 10), type := 9, pos := "laws.go:150", after := #[{ on := 9, ground := Ground.guard }], guard := some (9, true) }) (v := ?vveef10) rfl (by kernel_rfl) (by kernel_rfl) (by kernel_rfl) (fun _ _ _ h => h) (Or.inl ⟨by rfl, ?hyeef10⟩) S13 ?resteef10
          case hyeef10 => (intro w hSw; go_simp <;> with_reducible rfl)
          try simp only [Act.put, List.setIfInBounds_toArray, List.set_cons_zero, List.set_cons_succ]
          refine wpAnyH_take (i := 11) (oi := { dst := some 160, op := Op.binOp BinOp.eql 9 (Operand.tmp 159) (Operand.const (Value.string { data := #[] })) 9, type := 4, pos := "laws.go:150", after := #[{ on := 10, ground := Ground.data }, { on := 9, ground := Ground.guard }], guard := some (9, true) }) (v := ?vveef11) rfl (by kernel_rfl) (by kernel_rfl) (by kernel_rfl) (fun _ _ _ h => h) (Or.inl ⟨by rfl, ?hyeef11⟩) S13 ?resteef11
          case hyeef11 => (intro w hSw; go_simp <;> with_reducible rfl)
          try simp only [Act.put, List.setIfInBounds_toArray, List.set_cons_zero, List.set_cons_succ]
          refine wpAnyH_take (i := 12) (oi := { dst := some 161, op := Op.move (Operand.tmp 160), type := 4, pos := "laws.go:150", after := #[{ on := 11, ground := Ground.data }, { on := 9, ground := Ground.chain }, { on := 9, ground := Ground.guard }], guard := some (9, true) }) (v := ?vveef12) rfl (by kernel_rfl) (by kernel_rfl) (by kernel_rfl) (fun _ _ _ h => h) (Or.inl ⟨by rfl, ?hyeef12⟩) S13 ?resteef12
          case hyeef12 => (intro w hSw; go_simp <;> with_reducible rfl)
          try simp only [Act.put, List.setIfInBounds_toArray, List.set_cons_zero, List.set_cons_succ]
          refine wpAnyH_take (i := 13) (oi := { dst := some 162, op := Op.move (Operand.tmp 10), type := 9, pos := "laws.go:150", after := #[{ on := 12, ground := Ground.guard }], guard := some (12, false) }) (v := undef) rfl (by kernel_rfl) (by kernel_rfl) (by kernel_rfl) (fun _ _ _ h => h) (Or.inr ⟨by rfl, rfl⟩) S13 ?_
          try simp only [Act.put, List.setIfInBounds_toArray, List.set_cons_zero, List.set_cons_succ]
          refine wpAnyH_take (i := 15) (oi := { dst := some 164, op := Op.load 27 (Operand.tmp 6), type := 27, pos := "laws.go:150", after := #[{ on := 12, ground := Ground.guard }], guard := some (12, false) }) (v := undef) rfl (by kernel_rfl) (by kernel_rfl) (by kernel_rfl) (fun _ _ _ h => h) (Or.inr ⟨by rfl, rfl⟩) S13 ?_
          try simp only [Act.put, List.setIfInBounds_toArray, List.set_cons_zero, List.set_cons_succ]
          refine wpAnyH_take (i := 16) (oi := { dst := some 165, op := Op.build 39 #[(0, Operand.tmp 164)], type := 39, pos := "laws.go:150", after := #[{ on := 15, ground := Ground.data }, { on := 12, ground := Ground.guard }], guard := some (12, false) }) (v := undef) rfl (by kernel_rfl) (by kernel_rfl) (by kernel_rfl) (fun _ _ _ h => h) (Or.inr ⟨by rfl, rfl⟩) S13 ?_
          try simp only [Act.put, List.setIfInBounds_toArray, List.set_cons_zero, List.set_cons_succ]
          refine wpAnyH_take (i := 14) (oi := { dst := some 163, op := Op.call { callee := Callee.value (Operand.func 21), args := #[Operand.tmp 162], argTypes := #[9] }, type := 39, pos := "laws.go:150", after := #[{ on := 13, ground := Ground.data }, { on := 12, ground := Ground.chain }, { on := 12, ground := Ground.guard }], guard := some (12, false) }) (v := undef) rfl (by kernel_rfl) (by kernel_rfl) (by kernel_rfl) (fun _ _ _ h => h) (Or.inr ⟨by rfl, rfl⟩) S13 ?_
          try simp only [Act.put, List.setIfInBounds_toArray, List.set_cons_zero, List.set_cons_succ]
          refine wpAnyH_take (i := 17) (oi := { dst := some 166, op := Op.binOp BinOp.eql 39 (Operand.tmp 163) (Operand.tmp 165) 39, type := 4, pos := "laws.go:150", after := #[{ on := 14, ground := Ground.data }, { on := 16, ground := Ground.data }, { on := 12, ground := Ground.guard }], guard := some (12, false) }) (v := undef) rfl (by kernel_rfl) (by kernel_rfl) (by kernel_rfl) (fun _ _ _ h => h) (Or.inr ⟨by rfl, rfl⟩) S13 ?_
          try simp only [Act.put, List.setIfInBounds_toArray, List.set_cons_zero, List.set_cons_succ]
          refine wpAnyH_take (i := 18) (oi := { dst := some 167, op := Op.pick (Operand.tmp 161) (Operand.const (Value.bool true)) (Operand.tmp 166), type := 4, pos := "laws.go:150", after := #[{ on := 12, ground := Ground.data }, { on := 17, ground := Ground.data }, { on := 9, ground := Ground.guard }], guard := some (9, true) }) (v := ?vveef18) rfl (by kernel_rfl) (by kernel_rfl) (by kernel_rfl) (fun _ _ _ h => h) (Or.inl ⟨by rfl, ?hyeef18⟩) S13 ?resteef18
          case hyeef18 => (intro w hSw; go_simp <;> with_reducible rfl)
          try simp only [Act.put, List.setIfInBounds_toArray, List.set_cons_zero, List.set_cons_succ]
          refine wpAnyH_take (i := 19) (oi := { dst := some 168, op := Op.pick (Operand.tmp 158) (Operand.tmp 167) (Operand.const (Value.bool false)), type := 4, pos := "laws.go:150", after := #[{ on := 9, ground := Ground.data }, { on := 18, ground := Ground.data }], guard := none }) (v := ?vveef19) rfl (by kernel_rfl) (by kernel_rfl) (by kernel_rfl) (fun _ _ _ h => h) (Or.inl ⟨by rfl, ?hyeef19⟩) S13 ?resteef19
          case hyeef19 => (intro w hSw; go_simp <;> with_reducible rfl)
          try simp only [Act.put, List.setIfInBounds_toArray, List.set_cons_zero, List.set_cons_succ]
          refine wpAnyH_take (i := 20) (oi := { dst := some 169, op := Op.move (Operand.tmp 168), type := 4, pos := "laws.go:150", after := #[{ on := 19, ground := Ground.data }, { on := 14, ground := Ground.chain }], guard := none }) (v := ?vveef20) rfl (by kernel_rfl) (by kernel_rfl) (by kernel_rfl) (fun _ _ _ h => h) (Or.inl ⟨by rfl, ?hyeef20⟩) S13 ?resteef20
          case hyeef20 => (intro w hSw; go_simp <;> with_reducible rfl)
          try simp only [Act.put, List.setIfInBounds_toArray, List.set_cons_zero, List.set_cons_succ]
          refine wpAnyH_take (i := 21) (oi := { dst := some 170, op := Op.move (Operand.tmp 11), type := 9, pos := "laws.go:150", after := #[{ on := 20, ground := Ground.guard }], guard := some (20, true) }) (v := ?vveef21) rfl (by kernel_rfl) (by kernel_rfl) (by kernel_rfl) (fun _ _ _ h => h) (Or.inl ⟨by rfl, ?hyeef21⟩) S13 ?resteef21
          case hyeef21 => (intro w hSw; go_simp <;> with_reducible rfl)
          try simp only [Act.put, List.setIfInBounds_toArray, List.set_cons_zero, List.set_cons_succ]
          refine wpAnyH_take (i := 22) (oi := { dst := some 171, op := Op.binOp BinOp.eql 9 (Operand.tmp 170) (Operand.const (Value.string { data := #[] })) 9, type := 4, pos := "laws.go:150", after := #[{ on := 21, ground := Ground.data }, { on := 20, ground := Ground.guard }], guard := some (20, true) }) (v := ?vveef22) rfl (by kernel_rfl) (by kernel_rfl) (by kernel_rfl) (fun _ _ _ h => h) (Or.inl ⟨by rfl, ?hyeef22⟩) S13 ?resteef22
          case hyeef22 => (intro w hSw; go_simp <;> with_reducible rfl)
          try simp only [Act.put, List.setIfInBounds_toArray, List.set_cons_zero, List.set_cons_succ]
          refine wpAnyH_take (i := 23) (oi := { dst := some 172, op := Op.move (Operand.tmp 171), type := 4, pos := "laws.go:150", after := #[{ on := 22, ground := Ground.data }, { on := 20, ground := Ground.chain }, { on := 20, ground := Ground.guard }], guard := some (20, true) }) (v := ?vveef23) rfl (by kernel_rfl) (by kernel_rfl) (by kernel_rfl) (fun _ _ _ h => h) (Or.inl ⟨by rfl, ?hyeef23⟩) S13 ?resteef23
          case hyeef23 => (intro w hSw; go_simp <;> with_reducible rfl)
          try simp only [Act.put, List.setIfInBounds_toArray, List.set_cons_zero, List.set_cons_succ]
          refine wpAnyH_take (i := 24) (oi := { dst := some 173, op := Op.move (Operand.tmp 11), type := 9, pos := "laws.go:150", after := #[{ on := 23, ground := Ground.guard }], guard := some (23, false) }) (v := ?vveef24) rfl (by kernel_rfl) (by kernel_rfl) (by kernel_rfl) (fun _ _ _ h => h) (Or.inl ⟨by rfl, ?hyeef24⟩) S13 ?resteef24
          case hyeef24 => (intro w hSw; go_simp <;> with_reducible rfl)
          try simp only [Act.put, List.setIfInBounds_toArray, List.set_cons_zero, List.set_cons_succ]
          refine wpAnyH_take (i := 26) (oi := { dst := some 175, op := Op.move (Operand.tmp 7), type := 2, pos := "laws.go:150", after := #[{ on := 23, ground := Ground.guard }], guard := some (23, false) }) (v := ?vveef26) rfl (by kernel_rfl) (by kernel_rfl) (by kernel_rfl) (fun _ _ _ h => h) (Or.inl ⟨by rfl, ?hyeef26⟩) S13 ?resteef26
          case hyeef26 => (intro w hSw; go_simp <;> with_reducible rfl)
          try simp only [Act.put, List.setIfInBounds_toArray, List.set_cons_zero, List.set_cons_succ]
          refine wpAnyH_take (i := 27) (oi := { dst := some 176, op := Op.move (Operand.tmp 8), type := 9, pos := "laws.go:150", after := #[{ on := 23, ground := Ground.guard }], guard := some (23, false) }) (v := ?vveef27) rfl (by kernel_rfl) (by kernel_rfl) (by kernel_rfl) (fun _ _ _ h => h) (Or.inl ⟨by rfl, ?hyeef27⟩) S13 ?resteef27
          case hyeef27 => (intro w hSw; go_simp <;> with_reducible rfl)
          try simp only [Act.put, List.setIfInBounds_toArray, List.set_cons_zero, List.set_cons_succ]
          refine wpAnyH_take (i := 28) (oi := { dst := some 177, op := Op.build 42 #[(0, Operand.tmp 175), (1, Operand.tmp 176)], type := 42, pos := "laws.go:150", after := #[{ on := 26, ground := Ground.data }, { on := 27, ground := Ground.data }, { on := 23, ground := Ground.guard }], guard := some (23, false) }) (v := ?vveef28) rfl (by kernel_rfl) (by kernel_rfl) (by kernel_rfl) (fun _ _ _ h => h) (Or.inl ⟨by rfl, ?hyeef28⟩) S13 ?resteef28
          case hyeef28 => (intro w hSw; go_simp <;> with_reducible rfl)
          try simp only [Act.put, List.setIfInBounds_toArray, List.set_cons_zero, List.set_cons_succ]
          refine wpAnyH_ready (rs := [25]) (by kernel_rfl) (by simp) ?_
          refine AllReadyH.cons (o := { dst := some 174, op := Op.call { callee := Callee.value (Operand.func 22), args := #[Operand.tmp 173], argTypes := #[9] }, type := 42, pos := "laws.go:150", after := #[{ on := 24, ground := Ground.data }, { on := 23, ground := Ground.chain }, { on := 23, ground := Ground.guard }], guard := some (23, false) }) rfl (fun K hK => ?_) AllReadyH.nil
          go_simp
          go_at_call 22
          refine (T3.out _).mono ?_
          rintro e w4 ⟨rfl, hb4⟩
          replace S13 := S13.keep hb4
          clear hb4
          refine hK.out _ _ S13 (fun hHeld => ?_)
          clear hK K hHeld
          try simp only [Act.put, List.setIfInBounds_toArray, List.set_cons_zero, List.set_cons_succ]
          refine wpAnyH_take (i := 29) (oi := { dst := some 178, op := Op.binOp BinOp.eql 42 (Operand.tmp 174) (Operand.tmp 177) 42, type := 4, pos := "laws.go:150", after := #[{ on := 25, ground := Ground.data }, { on := 28, ground := Ground.data }, { on := 23, ground := Ground.guard }], guard := some (23, false) }) (v := ?vveef29) rfl (by kernel_rfl) (by kernel_rfl) (by kernel_rfl) (fun _ _ _ h => h) (Or.inl ⟨by rfl, ?hyeef29⟩) S13 ?resteef29
          case hyeef29 => (intro w hSw; go_simp <;> with_reducible rfl)
          try simp only [Act.put, List.setIfInBounds_toArray, List.set_cons_zero, List.set_cons_succ]
          refine wpAnyH_take (i := 30) (oi := { dst := some 179, op := Op.pick (Operand.tmp 172) (Operand.const (Value.bool true)) (Operand.tmp 178), type := 4, pos := "laws.go:150", after := #[{ on := 23, ground := Ground.data }, { on := 29, ground := Ground.data }, { on := 20, ground := Ground.guard }], guard := some (20, true) }) (v := ?vveef30) rfl (by kernel_rfl) (by kernel_rfl) (by kernel_rfl) (fun _ _ _ h => h) (Or.inl ⟨by rfl, ?hyeef30⟩) S13 ?resteef30
          case hyeef30 => (intro w hSw; go_simp <;> with_reducible rfl)
          try simp only [Act.put, List.setIfInBounds_toArray, List.set_cons_zero, List.set_cons_succ]
          refine wpAnyH_take (i := 31) (oi := { dst := some 180, op := Op.pick (Operand.tmp 169) (Operand.tmp 179) (Operand.const (Value.bool false)), type := 4, pos := "laws.go:150", after := #[{ on := 20, ground := Ground.data }, { on := 30, ground := Ground.data }], guard := none }) (v := ?vveef31) rfl (by kernel_rfl) (by kernel_rfl) (by kernel_rfl) (fun _ _ _ h => h) (Or.inl ⟨by rfl, ?hyeef31⟩) S13 ?resteef31
          case hyeef31 => (intro w hSw; go_simp <;> with_reducible rfl)
          try simp only [Act.put, List.setIfInBounds_toArray, List.set_cons_zero, List.set_cons_succ]
          refine wpAnyH_take (i := 32) (oi := { dst := some 4, op := Op.assign (Operand.tmp 180), type := 4, pos := "laws.go:150", after := #[{ on := 31, ground := Ground.data }, { on := 25, ground := Ground.chain }, { on := 0, ground := Ground.phase }, { on := 1, ground := Ground.phase }, { on := 2, ground := Ground.phase }, { on := 3, ground := Ground.phase }, { on := 4, ground := Ground.phase }, { on := 5, ground := Ground.phase }, { on := 6, ground := Ground.phase }, { on := 7, ground := Ground.phase }, { on := 8, ground := Ground.phase }, { on := 9, ground := Ground.phase }, { on := 10, ground := Ground.phase }, { on := 11, ground := Ground.phase }, { on := 12, ground := Ground.phase }, { on := 13, ground := Ground.phase }, { on := 14, ground := Ground.phase }, { on := 15, ground := Ground.phase }, { on := 16, ground := Ground.phase }, { on := 17, ground := Ground.phase }, { on := 18, ground := Ground.phase }, { on := 19, ground := Ground.phase }, { on := 20, ground := Ground.phase }, { on := 21, ground := Ground.phase }, { on := 22, ground := Ground.phase }, { on := 23, ground := Ground.phase }, { on := 24, ground := Ground.phase }, { on := 25, ground := Ground.phase }, { on := 26, ground := Ground.phase }, { on := 27, ground := Ground.phase }, { on := 28, ground := Ground.phase }, { on := 29, ground := Ground.phase }, { on := 30, ground := Ground.phase }, { on := 31, ground := Ground.phase }], guard := none }) (v := ?vveef32) rfl (by kernel_rfl) (by kernel_rfl) (by kernel_rfl) (fun _ _ _ h => h) (Or.inl ⟨by rfl, ?hyeef32⟩) S13 ?resteef32
          case hyeef32 => (intro w hSw; go_simp <;> with_reducible rfl)
          try simp only [Act.put, List.setIfInBounds_toArray, List.set_cons_zero, List.set_cons_succ]
          refine wpAnyH_done (by kernel_rfl) ?_ _
          go_wp2_with fail
          go_ret
          exact ⟨rfl, S13.low⟩
    · obtain ⟨hq1, hq2⟩ := empty_f hq
      rw [eQ] at T2
      unfold arpOutV at T2
      clear hq eQ
      rcases F3.out with hr | ⟨hr, eR⟩
      · obtain ⟨hr1, hr2⟩ := empty_t hr
        clear hr
        as_aux_lemma =>
          clear F1 F2 F3
          clear T1
          clear T3
          clear SD
          refine wp_region_held_drew (S := fun W' => Fr5 w W' P R ta fr k b op mac ip tm ti X0 X1 X2 Xb Xc Y0 Y1 Y2 Y3 Y4 Yc Z0 Zt Zc) (by kernel_rfl) S13 (fun hHeld => ?_)
          clear hHeld
          refine wpAnyH_take (i := 0) (oi := { dst := some 149, op := Op.move (Operand.tmp 9), type := 9, pos := "laws.go:150", after := #[], guard := none }) (v := ?vvefe0) rfl (by kernel_rfl) (by kernel_rfl) (by kernel_rfl) (fun _ _ _ h => h) (Or.inl ⟨by rfl, ?hyefe0⟩) S13 ?restefe0
          case hyefe0 => (intro w hSw; go_simp <;> with_reducible rfl)
          try simp only [Act.put, List.setIfInBounds_toArray, List.set_cons_zero, List.set_cons_succ]
          refine wpAnyH_take (i := 1) (oi := { dst := some 150, op := Op.binOp BinOp.eql 9 (Operand.tmp 149) (Operand.const (Value.string { data := #[] })) 9, type := 4, pos := "laws.go:150", after := #[{ on := 0, ground := Ground.data }], guard := none }) (v := ?vvefe1) rfl (by kernel_rfl) (by kernel_rfl) (by kernel_rfl) (fun _ _ _ h => h) (Or.inl ⟨by rfl, ?hyefe1⟩) S13 ?restefe1
          case hyefe1 => (intro w hSw; go_simp <;> with_reducible rfl)
          try simp only [Act.put, List.setIfInBounds_toArray, List.set_cons_zero, List.set_cons_succ]
          refine wpAnyH_take (i := 2) (oi := { dst := some 151, op := Op.move (Operand.tmp 150), type := 4, pos := "laws.go:150", after := #[{ on := 1, ground := Ground.data }], guard := none }) (v := ?vvefe2) rfl (by kernel_rfl) (by kernel_rfl) (by kernel_rfl) (fun _ _ _ h => h) (Or.inl ⟨by rfl, ?hyefe2⟩) S13 ?restefe2
          case hyefe2 => (intro w hSw; go_simp <;> with_reducible rfl)
          try simp only [Act.put, List.setIfInBounds_toArray, List.set_cons_zero, List.set_cons_succ]
          refine wpAnyH_take (i := 3) (oi := { dst := some 152, op := Op.move (Operand.tmp 9), type := 9, pos := "laws.go:150", after := #[{ on := 2, ground := Ground.guard }], guard := some (2, false) }) (v := undef) rfl (by kernel_rfl) (by kernel_rfl) (by kernel_rfl) (fun _ _ _ h => h) (Or.inr ⟨by rfl, rfl⟩) S13 ?_
          try simp only [Act.put, List.setIfInBounds_toArray, List.set_cons_zero, List.set_cons_succ]
          refine wpAnyH_take (i := 5) (oi := { dst := some 154, op := Op.load 24 (Operand.tmp 5), type := 24, pos := "laws.go:150", after := #[{ on := 2, ground := Ground.guard }], guard := some (2, false) }) (v := undef) rfl (by kernel_rfl) (by kernel_rfl) (by kernel_rfl) (fun _ _ _ h => h) (Or.inr ⟨by rfl, rfl⟩) S13 ?_
          try simp only [Act.put, List.setIfInBounds_toArray, List.set_cons_zero, List.set_cons_succ]
          refine wpAnyH_take (i := 6) (oi := { dst := some 155, op := Op.build 36 #[(0, Operand.tmp 154)], type := 36, pos := "laws.go:150", after := #[{ on := 5, ground := Ground.data }, { on := 2, ground := Ground.guard }], guard := some (2, false) }) (v := undef) rfl (by kernel_rfl) (by kernel_rfl) (by kernel_rfl) (fun _ _ _ h => h) (Or.inr ⟨by rfl, rfl⟩) S13 ?_
          try simp only [Act.put, List.setIfInBounds_toArray, List.set_cons_zero, List.set_cons_succ]
          refine wpAnyH_take (i := 4) (oi := { dst := some 153, op := Op.call { callee := Callee.value (Operand.func 20), args := #[Operand.tmp 152], argTypes := #[9] }, type := 36, pos := "laws.go:150", after := #[{ on := 3, ground := Ground.data }, { on := 2, ground := Ground.chain }, { on := 2, ground := Ground.guard }], guard := some (2, false) }) (v := undef) rfl (by kernel_rfl) (by kernel_rfl) (by kernel_rfl) (fun _ _ _ h => h) (Or.inr ⟨by rfl, rfl⟩) S13 ?_
          try simp only [Act.put, List.setIfInBounds_toArray, List.set_cons_zero, List.set_cons_succ]
          refine wpAnyH_take (i := 7) (oi := { dst := some 156, op := Op.binOp BinOp.eql 36 (Operand.tmp 153) (Operand.tmp 155) 36, type := 4, pos := "laws.go:150", after := #[{ on := 4, ground := Ground.data }, { on := 6, ground := Ground.data }, { on := 2, ground := Ground.guard }], guard := some (2, false) }) (v := undef) rfl (by kernel_rfl) (by kernel_rfl) (by kernel_rfl) (fun _ _ _ h => h) (Or.inr ⟨by rfl, rfl⟩) S13 ?_
          try simp only [Act.put, List.setIfInBounds_toArray, List.set_cons_zero, List.set_cons_succ]
          refine wpAnyH_take (i := 8) (oi := { dst := some 157, op := Op.pick (Operand.tmp 151) (Operand.const (Value.bool true)) (Operand.tmp 156), type := 4, pos := "laws.go:150", after := #[{ on := 2, ground := Ground.data }, { on := 7, ground := Ground.data }], guard := none }) (v := ?vvefe8) rfl (by kernel_rfl) (by kernel_rfl) (by kernel_rfl) (fun _ _ _ h => h) (Or.inl ⟨by rfl, ?hyefe8⟩) S13 ?restefe8
          case hyefe8 => (intro w hSw; go_simp <;> with_reducible rfl)
          try simp only [Act.put, List.setIfInBounds_toArray, List.set_cons_zero, List.set_cons_succ]
          refine wpAnyH_take (i := 9) (oi := { dst := some 158, op := Op.move (Operand.tmp 157), type := 4, pos := "laws.go:150", after := #[{ on := 8, ground := Ground.data }, { on := 4, ground := Ground.chain }], guard := none }) (v := ?vvefe9) rfl (by kernel_rfl) (by kernel_rfl) (by kernel_rfl) (fun _ _ _ h => h) (Or.inl ⟨by rfl, ?hyefe9⟩) S13 ?restefe9
          case hyefe9 => (intro w hSw; go_simp <;> with_reducible rfl)
          try simp only [Act.put, List.setIfInBounds_toArray, List.set_cons_zero, List.set_cons_succ]
          refine wpAnyH_take (i := 10) (oi := { dst := some 159, op := Op.move (Operand.tmp 10), type := 9, pos := "laws.go:150", after := #[{ on := 9, ground := Ground.guard }], guard := some (9, true) }) (v := ?vvefe10) rfl (by kernel_rfl) (by kernel_rfl) (by kernel_rfl) (fun _ _ _ h => h) (Or.inl ⟨by rfl, ?hyefe10⟩) S13 ?restefe10
          case hyefe10 => (intro w hSw; go_simp <;> with_reducible rfl)
          try simp only [Act.put, List.setIfInBounds_toArray, List.set_cons_zero, List.set_cons_succ]
          refine wpAnyH_take (i := 11) (oi := { dst := some 160, op := Op.binOp BinOp.eql 9 (Operand.tmp 159) (Operand.const (Value.string { data := #[] })) 9, type := 4, pos := "laws.go:150", after := #[{ on := 10, ground := Ground.data }, { on := 9, ground := Ground.guard }], guard := some (9, true) }) (v := ?vvefe11) rfl (by kernel_rfl) (by kernel_rfl) (by kernel_rfl) (fun _ _ _ h => h) (Or.inl ⟨by rfl, ?hyefe11⟩) S13 ?restefe11
          case hyefe11 => (intro w hSw; go_simp <;> with_reducible rfl)
          try simp only [Act.put, List.setIfInBounds_toArray, List.set_cons_zero, List.set_cons_succ]
          refine wpAnyH_take (i := 12) (oi := { dst := some 161, op := Op.move (Operand.tmp 160), type := 4, pos := "laws.go:150", after := #[{ on := 11, ground := Ground.data }, { on := 9, ground := Ground.chain }, { on := 9, ground := Ground.guard }], guard := some (9, true) }) (v := ?vvefe12) rfl (by kernel_rfl) (by kernel_rfl) (by kernel_rfl) (fun _ _ _ h => h) (Or.inl ⟨by rfl, ?hyefe12⟩) S13 ?restefe12
          case hyefe12 => (intro w hSw; go_simp <;> with_reducible rfl)
          try simp only [Act.put, List.setIfInBounds_toArray, List.set_cons_zero, List.set_cons_succ]
          refine wpAnyH_take (i := 13) (oi := { dst := some 162, op := Op.move (Operand.tmp 10), type := 9, pos := "laws.go:150", after := #[{ on := 12, ground := Ground.guard }], guard := some (12, false) }) (v := ?vvefe13) rfl (by kernel_rfl) (by kernel_rfl) (by kernel_rfl) (fun _ _ _ h => h) (Or.inl ⟨by rfl, ?hyefe13⟩) S13 ?restefe13
          case hyefe13 => (intro w hSw; go_simp <;> with_reducible rfl)
          try simp only [Act.put, List.setIfInBounds_toArray, List.set_cons_zero, List.set_cons_succ]
          refine wpAnyH_take (i := 15) (oi := { dst := some 164, op := Op.load 27 (Operand.tmp 6), type := 27, pos := "laws.go:150", after := #[{ on := 12, ground := Ground.guard }], guard := some (12, false) }) (v := ?vvefe15) rfl (by kernel_rfl) (by kernel_rfl) (by kernel_rfl) (fun _ _ _ h => h) (Or.inl ⟨by rfl, ?hyefe15⟩) S13 ?restefe15
          case hyefe15 => (intro w hSw; go_simp <;> with_reducible rfl)
          try simp only [Act.put, List.setIfInBounds_toArray, List.set_cons_zero, List.set_cons_succ]
          refine wpAnyH_take (i := 16) (oi := { dst := some 165, op := Op.build 39 #[(0, Operand.tmp 164)], type := 39, pos := "laws.go:150", after := #[{ on := 15, ground := Ground.data }, { on := 12, ground := Ground.guard }], guard := some (12, false) }) (v := ?vvefe16) rfl (by kernel_rfl) (by kernel_rfl) (by kernel_rfl) (fun _ _ _ h => h) (Or.inl ⟨by rfl, ?hyefe16⟩) S13 ?restefe16
          case hyefe16 => (intro w hSw; go_simp <;> with_reducible rfl)
          try simp only [Act.put, List.setIfInBounds_toArray, List.set_cons_zero, List.set_cons_succ]
          refine wpAnyH_ready (rs := [14]) (by kernel_rfl) (by simp) ?_
          refine AllReadyH.cons (o := { dst := some 163, op := Op.call { callee := Callee.value (Operand.func 21), args := #[Operand.tmp 162], argTypes := #[9] }, type := 39, pos := "laws.go:150", after := #[{ on := 13, ground := Ground.data }, { on := 12, ground := Ground.chain }, { on := 12, ground := Ground.guard }], guard := some (12, false) }) rfl (fun K hK => ?_) AllReadyH.nil
          go_simp
          go_at_call 21
          refine (T2.out _).mono ?_
          rintro e w4 ⟨rfl, hb4⟩
          replace S13 := S13.keep hb4
          clear hb4
          refine hK.out _ _ S13 (fun hHeld => ?_)
          clear hK K hHeld
          try simp only [Act.put, List.setIfInBounds_toArray, List.set_cons_zero, List.set_cons_succ]
          refine wpAnyH_take (i := 17) (oi := { dst := some 166, op := Op.binOp BinOp.eql 39 (Operand.tmp 163) (Operand.tmp 165) 39, type := 4, pos := "laws.go:150", after := #[{ on := 14, ground := Ground.data }, { on := 16, ground := Ground.data }, { on := 12, ground := Ground.guard }], guard := some (12, false) }) (v := ?vvefe17) rfl (by kernel_rfl) (by kernel_rfl) (by kernel_rfl) (fun _ _ _ h => h) (Or.inl ⟨by rfl, ?hyefe17⟩) S13 ?restefe17
          case hyefe17 => (intro w hSw; go_simp <;> with_reducible rfl)
          try simp only [Act.put, List.setIfInBounds_toArray, List.set_cons_zero, List.set_cons_succ]
          refine wpAnyH_take (i := 18) (oi := { dst := some 167, op := Op.pick (Operand.tmp 161) (Operand.const (Value.bool true)) (Operand.tmp 166), type := 4, pos := "laws.go:150", after := #[{ on := 12, ground := Ground.data }, { on := 17, ground := Ground.data }, { on := 9, ground := Ground.guard }], guard := some (9, true) }) (v := ?vvefe18) rfl (by kernel_rfl) (by kernel_rfl) (by kernel_rfl) (fun _ _ _ h => h) (Or.inl ⟨by rfl, ?hyefe18⟩) S13 ?restefe18
          case hyefe18 => (intro w hSw; go_simp <;> with_reducible rfl)
          try simp only [Act.put, List.setIfInBounds_toArray, List.set_cons_zero, List.set_cons_succ]
          refine wpAnyH_take (i := 19) (oi := { dst := some 168, op := Op.pick (Operand.tmp 158) (Operand.tmp 167) (Operand.const (Value.bool false)), type := 4, pos := "laws.go:150", after := #[{ on := 9, ground := Ground.data }, { on := 18, ground := Ground.data }], guard := none }) (v := ?vvefe19) rfl (by kernel_rfl) (by kernel_rfl) (by kernel_rfl) (fun _ _ _ h => h) (Or.inl ⟨by rfl, ?hyefe19⟩) S13 ?restefe19
          case hyefe19 => (intro w hSw; go_simp <;> with_reducible rfl)
          try simp only [Act.put, List.setIfInBounds_toArray, List.set_cons_zero, List.set_cons_succ]
          refine wpAnyH_take (i := 20) (oi := { dst := some 169, op := Op.move (Operand.tmp 168), type := 4, pos := "laws.go:150", after := #[{ on := 19, ground := Ground.data }, { on := 14, ground := Ground.chain }], guard := none }) (v := ?vvefe20) rfl (by kernel_rfl) (by kernel_rfl) (by kernel_rfl) (fun _ _ _ h => h) (Or.inl ⟨by rfl, ?hyefe20⟩) S13 ?restefe20
          case hyefe20 => (intro w hSw; go_simp <;> with_reducible rfl)
          try simp only [Act.put, List.setIfInBounds_toArray, List.set_cons_zero, List.set_cons_succ]
          refine wpAnyH_take (i := 21) (oi := { dst := some 170, op := Op.move (Operand.tmp 11), type := 9, pos := "laws.go:150", after := #[{ on := 20, ground := Ground.guard }], guard := some (20, true) }) (v := ?vvefe21) rfl (by kernel_rfl) (by kernel_rfl) (by kernel_rfl) (fun _ _ _ h => h) (Or.inl ⟨by rfl, ?hyefe21⟩) S13 ?restefe21
          case hyefe21 => (intro w hSw; go_simp <;> with_reducible rfl)
          try simp only [Act.put, List.setIfInBounds_toArray, List.set_cons_zero, List.set_cons_succ]
          refine wpAnyH_take (i := 22) (oi := { dst := some 171, op := Op.binOp BinOp.eql 9 (Operand.tmp 170) (Operand.const (Value.string { data := #[] })) 9, type := 4, pos := "laws.go:150", after := #[{ on := 21, ground := Ground.data }, { on := 20, ground := Ground.guard }], guard := some (20, true) }) (v := ?vvefe22) rfl (by kernel_rfl) (by kernel_rfl) (by kernel_rfl) (fun _ _ _ h => h) (Or.inl ⟨by rfl, ?hyefe22⟩) S13 ?restefe22
          case hyefe22 => (intro w hSw; go_simp <;> with_reducible rfl)
          try simp only [Act.put, List.setIfInBounds_toArray, List.set_cons_zero, List.set_cons_succ]
          refine wpAnyH_take (i := 23) (oi := { dst := some 172, op := Op.move (Operand.tmp 171), type := 4, pos := "laws.go:150", after := #[{ on := 22, ground := Ground.data }, { on := 20, ground := Ground.chain }, { on := 20, ground := Ground.guard }], guard := some (20, true) }) (v := ?vvefe23) rfl (by kernel_rfl) (by kernel_rfl) (by kernel_rfl) (fun _ _ _ h => h) (Or.inl ⟨by rfl, ?hyefe23⟩) S13 ?restefe23
          case hyefe23 => (intro w hSw; go_simp <;> with_reducible rfl)
          try simp only [Act.put, List.setIfInBounds_toArray, List.set_cons_zero, List.set_cons_succ]
          refine wpAnyH_take (i := 24) (oi := { dst := some 173, op := Op.move (Operand.tmp 11), type := 9, pos := "laws.go:150", after := #[{ on := 23, ground := Ground.guard }], guard := some (23, false) }) (v := undef) rfl (by kernel_rfl) (by kernel_rfl) (by kernel_rfl) (fun _ _ _ h => h) (Or.inr ⟨by rfl, rfl⟩) S13 ?_
          try simp only [Act.put, List.setIfInBounds_toArray, List.set_cons_zero, List.set_cons_succ]
          refine wpAnyH_take (i := 26) (oi := { dst := some 175, op := Op.move (Operand.tmp 7), type := 2, pos := "laws.go:150", after := #[{ on := 23, ground := Ground.guard }], guard := some (23, false) }) (v := undef) rfl (by kernel_rfl) (by kernel_rfl) (by kernel_rfl) (fun _ _ _ h => h) (Or.inr ⟨by rfl, rfl⟩) S13 ?_
          try simp only [Act.put, List.setIfInBounds_toArray, List.set_cons_zero, List.set_cons_succ]
          refine wpAnyH_take (i := 27) (oi := { dst := some 176, op := Op.move (Operand.tmp 8), type := 9, pos := "laws.go:150", after := #[{ on := 23, ground := Ground.guard }], guard := some (23, false) }) (v := undef) rfl (by kernel_rfl) (by kernel_rfl) (by kernel_rfl) (fun _ _ _ h => h) (Or.inr ⟨by rfl, rfl⟩) S13 ?_
          try simp only [Act.put, List.setIfInBounds_toArray, List.set_cons_zero, List.set_cons_succ]
          refine wpAnyH_take (i := 28) (oi := { dst := some 177, op := Op.build 42 #[(0, Operand.tmp 175), (1, Operand.tmp 176)], type := 42, pos := "laws.go:150", after := #[{ on := 26, ground := Ground.data }, { on := 27, ground := Ground.data }, { on := 23, ground := Ground.guard }], guard := some (23, false) }) (v := undef) rfl (by kernel_rfl) (by kernel_rfl) (by kernel_rfl) (fun _ _ _ h => h) (Or.inr ⟨by rfl, rfl⟩) S13 ?_
          try simp only [Act.put, List.setIfInBounds_toArray, List.set_cons_zero, List.set_cons_succ]
          refine wpAnyH_take (i := 25) (oi := { dst := some 174, op := Op.call { callee := Callee.value (Operand.func 22), args := #[Operand.tmp 173], argTypes := #[9] }, type := 42, pos := "laws.go:150", after := #[{ on := 24, ground := Ground.data }, { on := 23, ground := Ground.chain }, { on := 23, ground := Ground.guard }], guard := some (23, false) }) (v := undef) rfl (by kernel_rfl) (by kernel_rfl) (by kernel_rfl) (fun _ _ _ h => h) (Or.inr ⟨by rfl, rfl⟩) S13 ?_
          try simp only [Act.put, List.setIfInBounds_toArray, List.set_cons_zero, List.set_cons_succ]
          refine wpAnyH_take (i := 29) (oi := { dst := some 178, op := Op.binOp BinOp.eql 42 (Operand.tmp 174) (Operand.tmp 177) 42, type := 4, pos := "laws.go:150", after := #[{ on := 25, ground := Ground.data }, { on := 28, ground := Ground.data }, { on := 23, ground := Ground.guard }], guard := some (23, false) }) (v := undef) rfl (by kernel_rfl) (by kernel_rfl) (by kernel_rfl) (fun _ _ _ h => h) (Or.inr ⟨by rfl, rfl⟩) S13 ?_
          try simp only [Act.put, List.setIfInBounds_toArray, List.set_cons_zero, List.set_cons_succ]
          refine wpAnyH_take (i := 30) (oi := { dst := some 179, op := Op.pick (Operand.tmp 172) (Operand.const (Value.bool true)) (Operand.tmp 178), type := 4, pos := "laws.go:150", after := #[{ on := 23, ground := Ground.data }, { on := 29, ground := Ground.data }, { on := 20, ground := Ground.guard }], guard := some (20, true) }) (v := ?vvefe30) rfl (by kernel_rfl) (by kernel_rfl) (by kernel_rfl) (fun _ _ _ h => h) (Or.inl ⟨by rfl, ?hyefe30⟩) S13 ?restefe30
          case hyefe30 => (intro w hSw; go_simp <;> with_reducible rfl)
          try simp only [Act.put, List.setIfInBounds_toArray, List.set_cons_zero, List.set_cons_succ]
          refine wpAnyH_take (i := 31) (oi := { dst := some 180, op := Op.pick (Operand.tmp 169) (Operand.tmp 179) (Operand.const (Value.bool false)), type := 4, pos := "laws.go:150", after := #[{ on := 20, ground := Ground.data }, { on := 30, ground := Ground.data }], guard := none }) (v := ?vvefe31) rfl (by kernel_rfl) (by kernel_rfl) (by kernel_rfl) (fun _ _ _ h => h) (Or.inl ⟨by rfl, ?hyefe31⟩) S13 ?restefe31
          case hyefe31 => (intro w hSw; go_simp <;> with_reducible rfl)
          try simp only [Act.put, List.setIfInBounds_toArray, List.set_cons_zero, List.set_cons_succ]
          refine wpAnyH_take (i := 32) (oi := { dst := some 4, op := Op.assign (Operand.tmp 180), type := 4, pos := "laws.go:150", after := #[{ on := 31, ground := Ground.data }, { on := 25, ground := Ground.chain }, { on := 0, ground := Ground.phase }, { on := 1, ground := Ground.phase }, { on := 2, ground := Ground.phase }, { on := 3, ground := Ground.phase }, { on := 4, ground := Ground.phase }, { on := 5, ground := Ground.phase }, { on := 6, ground := Ground.phase }, { on := 7, ground := Ground.phase }, { on := 8, ground := Ground.phase }, { on := 9, ground := Ground.phase }, { on := 10, ground := Ground.phase }, { on := 11, ground := Ground.phase }, { on := 12, ground := Ground.phase }, { on := 13, ground := Ground.phase }, { on := 14, ground := Ground.phase }, { on := 15, ground := Ground.phase }, { on := 16, ground := Ground.phase }, { on := 17, ground := Ground.phase }, { on := 18, ground := Ground.phase }, { on := 19, ground := Ground.phase }, { on := 20, ground := Ground.phase }, { on := 21, ground := Ground.phase }, { on := 22, ground := Ground.phase }, { on := 23, ground := Ground.phase }, { on := 24, ground := Ground.phase }, { on := 25, ground := Ground.phase }, { on := 26, ground := Ground.phase }, { on := 27, ground := Ground.phase }, { on := 28, ground := Ground.phase }, { on := 29, ground := Ground.phase }, { on := 30, ground := Ground.phase }, { on := 31, ground := Ground.phase }], guard := none }) (v := ?vvefe32) rfl (by kernel_rfl) (by kernel_rfl) (by kernel_rfl) (fun _ _ _ h => h) (Or.inl ⟨by rfl, ?hyefe32⟩) S13 ?restefe32
          case hyefe32 => (intro w hSw; go_simp <;> with_reducible rfl)
          try simp only [Act.put, List.setIfInBounds_toArray, List.set_cons_zero, List.set_cons_succ]
          refine wpAnyH_done (by kernel_rfl) ?_ _
          go_wp2_with fail
          go_ret
          exact ⟨rfl, S13.low⟩
      · obtain ⟨hr1, hr2⟩ := empty_f hr
        rw [eR] at T3
        unfold vxOutV at T3
        clear hr eR
        as_aux_lemma =>
          clear F1 F2 F3
          clear T1
          clear SD
          refine wp_region_held_drew (S := fun W' => Fr5 w W' P R ta fr k b op mac ip tm ti X0 X1 X2 Xb Xc Y0 Y1 Y2 Y3 Y4 Yc Z0 Zt Zc) (by kernel_rfl) S13 (fun hHeld => ?_)
          clear hHeld
          refine wpAnyH_take (i := 0) (oi := { dst := some 149, op := Op.move (Operand.tmp 9), type := 9, pos := "laws.go:150", after := #[], guard := none }) (v := ?vveff0) rfl (by kernel_rfl) (by kernel_rfl) (by kernel_rfl) (fun _ _ _ h => h) (Or.inl ⟨by rfl, ?hyeff0⟩) S13 ?resteff0
          case hyeff0 => (intro w hSw; go_simp <;> with_reducible rfl)
          try simp only [Act.put, List.setIfInBounds_toArray, List.set_cons_zero, List.set_cons_succ]
          refine wpAnyH_take (i := 1) (oi := { dst := some 150, op := Op.binOp BinOp.eql 9 (Operand.tmp 149) (Operand.const (Value.string { data := #[] })) 9, type := 4, pos := "laws.go:150", after := #[{ on := 0, ground := Ground.data }], guard := none }) (v := ?vveff1) rfl (by kernel_rfl) (by kernel_rfl) (by kernel_rfl) (fun _ _ _ h => h) (Or.inl ⟨by rfl, ?hyeff1⟩) S13 ?resteff1
          case hyeff1 => (intro w hSw; go_simp <;> with_reducible rfl)
          try simp only [Act.put, List.setIfInBounds_toArray, List.set_cons_zero, List.set_cons_succ]
          refine wpAnyH_take (i := 2) (oi := { dst := some 151, op := Op.move (Operand.tmp 150), type := 4, pos := "laws.go:150", after := #[{ on := 1, ground := Ground.data }], guard := none }) (v := ?vveff2) rfl (by kernel_rfl) (by kernel_rfl) (by kernel_rfl) (fun _ _ _ h => h) (Or.inl ⟨by rfl, ?hyeff2⟩) S13 ?resteff2
          case hyeff2 => (intro w hSw; go_simp <;> with_reducible rfl)
          try simp only [Act.put, List.setIfInBounds_toArray, List.set_cons_zero, List.set_cons_succ]
          refine wpAnyH_take (i := 3) (oi := { dst := some 152, op := Op.move (Operand.tmp 9), type := 9, pos := "laws.go:150", after := #[{ on := 2, ground := Ground.guard }], guard := some (2, false) }) (v := undef) rfl (by kernel_rfl) (by kernel_rfl) (by kernel_rfl) (fun _ _ _ h => h) (Or.inr ⟨by rfl, rfl⟩) S13 ?_
          try simp only [Act.put, List.setIfInBounds_toArray, List.set_cons_zero, List.set_cons_succ]
          refine wpAnyH_take (i := 5) (oi := { dst := some 154, op := Op.load 24 (Operand.tmp 5), type := 24, pos := "laws.go:150", after := #[{ on := 2, ground := Ground.guard }], guard := some (2, false) }) (v := undef) rfl (by kernel_rfl) (by kernel_rfl) (by kernel_rfl) (fun _ _ _ h => h) (Or.inr ⟨by rfl, rfl⟩) S13 ?_
          try simp only [Act.put, List.setIfInBounds_toArray, List.set_cons_zero, List.set_cons_succ]
          refine wpAnyH_take (i := 6) (oi := { dst := some 155, op := Op.build 36 #[(0, Operand.tmp 154)], type := 36, pos := "laws.go:150", after := #[{ on := 5, ground := Ground.data }, { on := 2, ground := Ground.guard }], guard := some (2, false) }) (v := undef) rfl (by kernel_rfl) (by kernel_rfl) (by kernel_rfl) (fun _ _ _ h => h) (Or.inr ⟨by rfl, rfl⟩) S13 ?_
          try simp only [Act.put, List.setIfInBounds_toArray, List.set_cons_zero, List.set_cons_succ]
          refine wpAnyH_take (i := 4) (oi := { dst := some 153, op := Op.call { callee := Callee.value (Operand.func 20), args := #[Operand.tmp 152], argTypes := #[9] }, type := 36, pos := "laws.go:150", after := #[{ on := 3, ground := Ground.data }, { on := 2, ground := Ground.chain }, { on := 2, ground := Ground.guard }], guard := some (2, false) }) (v := undef) rfl (by kernel_rfl) (by kernel_rfl) (by kernel_rfl) (fun _ _ _ h => h) (Or.inr ⟨by rfl, rfl⟩) S13 ?_
          try simp only [Act.put, List.setIfInBounds_toArray, List.set_cons_zero, List.set_cons_succ]
          refine wpAnyH_take (i := 7) (oi := { dst := some 156, op := Op.binOp BinOp.eql 36 (Operand.tmp 153) (Operand.tmp 155) 36, type := 4, pos := "laws.go:150", after := #[{ on := 4, ground := Ground.data }, { on := 6, ground := Ground.data }, { on := 2, ground := Ground.guard }], guard := some (2, false) }) (v := undef) rfl (by kernel_rfl) (by kernel_rfl) (by kernel_rfl) (fun _ _ _ h => h) (Or.inr ⟨by rfl, rfl⟩) S13 ?_
          try simp only [Act.put, List.setIfInBounds_toArray, List.set_cons_zero, List.set_cons_succ]
          refine wpAnyH_take (i := 8) (oi := { dst := some 157, op := Op.pick (Operand.tmp 151) (Operand.const (Value.bool true)) (Operand.tmp 156), type := 4, pos := "laws.go:150", after := #[{ on := 2, ground := Ground.data }, { on := 7, ground := Ground.data }], guard := none }) (v := ?vveff8) rfl (by kernel_rfl) (by kernel_rfl) (by kernel_rfl) (fun _ _ _ h => h) (Or.inl ⟨by rfl, ?hyeff8⟩) S13 ?resteff8
          case hyeff8 => (intro w hSw; go_simp <;> with_reducible rfl)
          try simp only [Act.put, List.setIfInBounds_toArray, List.set_cons_zero, List.set_cons_succ]
          refine wpAnyH_take (i := 9) (oi := { dst := some 158, op := Op.move (Operand.tmp 157), type := 4, pos := "laws.go:150", after := #[{ on := 8, ground := Ground.data }, { on := 4, ground := Ground.chain }], guard := none }) (v := ?vveff9) rfl (by kernel_rfl) (by kernel_rfl) (by kernel_rfl) (fun _ _ _ h => h) (Or.inl ⟨by rfl, ?hyeff9⟩) S13 ?resteff9
          case hyeff9 => (intro w hSw; go_simp <;> with_reducible rfl)
          try simp only [Act.put, List.setIfInBounds_toArray, List.set_cons_zero, List.set_cons_succ]
          refine wpAnyH_take (i := 10) (oi := { dst := some 159, op := Op.move (Operand.tmp 10), type := 9, pos := "laws.go:150", after := #[{ on := 9, ground := Ground.guard }], guard := some (9, true) }) (v := ?vveff10) rfl (by kernel_rfl) (by kernel_rfl) (by kernel_rfl) (fun _ _ _ h => h) (Or.inl ⟨by rfl, ?hyeff10⟩) S13 ?resteff10
          case hyeff10 => (intro w hSw; go_simp <;> with_reducible rfl)
          try simp only [Act.put, List.setIfInBounds_toArray, List.set_cons_zero, List.set_cons_succ]
          refine wpAnyH_take (i := 11) (oi := { dst := some 160, op := Op.binOp BinOp.eql 9 (Operand.tmp 159) (Operand.const (Value.string { data := #[] })) 9, type := 4, pos := "laws.go:150", after := #[{ on := 10, ground := Ground.data }, { on := 9, ground := Ground.guard }], guard := some (9, true) }) (v := ?vveff11) rfl (by kernel_rfl) (by kernel_rfl) (by kernel_rfl) (fun _ _ _ h => h) (Or.inl ⟨by rfl, ?hyeff11⟩) S13 ?resteff11
          case hyeff11 => (intro w hSw; go_simp <;> with_reducible rfl)
          try simp only [Act.put, List.setIfInBounds_toArray, List.set_cons_zero, List.set_cons_succ]
          refine wpAnyH_take (i := 12) (oi := { dst := some 161, op := Op.move (Operand.tmp 160), type := 4, pos := "laws.go:150", after := #[{ on := 11, ground := Ground.data }, { on := 9, ground := Ground.chain }, { on := 9, ground := Ground.guard }], guard := some (9, true) }) (v := ?vveff12) rfl (by kernel_rfl) (by kernel_rfl) (by kernel_rfl) (fun _ _ _ h => h) (Or.inl ⟨by rfl, ?hyeff12⟩) S13 ?resteff12
          case hyeff12 => (intro w hSw; go_simp <;> with_reducible rfl)
          try simp only [Act.put, List.setIfInBounds_toArray, List.set_cons_zero, List.set_cons_succ]
          refine wpAnyH_take (i := 13) (oi := { dst := some 162, op := Op.move (Operand.tmp 10), type := 9, pos := "laws.go:150", after := #[{ on := 12, ground := Ground.guard }], guard := some (12, false) }) (v := ?vveff13) rfl (by kernel_rfl) (by kernel_rfl) (by kernel_rfl) (fun _ _ _ h => h) (Or.inl ⟨by rfl, ?hyeff13⟩) S13 ?resteff13
          case hyeff13 => (intro w hSw; go_simp <;> with_reducible rfl)
          try simp only [Act.put, List.setIfInBounds_toArray, List.set_cons_zero, List.set_cons_succ]
          refine wpAnyH_take (i := 15) (oi := { dst := some 164, op := Op.load 27 (Operand.tmp 6), type := 27, pos := "laws.go:150", after := #[{ on := 12, ground := Ground.guard }], guard := some (12, false) }) (v := ?vveff15) rfl (by kernel_rfl) (by kernel_rfl) (by kernel_rfl) (fun _ _ _ h => h) (Or.inl ⟨by rfl, ?hyeff15⟩) S13 ?resteff15
          case hyeff15 => (intro w hSw; go_simp <;> with_reducible rfl)
          try simp only [Act.put, List.setIfInBounds_toArray, List.set_cons_zero, List.set_cons_succ]
          refine wpAnyH_take (i := 16) (oi := { dst := some 165, op := Op.build 39 #[(0, Operand.tmp 164)], type := 39, pos := "laws.go:150", after := #[{ on := 15, ground := Ground.data }, { on := 12, ground := Ground.guard }], guard := some (12, false) }) (v := ?vveff16) rfl (by kernel_rfl) (by kernel_rfl) (by kernel_rfl) (fun _ _ _ h => h) (Or.inl ⟨by rfl, ?hyeff16⟩) S13 ?resteff16
          case hyeff16 => (intro w hSw; go_simp <;> with_reducible rfl)
          try simp only [Act.put, List.setIfInBounds_toArray, List.set_cons_zero, List.set_cons_succ]
          refine wpAnyH_ready (rs := [14]) (by kernel_rfl) (by simp) ?_
          refine AllReadyH.cons (o := { dst := some 163, op := Op.call { callee := Callee.value (Operand.func 21), args := #[Operand.tmp 162], argTypes := #[9] }, type := 39, pos := "laws.go:150", after := #[{ on := 13, ground := Ground.data }, { on := 12, ground := Ground.chain }, { on := 12, ground := Ground.guard }], guard := some (12, false) }) rfl (fun K hK => ?_) AllReadyH.nil
          go_simp
          go_at_call 21
          refine (T2.out _).mono ?_
          rintro e w4 ⟨rfl, hb4⟩
          replace S13 := S13.keep hb4
          clear hb4
          refine hK.out _ _ S13 (fun hHeld => ?_)
          clear hK K hHeld
          try simp only [Act.put, List.setIfInBounds_toArray, List.set_cons_zero, List.set_cons_succ]
          refine wpAnyH_take (i := 17) (oi := { dst := some 166, op := Op.binOp BinOp.eql 39 (Operand.tmp 163) (Operand.tmp 165) 39, type := 4, pos := "laws.go:150", after := #[{ on := 14, ground := Ground.data }, { on := 16, ground := Ground.data }, { on := 12, ground := Ground.guard }], guard := some (12, false) }) (v := ?vveff17) rfl (by kernel_rfl) (by kernel_rfl) (by kernel_rfl) (fun _ _ _ h => h) (Or.inl ⟨by rfl, ?hyeff17⟩) S13 ?resteff17
          case hyeff17 => (intro w hSw; go_simp <;> with_reducible rfl)
          try simp only [Act.put, List.setIfInBounds_toArray, List.set_cons_zero, List.set_cons_succ]
          refine wpAnyH_take (i := 18) (oi := { dst := some 167, op := Op.pick (Operand.tmp 161) (Operand.const (Value.bool true)) (Operand.tmp 166), type := 4, pos := "laws.go:150", after := #[{ on := 12, ground := Ground.data }, { on := 17, ground := Ground.data }, { on := 9, ground := Ground.guard }], guard := some (9, true) }) (v := ?vveff18) rfl (by kernel_rfl) (by kernel_rfl) (by kernel_rfl) (fun _ _ _ h => h) (Or.inl ⟨by rfl, ?hyeff18⟩) S13 ?resteff18
          case hyeff18 => (intro w hSw; go_simp <;> with_reducible rfl)
          try simp only [Act.put, List.setIfInBounds_toArray, List.set_cons_zero, List.set_cons_succ]
          refine wpAnyH_take (i := 19) (oi := { dst := some 168, op := Op.pick (Operand.tmp 158) (Operand.tmp 167) (Operand.const (Value.bool false)), type := 4, pos := "laws.go:150", after := #[{ on := 9, ground := Ground.data }, { on := 18, ground := Ground.data }], guard := none }) (v := ?vveff19) rfl (by kernel_rfl) (by kernel_rfl) (by kernel_rfl) (fun _ _ _ h => h) (Or.inl ⟨by rfl, ?hyeff19⟩) S13 ?resteff19
          case hyeff19 => (intro w hSw; go_simp <;> with_reducible rfl)
          try simp only [Act.put, List.setIfInBounds_toArray, List.set_cons_zero, List.set_cons_succ]
          refine wpAnyH_take (i := 20) (oi := { dst := some 169, op := Op.move (Operand.tmp 168), type := 4, pos := "laws.go:150", after := #[{ on := 19, ground := Ground.data }, { on := 14, ground := Ground.chain }], guard := none }) (v := ?vveff20) rfl (by kernel_rfl) (by kernel_rfl) (by kernel_rfl) (fun _ _ _ h => h) (Or.inl ⟨by rfl, ?hyeff20⟩) S13 ?resteff20
          case hyeff20 => (intro w hSw; go_simp <;> with_reducible rfl)
          try simp only [Act.put, List.setIfInBounds_toArray, List.set_cons_zero, List.set_cons_succ]
          refine wpAnyH_take (i := 21) (oi := { dst := some 170, op := Op.move (Operand.tmp 11), type := 9, pos := "laws.go:150", after := #[{ on := 20, ground := Ground.guard }], guard := some (20, true) }) (v := ?vveff21) rfl (by kernel_rfl) (by kernel_rfl) (by kernel_rfl) (fun _ _ _ h => h) (Or.inl ⟨by rfl, ?hyeff21⟩) S13 ?resteff21
          case hyeff21 => (intro w hSw; go_simp <;> with_reducible rfl)
          try simp only [Act.put, List.setIfInBounds_toArray, List.set_cons_zero, List.set_cons_succ]
          refine wpAnyH_take (i := 22) (oi := { dst := some 171, op := Op.binOp BinOp.eql 9 (Operand.tmp 170) (Operand.const (Value.string { data := #[] })) 9, type := 4, pos := "laws.go:150", after := #[{ on := 21, ground := Ground.data }, { on := 20, ground := Ground.guard }], guard := some (20, true) }) (v := ?vveff22) rfl (by kernel_rfl) (by kernel_rfl) (by kernel_rfl) (fun _ _ _ h => h) (Or.inl ⟨by rfl, ?hyeff22⟩) S13 ?resteff22
          case hyeff22 => (intro w hSw; go_simp <;> with_reducible rfl)
          try simp only [Act.put, List.setIfInBounds_toArray, List.set_cons_zero, List.set_cons_succ]
          refine wpAnyH_take (i := 23) (oi := { dst := some 172, op := Op.move (Operand.tmp 171), type := 4, pos := "laws.go:150", after := #[{ on := 22, ground := Ground.data }, { on := 20, ground := Ground.chain }, { on := 20, ground := Ground.guard }], guard := some (20, true) }) (v := ?vveff23) rfl (by kernel_rfl) (by kernel_rfl) (by kernel_rfl) (fun _ _ _ h => h) (Or.inl ⟨by rfl, ?hyeff23⟩) S13 ?resteff23
          case hyeff23 => (intro w hSw; go_simp <;> with_reducible rfl)
          try simp only [Act.put, List.setIfInBounds_toArray, List.set_cons_zero, List.set_cons_succ]
          refine wpAnyH_take (i := 24) (oi := { dst := some 173, op := Op.move (Operand.tmp 11), type := 9, pos := "laws.go:150", after := #[{ on := 23, ground := Ground.guard }], guard := some (23, false) }) (v := ?vveff24) rfl (by kernel_rfl) (by kernel_rfl) (by kernel_rfl) (fun _ _ _ h => h) (Or.inl ⟨by rfl, ?hyeff24⟩) S13 ?resteff24
          case hyeff24 => (intro w hSw; go_simp <;> with_reducible rfl)
          try simp only [Act.put, List.setIfInBounds_toArray, List.set_cons_zero, List.set_cons_succ]
          refine wpAnyH_take (i := 26) (oi := { dst := some 175, op := Op.move (Operand.tmp 7), type := 2, pos := "laws.go:150", after := #[{ on := 23, ground := Ground.guard }], guard := some (23, false) }) (v := ?vveff26) rfl (by kernel_rfl) (by kernel_rfl) (by kernel_rfl) (fun _ _ _ h => h) (Or.inl ⟨by rfl, ?hyeff26⟩) S13 ?resteff26
          case hyeff26 => (intro w hSw; go_simp <;> with_reducible rfl)
          try simp only [Act.put, List.setIfInBounds_toArray, List.set_cons_zero, List.set_cons_succ]
          refine wpAnyH_take (i := 27) (oi := { dst := some 176, op := Op.move (Operand.tmp 8), type := 9, pos := "laws.go:150", after := #[{ on := 23, ground := Ground.guard }], guard := some (23, false) }) (v := ?vveff27) rfl (by kernel_rfl) (by kernel_rfl) (by kernel_rfl) (fun _ _ _ h => h) (Or.inl ⟨by rfl, ?hyeff27⟩) S13 ?resteff27
          case hyeff27 => (intro w hSw; go_simp <;> with_reducible rfl)
          try simp only [Act.put, List.setIfInBounds_toArray, List.set_cons_zero, List.set_cons_succ]
          refine wpAnyH_take (i := 28) (oi := { dst := some 177, op := Op.build 42 #[(0, Operand.tmp 175), (1, Operand.tmp 176)], type := 42, pos := "laws.go:150", after := #[{ on := 26, ground := Ground.data }, { on := 27, ground := Ground.data }, { on := 23, ground := Ground.guard }], guard := some (23, false) }) (v := ?vveff28) rfl (by kernel_rfl) (by kernel_rfl) (by kernel_rfl) (fun _ _ _ h => h) (Or.inl ⟨by rfl, ?hyeff28⟩) S13 ?resteff28
          case hyeff28 => (intro w hSw; go_simp <;> with_reducible rfl)
          try simp only [Act.put, List.setIfInBounds_toArray, List.set_cons_zero, List.set_cons_succ]
          refine wpAnyH_ready (rs := [25]) (by kernel_rfl) (by simp) ?_
          refine AllReadyH.cons (o := { dst := some 174, op := Op.call { callee := Callee.value (Operand.func 22), args := #[Operand.tmp 173], argTypes := #[9] }, type := 42, pos := "laws.go:150", after := #[{ on := 24, ground := Ground.data }, { on := 23, ground := Ground.chain }, { on := 23, ground := Ground.guard }], guard := some (23, false) }) rfl (fun K hK => ?_) AllReadyH.nil
          go_simp
          go_at_call 22
          refine (T3.out _).mono ?_
          rintro e w4 ⟨rfl, hb4⟩
          replace S13 := S13.keep hb4
          clear hb4
          refine hK.out _ _ S13 (fun hHeld => ?_)
          clear hK K hHeld
          try simp only [Act.put, List.setIfInBounds_toArray, List.set_cons_zero, List.set_cons_succ]
          refine wpAnyH_take (i := 29) (oi := { dst := some 178, op := Op.binOp BinOp.eql 42 (Operand.tmp 174) (Operand.tmp 177) 42, type := 4, pos := "laws.go:150", after := #[{ on := 25, ground := Ground.data }, { on := 28, ground := Ground.data }, { on := 23, ground := Ground.guard }], guard := some (23, false) }) (v := ?vveff29) rfl (by kernel_rfl) (by kernel_rfl) (by kernel_rfl) (fun _ _ _ h => h) (Or.inl ⟨by rfl, ?hyeff29⟩) S13 ?resteff29
          case hyeff29 => (intro w hSw; go_simp <;> with_reducible rfl)
          try simp only [Act.put, List.setIfInBounds_toArray, List.set_cons_zero, List.set_cons_succ]
          refine wpAnyH_take (i := 30) (oi := { dst := some 179, op := Op.pick (Operand.tmp 172) (Operand.const (Value.bool true)) (Operand.tmp 178), type := 4, pos := "laws.go:150", after := #[{ on := 23, ground := Ground.data }, { on := 29, ground := Ground.data }, { on := 20, ground := Ground.guard }], guard := some (20, true) }) (v := ?vveff30) rfl (by kernel_rfl) (by kernel_rfl) (by kernel_rfl) (fun _ _ _ h => h) (Or.inl ⟨by rfl, ?hyeff30⟩) S13 ?resteff30
          case hyeff30 => (intro w hSw; go_simp <;> with_reducible rfl)
          try simp only [Act.put, List.setIfInBounds_toArray, List.set_cons_zero, List.set_cons_succ]
          refine wpAnyH_take (i := 31) (oi := { dst := some 180, op := Op.pick (Operand.tmp 169) (Operand.tmp 179) (Operand.const (Value.bool false)), type := 4, pos := "laws.go:150", after := #[{ on := 20, ground := Ground.data }, { on := 30, ground := Ground.data }], guard := none }) (v := ?vveff31) rfl (by kernel_rfl) (by kernel_rfl) (by kernel_rfl) (fun _ _ _ h => h) (Or.inl ⟨by rfl, ?hyeff31⟩) S13 ?resteff31
          case hyeff31 => (intro w hSw; go_simp <;> with_reducible rfl)
          try simp only [Act.put, List.setIfInBounds_toArray, List.set_cons_zero, List.set_cons_succ]
          refine wpAnyH_take (i := 32) (oi := { dst := some 4, op := Op.assign (Operand.tmp 180), type := 4, pos := "laws.go:150", after := #[{ on := 31, ground := Ground.data }, { on := 25, ground := Ground.chain }, { on := 0, ground := Ground.phase }, { on := 1, ground := Ground.phase }, { on := 2, ground := Ground.phase }, { on := 3, ground := Ground.phase }, { on := 4, ground := Ground.phase }, { on := 5, ground := Ground.phase }, { on := 6, ground := Ground.phase }, { on := 7, ground := Ground.phase }, { on := 8, ground := Ground.phase }, { on := 9, ground := Ground.phase }, { on := 10, ground := Ground.phase }, { on := 11, ground := Ground.phase }, { on := 12, ground := Ground.phase }, { on := 13, ground := Ground.phase }, { on := 14, ground := Ground.phase }, { on := 15, ground := Ground.phase }, { on := 16, ground := Ground.phase }, { on := 17, ground := Ground.phase }, { on := 18, ground := Ground.phase }, { on := 19, ground := Ground.phase }, { on := 20, ground := Ground.phase }, { on := 21, ground := Ground.phase }, { on := 22, ground := Ground.phase }, { on := 23, ground := Ground.phase }, { on := 24, ground := Ground.phase }, { on := 25, ground := Ground.phase }, { on := 26, ground := Ground.phase }, { on := 27, ground := Ground.phase }, { on := 28, ground := Ground.phase }, { on := 29, ground := Ground.phase }, { on := 30, ground := Ground.phase }, { on := 31, ground := Ground.phase }], guard := none }) (v := ?vveff32) rfl (by kernel_rfl) (by kernel_rfl) (by kernel_rfl) (fun _ _ _ h => h) (Or.inl ⟨by rfl, ?hyeff32⟩) S13 ?resteff32
          case hyeff32 => (intro w hSw; go_simp <;> with_reducible rfl)
          try simp only [Act.put, List.setIfInBounds_toArray, List.set_cons_zero, List.set_cons_succ]
          refine wpAnyH_done (by kernel_rfl) ?_ _
          go_wp2_with fail
          go_ret
          exact ⟨rfl, S13.low⟩
  · obtain ⟨hp1, hp2⟩ := empty_f hp
    rw [eP] at T1
    unfold ethOutV at T1
    clear hp eP
    rcases F2.out with hq | ⟨hq, eQ⟩
    · obtain ⟨hq1, hq2⟩ := empty_t hq
      clear hq
      rcases F3.out with hr | ⟨hr, eR⟩
      · obtain ⟨hr1, hr2⟩ := empty_t hr
        clear hr
        as_aux_lemma =>
          clear F1 F2 F3
          clear T2
          clear T3
          clear SD
          refine wp_region_held_drew (S := fun W' => Fr5 w W' P R ta fr k b op mac ip tm ti X0 X1 X2 Xb Xc Y0 Y1 Y2 Y3 Y4 Yc Z0 Zt Zc) (by kernel_rfl) S13 (fun hHeld => ?_)
          clear hHeld
          refine wpAnyH_take (i := 0) (oi := { dst := some 149, op := Op.move (Operand.tmp 9), type := 9, pos := "laws.go:150", after := #[], guard := none }) (v := ?vvfee0) rfl (by kernel_rfl) (by kernel_rfl) (by kernel_rfl) (fun _ _ _ h => h) (Or.inl ⟨by rfl, ?hyfee0⟩) S13 ?restfee0
          case hyfee0 => (intro w hSw; go_simp <;> with_reducible rfl)
          try simp only [Act.put, List.setIfInBounds_toArray, List.set_cons_zero, List.set_cons_succ]
          refine wpAnyH_take (i := 1) (oi := { dst := some 150, op := Op.binOp BinOp.eql 9 (Operand.tmp 149) (Operand.const (Value.string { data := #[] })) 9, type := 4, pos := "laws.go:150", after := #[{ on := 0, ground := Ground.data }], guard := none }) (v := ?vvfee1) rfl (by kernel_rfl) (by kernel_rfl) (by kernel_rfl) (fun _ _ _ h => h) (Or.inl ⟨by rfl, ?hyfee1⟩) S13 ?restfee1
          case hyfee1 => (intro w hSw; go_simp <;> with_reducible rfl)
          try simp only [Act.put, List.setIfInBounds_toArray, List.set_cons_zero, List.set_cons_succ]
          refine wpAnyH_take (i := 2) (oi := { dst := some 151, op := Op.move (Operand.tmp 150), type := 4, pos := "laws.go:150", after := #[{ on := 1, ground := Ground.data }], guard := none }) (v := ?vvfee2) rfl (by kernel_rfl) (by kernel_rfl) (by kernel_rfl) (fun _ _ _ h => h) (Or.inl ⟨by rfl, ?hyfee2⟩) S13 ?restfee2
          case hyfee2 => (intro w hSw; go_simp <;> with_reducible rfl)
          try simp only [Act.put, List.setIfInBounds_toArray, List.set_cons_zero, List.set_cons_succ]
          refine wpAnyH_take (i := 3) (oi := { dst := some 152, op := Op.move (Operand.tmp 9), type := 9, pos := "laws.go:150", after := #[{ on := 2, ground := Ground.guard }], guard := some (2, false) }) (v := ?vvfee3) rfl (by kernel_rfl) (by kernel_rfl) (by kernel_rfl) (fun _ _ _ h => h) (Or.inl ⟨by rfl, ?hyfee3⟩) S13 ?restfee3
          case hyfee3 => (intro w hSw; go_simp <;> with_reducible rfl)
          try simp only [Act.put, List.setIfInBounds_toArray, List.set_cons_zero, List.set_cons_succ]
          refine wpAnyH_take (i := 5) (oi := { dst := some 154, op := Op.load 24 (Operand.tmp 5), type := 24, pos := "laws.go:150", after := #[{ on := 2, ground := Ground.guard }], guard := some (2, false) }) (v := ?vvfee5) rfl (by kernel_rfl) (by kernel_rfl) (by kernel_rfl) (fun _ _ _ h => h) (Or.inl ⟨by rfl, ?hyfee5⟩) S13 ?restfee5
          case hyfee5 => (intro w hSw; go_simp <;> with_reducible rfl)
          try simp only [Act.put, List.setIfInBounds_toArray, List.set_cons_zero, List.set_cons_succ]
          refine wpAnyH_take (i := 6) (oi := { dst := some 155, op := Op.build 36 #[(0, Operand.tmp 154)], type := 36, pos := "laws.go:150", after := #[{ on := 5, ground := Ground.data }, { on := 2, ground := Ground.guard }], guard := some (2, false) }) (v := ?vvfee6) rfl (by kernel_rfl) (by kernel_rfl) (by kernel_rfl) (fun _ _ _ h => h) (Or.inl ⟨by rfl, ?hyfee6⟩) S13 ?restfee6
          case hyfee6 => (intro w hSw; go_simp <;> with_reducible rfl)
          try simp only [Act.put, List.setIfInBounds_toArray, List.set_cons_zero, List.set_cons_succ]
          refine wpAnyH_ready (rs := [4]) (by kernel_rfl) (by simp) ?_
          refine AllReadyH.cons (o := { dst := some 153, op := Op.call { callee := Callee.value (Operand.func 20), args := #[Operand.tmp 152], argTypes := #[9] }, type := 36, pos := "laws.go:150", after := #[{ on := 3, ground := Ground.data }, { on := 2, ground := Ground.chain }, { on := 2, ground := Ground.guard }], guard := some (2, false) }) rfl (fun K hK => ?_) AllReadyH.nil
          go_simp
          go_at_call 20
          refine (T1.out _).mono ?_
          rintro e w4 ⟨rfl, hb4⟩
          replace S13 := S13.keep hb4
          clear hb4
          refine hK.out _ _ S13 (fun hHeld => ?_)
          clear hK K hHeld
          try simp only [Act.put, List.setIfInBounds_toArray, List.set_cons_zero, List.set_cons_succ]
          refine wpAnyH_take (i := 7) (oi := { dst := some 156, op := Op.binOp BinOp.eql 36 (Operand.tmp 153) (Operand.tmp 155) 36, type := 4, pos := "laws.go:150", after := #[{ on := 4, ground := Ground.data }, { on := 6, ground := Ground.data }, { on := 2, ground := Ground.guard }], guard := some (2, false) }) (v := ?vvfee7) rfl (by kernel_rfl) (by kernel_rfl) (by kernel_rfl) (fun _ _ _ h => h) (Or.inl ⟨by rfl, ?hyfee7⟩) S13 ?restfee7
          case hyfee7 => (intro w hSw; go_simp <;> with_reducible rfl)
          try simp only [Act.put, List.setIfInBounds_toArray, List.set_cons_zero, List.set_cons_succ]
          refine wpAnyH_take (i := 8) (oi := { dst := some 157, op := Op.pick (Operand.tmp 151) (Operand.const (Value.bool true)) (Operand.tmp 156), type := 4, pos := "laws.go:150", after := #[{ on := 2, ground := Ground.data }, { on := 7, ground := Ground.data }], guard := none }) (v := ?vvfee8) rfl (by kernel_rfl) (by kernel_rfl) (by kernel_rfl) (fun _ _ _ h => h) (Or.inl ⟨by rfl, ?hyfee8⟩) S13 ?restfee8
          case hyfee8 => (intro w hSw; go_simp <;> with_reducible rfl)
          try simp only [Act.put, List.setIfInBounds_toArray, List.set_cons_zero, List.set_cons_succ]
          refine wpAnyH_take (i := 9) (oi := { dst := some 158, op := Op.move (Operand.tmp 157), type := 4, pos := "laws.go:150", after := #[{ on := 8, ground := Ground.data }, { on := 4, ground := Ground.chain }], guard := none }) (v := ?vvfee9) rfl (by kernel_rfl) (by kernel_rfl) (by kernel_rfl) (fun _ _ _ h => h) (Or.inl ⟨by rfl, ?hyfee9⟩) S13 ?restfee9
          case hyfee9 => (intro w hSw; go_simp <;> with_reducible rfl)
          try simp only [Act.put, List.setIfInBounds_toArray, List.set_cons_zero, List.set_cons_succ]
          refine wpAnyH_take (i := 10) (oi := { dst := some 159, op := Op.move (Operand.tmp 10), type := 9, pos := "laws.go:150", after := #[{ on := 9, ground := Ground.guard }], guard := some (9, true) }) (v := ?vvfee10) rfl (by kernel_rfl) (by kernel_rfl) (by kernel_rfl) (fun _ _ _ h => h) (Or.inl ⟨by rfl, ?hyfee10⟩) S13 ?restfee10
          case hyfee10 => (intro w hSw; go_simp <;> with_reducible rfl)
          try simp only [Act.put, List.setIfInBounds_toArray, List.set_cons_zero, List.set_cons_succ]
          refine wpAnyH_take (i := 11) (oi := { dst := some 160, op := Op.binOp BinOp.eql 9 (Operand.tmp 159) (Operand.const (Value.string { data := #[] })) 9, type := 4, pos := "laws.go:150", after := #[{ on := 10, ground := Ground.data }, { on := 9, ground := Ground.guard }], guard := some (9, true) }) (v := ?vvfee11) rfl (by kernel_rfl) (by kernel_rfl) (by kernel_rfl) (fun _ _ _ h => h) (Or.inl ⟨by rfl, ?hyfee11⟩) S13 ?restfee11
          case hyfee11 => (intro w hSw; go_simp <;> with_reducible rfl)
          try simp only [Act.put, List.setIfInBounds_toArray, List.set_cons_zero, List.set_cons_succ]
          refine wpAnyH_take (i := 12) (oi := { dst := some 161, op := Op.move (Operand.tmp 160), type := 4, pos := "laws.go:150", after := #[{ on := 11, ground := Ground.data }, { on := 9, ground := Ground.chain }, { on := 9, ground := Ground.guard }], guard := some (9, true) }) (v := ?vvfee12) rfl (by kernel_rfl) (by kernel_rfl) (by kernel_rfl) (fun _ _ _ h => h) (Or.inl ⟨by rfl, ?hyfee12⟩) S13 ?restfee12
          case hyfee12 => (intro w hSw; go_simp <;> with_reducible rfl)
          try simp only [Act.put, List.setIfInBounds_toArray, List.set_cons_zero, List.set_cons_succ]
          refine wpAnyH_take (i := 13) (oi := { dst := some 162, op := Op.move (Operand.tmp 10), type := 9, pos := "laws.go:150", after := #[{ on := 12, ground := Ground.guard }], guard := some (12, false) }) (v := undef) rfl (by kernel_rfl) (by kernel_rfl) (by kernel_rfl) (fun _ _ _ h => h) (Or.inr ⟨by rfl, rfl⟩) S13 ?_
          try simp only [Act.put, List.setIfInBounds_toArray, List.set_cons_zero, List.set_cons_succ]
          refine wpAnyH_take (i := 15) (oi := { dst := some 164, op := Op.load 27 (Operand.tmp 6), type := 27, pos := "laws.go:150", after := #[{ on := 12, ground := Ground.guard }], guard := some (12, false) }) (v := undef) rfl (by kernel_rfl) (by kernel_rfl) (by kernel_rfl) (fun _ _ _ h => h) (Or.inr ⟨by rfl, rfl⟩) S13 ?_
          try simp only [Act.put, List.setIfInBounds_toArray, List.set_cons_zero, List.set_cons_succ]
          refine wpAnyH_take (i := 16) (oi := { dst := some 165, op := Op.build 39 #[(0, Operand.tmp 164)], type := 39, pos := "laws.go:150", after := #[{ on := 15, ground := Ground.data }, { on := 12, ground := Ground.guard }], guard := some (12, false) }) (v := undef) rfl (by kernel_rfl) (by kernel_rfl) (by kernel_rfl) (fun _ _ _ h => h) (Or.inr ⟨by rfl, rfl⟩) S13 ?_
          try simp only [Act.put, List.setIfInBounds_toArray, List.set_cons_zero, List.set_cons_succ]
          refine wpAnyH_take (i := 14) (oi := { dst := some 163, op := Op.call { callee := Callee.value (Operand.func 21), args := #[Operand.tmp 162], argTypes := #[9] }, type := 39, pos := "laws.go:150", after := #[{ on := 13, ground := Ground.data }, { on := 12, ground := Ground.chain }, { on := 12, ground := Ground.guard }], guard := some (12, false) }) (v := undef) rfl (by kernel_rfl) (by kernel_rfl) (by kernel_rfl) (fun _ _ _ h => h) (Or.inr ⟨by rfl, rfl⟩) S13 ?_
          try simp only [Act.put, List.setIfInBounds_toArray, List.set_cons_zero, List.set_cons_succ]
          refine wpAnyH_take (i := 17) (oi := { dst := some 166, op := Op.binOp BinOp.eql 39 (Operand.tmp 163) (Operand.tmp 165) 39, type := 4, pos := "laws.go:150", after := #[{ on := 14, ground := Ground.data }, { on := 16, ground := Ground.data }, { on := 12, ground := Ground.guard }], guard := some (12, false) }) (v := undef) rfl (by kernel_rfl) (by kernel_rfl) (by kernel_rfl) (fun _ _ _ h => h) (Or.inr ⟨by rfl, rfl⟩) S13 ?_
          try simp only [Act.put, List.setIfInBounds_toArray, List.set_cons_zero, List.set_cons_succ]
          refine wpAnyH_take (i := 18) (oi := { dst := some 167, op := Op.pick (Operand.tmp 161) (Operand.const (Value.bool true)) (Operand.tmp 166), type := 4, pos := "laws.go:150", after := #[{ on := 12, ground := Ground.data }, { on := 17, ground := Ground.data }, { on := 9, ground := Ground.guard }], guard := some (9, true) }) (v := ?vvfee18) rfl (by kernel_rfl) (by kernel_rfl) (by kernel_rfl) (fun _ _ _ h => h) (Or.inl ⟨by rfl, ?hyfee18⟩) S13 ?restfee18
          case hyfee18 => (intro w hSw; go_simp <;> with_reducible rfl)
          try simp only [Act.put, List.setIfInBounds_toArray, List.set_cons_zero, List.set_cons_succ]
          refine wpAnyH_take (i := 19) (oi := { dst := some 168, op := Op.pick (Operand.tmp 158) (Operand.tmp 167) (Operand.const (Value.bool false)), type := 4, pos := "laws.go:150", after := #[{ on := 9, ground := Ground.data }, { on := 18, ground := Ground.data }], guard := none }) (v := ?vvfee19) rfl (by kernel_rfl) (by kernel_rfl) (by kernel_rfl) (fun _ _ _ h => h) (Or.inl ⟨by rfl, ?hyfee19⟩) S13 ?restfee19
          case hyfee19 => (intro w hSw; go_simp <;> with_reducible rfl)
          try simp only [Act.put, List.setIfInBounds_toArray, List.set_cons_zero, List.set_cons_succ]
          refine wpAnyH_take (i := 20) (oi := { dst := some 169, op := Op.move (Operand.tmp 168), type := 4, pos := "laws.go:150", after := #[{ on := 19, ground := Ground.data }, { on := 14, ground := Ground.chain }], guard := none }) (v := ?vvfee20) rfl (by kernel_rfl) (by kernel_rfl) (by kernel_rfl) (fun _ _ _ h => h) (Or.inl ⟨by rfl, ?hyfee20⟩) S13 ?restfee20
          case hyfee20 => (intro w hSw; go_simp <;> with_reducible rfl)
          try simp only [Act.put, List.setIfInBounds_toArray, List.set_cons_zero, List.set_cons_succ]
          refine wpAnyH_take (i := 21) (oi := { dst := some 170, op := Op.move (Operand.tmp 11), type := 9, pos := "laws.go:150", after := #[{ on := 20, ground := Ground.guard }], guard := some (20, true) }) (v := ?vvfee21) rfl (by kernel_rfl) (by kernel_rfl) (by kernel_rfl) (fun _ _ _ h => h) (Or.inl ⟨by rfl, ?hyfee21⟩) S13 ?restfee21
          case hyfee21 => (intro w hSw; go_simp <;> with_reducible rfl)
          try simp only [Act.put, List.setIfInBounds_toArray, List.set_cons_zero, List.set_cons_succ]
          refine wpAnyH_take (i := 22) (oi := { dst := some 171, op := Op.binOp BinOp.eql 9 (Operand.tmp 170) (Operand.const (Value.string { data := #[] })) 9, type := 4, pos := "laws.go:150", after := #[{ on := 21, ground := Ground.data }, { on := 20, ground := Ground.guard }], guard := some (20, true) }) (v := ?vvfee22) rfl (by kernel_rfl) (by kernel_rfl) (by kernel_rfl) (fun _ _ _ h => h) (Or.inl ⟨by rfl, ?hyfee22⟩) S13 ?restfee22
          case hyfee22 => (intro w hSw; go_simp <;> with_reducible rfl)
          try simp only [Act.put, List.setIfInBounds_toArray, List.set_cons_zero, List.set_cons_succ]
          refine wpAnyH_take (i := 23) (oi := { dst := some 172, op := Op.move (Operand.tmp 171), type := 4, pos := "laws.go:150", after := #[{ on := 22, ground := Ground.data }, { on := 20, ground := Ground.chain }, { on := 20, ground := Ground.guard }], guard := some (20, true) }) (v := ?vvfee23) rfl (by kernel_rfl) (by kernel_rfl) (by kernel_rfl) (fun _ _ _ h => h) (Or.inl ⟨by rfl, ?hyfee23⟩) S13 ?restfee23
          case hyfee23 => (intro w hSw; go_simp <;> with_reducible rfl)
          try simp only [Act.put, List.setIfInBounds_toArray, List.set_cons_zero, List.set_cons_succ]
          refine wpAnyH_take (i := 24) (oi := { dst := some 173, op := Op.move (Operand.tmp 11), type := 9, pos := "laws.go:150", after := #[{ on := 23, ground := Ground.guard }], guard := some (23, false) }) (v := undef) rfl (by kernel_rfl) (by kernel_rfl) (by kernel_rfl) (fun _ _ _ h => h) (Or.inr ⟨by rfl, rfl⟩) S13 ?_
          try simp only [Act.put, List.setIfInBounds_toArray, List.set_cons_zero, List.set_cons_succ]
          refine wpAnyH_take (i := 26) (oi := { dst := some 175, op := Op.move (Operand.tmp 7), type := 2, pos := "laws.go:150", after := #[{ on := 23, ground := Ground.guard }], guard := some (23, false) }) (v := undef) rfl (by kernel_rfl) (by kernel_rfl) (by kernel_rfl) (fun _ _ _ h => h) (Or.inr ⟨by rfl, rfl⟩) S13 ?_
          try simp only [Act.put, List.setIfInBounds_toArray, List.set_cons_zero, List.set_cons_succ]
          refine wpAnyH_take (i := 27) (oi := { dst := some 176, op := Op.move (Operand.tmp 8), type := 9, pos := "laws.go:150", after := #[{ on := 23, ground := Ground.guard }], guard := some (23, false) }) (v := undef) rfl (by kernel_rfl) (by kernel_rfl) (by kernel_rfl) (fun _ _ _ h => h) (Or.inr ⟨by rfl, rfl⟩) S13 ?_
          try simp only [Act.put, List.setIfInBounds_toArray, List.set_cons_zero, List.set_cons_succ]
          refine wpAnyH_take (i := 28) (oi := { dst := some 177, op := Op.build 42 #[(0, Operand.tmp 175), (1, Operand.tmp 176)], type := 42, pos := "laws.go:150", after := #[{ on := 26, ground := Ground.data }, { on := 27, ground := Ground.data }, { on := 23, ground := Ground.guard }], guard := some (23, false) }) (v := undef) rfl (by kernel_rfl) (by kernel_rfl) (by kernel_rfl) (fun _ _ _ h => h) (Or.inr ⟨by rfl, rfl⟩) S13 ?_
          try simp only [Act.put, List.setIfInBounds_toArray, List.set_cons_zero, List.set_cons_succ]
          refine wpAnyH_take (i := 25) (oi := { dst := some 174, op := Op.call { callee := Callee.value (Operand.func 22), args := #[Operand.tmp 173], argTypes := #[9] }, type := 42, pos := "laws.go:150", after := #[{ on := 24, ground := Ground.data }, { on := 23, ground := Ground.chain }, { on := 23, ground := Ground.guard }], guard := some (23, false) }) (v := undef) rfl (by kernel_rfl) (by kernel_rfl) (by kernel_rfl) (fun _ _ _ h => h) (Or.inr ⟨by rfl, rfl⟩) S13 ?_
          try simp only [Act.put, List.setIfInBounds_toArray, List.set_cons_zero, List.set_cons_succ]
          refine wpAnyH_take (i := 29) (oi := { dst := some 178, op := Op.binOp BinOp.eql 42 (Operand.tmp 174) (Operand.tmp 177) 42, type := 4, pos := "laws.go:150", after := #[{ on := 25, ground := Ground.data }, { on := 28, ground := Ground.data }, { on := 23, ground := Ground.guard }], guard := some (23, false) }) (v := undef) rfl (by kernel_rfl) (by kernel_rfl) (by kernel_rfl) (fun _ _ _ h => h) (Or.inr ⟨by rfl, rfl⟩) S13 ?_
          try simp only [Act.put, List.setIfInBounds_toArray, List.set_cons_zero, List.set_cons_succ]
          refine wpAnyH_take (i := 30) (oi := { dst := some 179, op := Op.pick (Operand.tmp 172) (Operand.const (Value.bool true)) (Operand.tmp 178), type := 4, pos := "laws.go:150", after := #[{ on := 23, ground := Ground.data }, { on := 29, ground := Ground.data }, { on := 20, ground := Ground.guard }], guard := some (20, true) }) (v := ?vvfee30) rfl (by kernel_rfl) (by kernel_rfl) (by kernel_rfl) (fun _ _ _ h => h) (Or.inl ⟨by rfl, ?hyfee30⟩) S13 ?restfee30
          case hyfee30 => (intro w hSw; go_simp <;> with_reducible rfl)
          try simp only [Act.put, List.setIfInBounds_toArray, List.set_cons_zero, List.set_cons_succ]
          refine wpAnyH_take (i := 31) (oi := { dst := some 180, op := Op.pick (Operand.tmp 169) (Operand.tmp 179) (Operand.const (Value.bool false)), type := 4, pos := "laws.go:150", after := #[{ on := 20, ground := Ground.data }, { on := 30, ground := Ground.data }], guard := none }) (v := ?vvfee31) rfl (by kernel_rfl) (by kernel_rfl) (by kernel_rfl) (fun _ _ _ h => h) (Or.inl ⟨by rfl, ?hyfee31⟩) S13 ?restfee31
          case hyfee31 => (intro w hSw; go_simp <;> with_reducible rfl)
          try simp only [Act.put, List.setIfInBounds_toArray, List.set_cons_zero, List.set_cons_succ]
          refine wpAnyH_take (i := 32) (oi := { dst := some 4, op := Op.assign (Operand.tmp 180), type := 4, pos := "laws.go:150", after := #[{ on := 31, ground := Ground.data }, { on := 25, ground := Ground.chain }, { on := 0, ground := Ground.phase }, { on := 1, ground := Ground.phase }, { on := 2, ground := Ground.phase }, { on := 3, ground := Ground.phase }, { on := 4, ground := Ground.phase }, { on := 5, ground := Ground.phase }, { on := 6, ground := Ground.phase }, { on := 7, ground := Ground.phase }, { on := 8, ground := Ground.phase }, { on := 9, ground := Ground.phase }, { on := 10, ground := Ground.phase }, { on := 11, ground := Ground.phase }, { on := 12, ground := Ground.phase }, { on := 13, ground := Ground.phase }, { on := 14, ground := Ground.phase }, { on := 15, ground := Ground.phase }, { on := 16, ground := Ground.phase }, { on := 17, ground := Ground.phase }, { on := 18, ground := Ground.phase }, { on := 19, ground := Ground.phase }, { on := 20, ground := Ground.phase }, { on := 21, ground := Ground.phase }, { on := 22, ground := Ground.phase }, { on := 23, ground := Ground.phase }, { on := 24, ground := Ground.phase }, { on := 25, ground := Ground.phase }, { on := 26, ground := Ground.phase }, { on := 27, ground := Ground.phase }, { on := 28, ground := Ground.phase }, { on := 29, ground := Ground.phase }, { on := 30, ground := Ground.phase }, { on := 31, ground := Ground.phase }], guard := none }) (v := ?vvfee32) rfl (by kernel_rfl) (by kernel_rfl) (by kernel_rfl) (fun _ _ _ h => h) (Or.inl ⟨by rfl, ?hyfee32⟩) S13 ?restfee32
          case hyfee32 => (intro w hSw; go_simp <;> with_reducible rfl)
          try simp only [Act.put, List.setIfInBounds_toArray, List.set_cons_zero, List.set_cons_succ]
          refine wpAnyH_done (by kernel_rfl) ?_ _
          go_wp2_with fail
          go_ret
          exact ⟨rfl, S13.low⟩
      · obtain ⟨hr1, hr2⟩ := empty_f hr
        rw [eR] at T3
        unfold vxOutV at T3
        clear hr eR
        as_aux_lemma =>
          clear F1 F2 F3
          clear T2
          clear SD
          refine wp_region_held_drew (S := fun W' => Fr5 w W' P R ta fr k b op mac ip tm ti X0 X1 X2 Xb Xc Y0 Y1 Y2 Y3 Y4 Yc Z0 Zt Zc) (by kernel_rfl) S13 (fun hHeld => ?_)
          clear hHeld
          refine wpAnyH_take (i := 0) (oi := { dst := some 149, op := Op.move (Operand.tmp 9), type := 9, pos := "laws.go:150", after := #[], guard := none }) (v := ?vvfef0) rfl (by kernel_rfl) (by kernel_rfl) (by kernel_rfl) (fun _ _ _ h => h) (Or.inl ⟨by rfl, ?hyfef0⟩) S13 ?restfef0
          case hyfef0 => (intro w hSw; go_simp <;> with_reducible rfl)
          try simp only [Act.put, List.setIfInBounds_toArray, List.set_cons_zero, List.set_cons_succ]
          refine wpAnyH_take (i := 1) (oi := { dst := some 150, op := Op.binOp BinOp.eql 9 (Operand.tmp 149) (Operand.const (Value.string { data := #[] })) 9, type := 4, pos := "laws.go:150", after := #[{ on := 0, ground := Ground.data }], guard := none }) (v := ?vvfef1) rfl (by kernel_rfl) (by kernel_rfl) (by kernel_rfl) (fun _ _ _ h => h) (Or.inl ⟨by rfl, ?hyfef1⟩) S13 ?restfef1
          case hyfef1 => (intro w hSw; go_simp <;> with_reducible rfl)
          try simp only [Act.put, List.setIfInBounds_toArray, List.set_cons_zero, List.set_cons_succ]
          refine wpAnyH_take (i := 2) (oi := { dst := some 151, op := Op.move (Operand.tmp 150), type := 4, pos := "laws.go:150", after := #[{ on := 1, ground := Ground.data }], guard := none }) (v := ?vvfef2) rfl (by kernel_rfl) (by kernel_rfl) (by kernel_rfl) (fun _ _ _ h => h) (Or.inl ⟨by rfl, ?hyfef2⟩) S13 ?restfef2
          case hyfef2 => (intro w hSw; go_simp <;> with_reducible rfl)
          try simp only [Act.put, List.setIfInBounds_toArray, List.set_cons_zero, List.set_cons_succ]
          refine wpAnyH_take (i := 3) (oi := { dst := some 152, op := Op.move (Operand.tmp 9), type := 9, pos := "laws.go:150", after := #[{ on := 2, ground := Ground.guard }], guard := some (2, false) }) (v := ?vvfef3) rfl (by kernel_rfl) (by kernel_rfl) (by kernel_rfl) (fun _ _ _ h => h) (Or.inl ⟨by rfl, ?hyfef3⟩) S13 ?restfef3
          case hyfef3 => (intro w hSw; go_simp <;> with_reducible rfl)
          try simp only [Act.put, List.setIfInBounds_toArray, List.set_cons_zero, List.set_cons_succ]
          refine wpAnyH_take (i := 5) (oi := { dst := some 154, op := Op.load 24 (Operand.tmp 5), type := 24, pos := "laws.go:150", after := #[{ on := 2, ground := Ground.guard }], guard := some (2, false) }) (v := ?vvfef5) rfl (by kernel_rfl) (by kernel_rfl) (by kernel_rfl) (fun _ _ _ h => h) (Or.inl ⟨by rfl, ?hyfef5⟩) S13 ?restfef5
          case hyfef5 => (intro w hSw; go_simp <;> with_reducible rfl)
          try simp only [Act.put, List.setIfInBounds_toArray, List.set_cons_zero, List.set_cons_succ]
          refine wpAnyH_take (i := 6) (oi := { dst := some 155, op := Op.build 36 #[(0, Operand.tmp 154)], type := 36, pos := "laws.go:150", after := #[{ on := 5, ground := Ground.data }, { on := 2, ground := Ground.guard }], guard := some (2, false) }) (v := ?vvfef6) rfl (by kernel_rfl) (by kernel_rfl) (by kernel_rfl) (fun _ _ _ h => h) (Or.inl ⟨by rfl, ?hyfef6⟩) S13 ?restfef6
          case hyfef6 => (intro w hSw; go_simp <;> with_reducible rfl)
          try simp only [Act.put, List.setIfInBounds_toArray, List.set_cons_zero, List.set_cons_succ]
          refine wpAnyH_ready (rs := [4]) (by kernel_rfl) (by simp) ?_
          refine AllReadyH.cons (o := { dst := some 153, op := Op.call { callee := Callee.value (Operand.func 20), args := #[Operand.tmp 152], argTypes := #[9] }, type := 36, pos := "laws.go:150", after := #[{ on := 3, ground := Ground.data }, { on := 2, ground := Ground.chain }, { on := 2, ground := Ground.guard }], guard := some (2, false) }) rfl (fun K hK => ?_) AllReadyH.nil
          go_simp
          go_at_call 20
          refine (T1.out _).mono ?_
          rintro e w4 ⟨rfl, hb4⟩
          replace S13 := S13.keep hb4
          clear hb4
          refine hK.out _ _ S13 (fun hHeld => ?_)
          clear hK K hHeld
          try simp only [Act.put, List.setIfInBounds_toArray, List.set_cons_zero, List.set_cons_succ]
          refine wpAnyH_take (i := 7) (oi := { dst := some 156, op := Op.binOp BinOp.eql 36 (Operand.tmp 153) (Operand.tmp 155) 36, type := 4, pos := "laws.go:150", after := #[{ on := 4, ground := Ground.data }, { on := 6, ground := Ground.data }, { on := 2, ground := Ground.guard }], guard := some (2, false) }) (v := ?vvfef7) rfl (by kernel_rfl) (by kernel_rfl) (by kernel_rfl) (fun _ _ _ h => h) (Or.inl ⟨by rfl, ?hyfef7⟩) S13 ?restfef7
          case hyfef7 => (intro w hSw; go_simp <;> with_reducible rfl)
          try simp only [Act.put, List.setIfInBounds_toArray, List.set_cons_zero, List.set_cons_succ]
          refine wpAnyH_take (i := 8) (oi := { dst := some 157, op := Op.pick (Operand.tmp 151) (Operand.const (Value.bool true)) (Operand.tmp 156), type := 4, pos := "laws.go:150", after := #[{ on := 2, ground := Ground.data }, { on := 7, ground := Ground.data }], guard := none }) (v := ?vvfef8) rfl (by kernel_rfl) (by kernel_rfl) (by kernel_rfl) (fun _ _ _ h => h) (Or.inl ⟨by rfl, ?hyfef8⟩) S13 ?restfef8
          case hyfef8 => (intro w hSw; go_simp <;> with_reducible rfl)
          try simp only [Act.put, List.setIfInBounds_toArray, List.set_cons_zero, List.set_cons_succ]
          refine wpAnyH_take (i := 9) (oi := { dst := some 158, op := Op.move (Operand.tmp 157), type := 4, pos := "laws.go:150", after := #[{ on := 8, ground := Ground.data }, { on := 4, ground := Ground.chain }], guard := none }) (v := ?vvfef9) rfl (by kernel_rfl) (by kernel_rfl) (by kernel_rfl) (fun _ _ _ h => h) (Or.inl ⟨by rfl, ?hyfef9⟩) S13 ?restfef9
          case hyfef9 => (intro w hSw; go_simp <;> with_reducible rfl)
          try simp only [Act.put, List.setIfInBounds_toArray, List.set_cons_zero, List.set_cons_succ]
          refine wpAnyH_take (i := 10) (oi := { dst := some 159, op := Op.move (Operand.tmp 10), type := 9, pos := "laws.go:150", after := #[{ on := 9, ground := Ground.guard }], guard := some (9, true) }) (v := ?vvfef10) rfl (by kernel_rfl) (by kernel_rfl) (by kernel_rfl) (fun _ _ _ h => h) (Or.inl ⟨by rfl, ?hyfef10⟩) S13 ?restfef10
          case hyfef10 => (intro w hSw; go_simp <;> with_reducible rfl)
          try simp only [Act.put, List.setIfInBounds_toArray, List.set_cons_zero, List.set_cons_succ]
          refine wpAnyH_take (i := 11) (oi := { dst := some 160, op := Op.binOp BinOp.eql 9 (Operand.tmp 159) (Operand.const (Value.string { data := #[] })) 9, type := 4, pos := "laws.go:150", after := #[{ on := 10, ground := Ground.data }, { on := 9, ground := Ground.guard }], guard := some (9, true) }) (v := ?vvfef11) rfl (by kernel_rfl) (by kernel_rfl) (by kernel_rfl) (fun _ _ _ h => h) (Or.inl ⟨by rfl, ?hyfef11⟩) S13 ?restfef11
          case hyfef11 => (intro w hSw; go_simp <;> with_reducible rfl)
          try simp only [Act.put, List.setIfInBounds_toArray, List.set_cons_zero, List.set_cons_succ]
          refine wpAnyH_take (i := 12) (oi := { dst := some 161, op := Op.move (Operand.tmp 160), type := 4, pos := "laws.go:150", after := #[{ on := 11, ground := Ground.data }, { on := 9, ground := Ground.chain }, { on := 9, ground := Ground.guard }], guard := some (9, true) }) (v := ?vvfef12) rfl (by kernel_rfl) (by kernel_rfl) (by kernel_rfl) (fun _ _ _ h => h) (Or.inl ⟨by rfl, ?hyfef12⟩) S13 ?restfef12
          case hyfef12 => (intro w hSw; go_simp <;> with_reducible rfl)
          try simp only [Act.put, List.setIfInBounds_toArray, List.set_cons_zero, List.set_cons_succ]
          refine wpAnyH_take (i := 13) (oi := { dst := some 162, op := Op.move (Operand.tmp 10), type := 9, pos := "laws.go:150", after := #[{ on := 12, ground := Ground.guard }], guard := some (12, false) }) (v := undef) rfl (by kernel_rfl) (by kernel_rfl) (by kernel_rfl) (fun _ _ _ h => h) (Or.inr ⟨by rfl, rfl⟩) S13 ?_
          try simp only [Act.put, List.setIfInBounds_toArray, List.set_cons_zero, List.set_cons_succ]
          refine wpAnyH_take (i := 15) (oi := { dst := some 164, op := Op.load 27 (Operand.tmp 6), type := 27, pos := "laws.go:150", after := #[{ on := 12, ground := Ground.guard }], guard := some (12, false) }) (v := undef) rfl (by kernel_rfl) (by kernel_rfl) (by kernel_rfl) (fun _ _ _ h => h) (Or.inr ⟨by rfl, rfl⟩) S13 ?_
          try simp only [Act.put, List.setIfInBounds_toArray, List.set_cons_zero, List.set_cons_succ]
          refine wpAnyH_take (i := 16) (oi := { dst := some 165, op := Op.build 39 #[(0, Operand.tmp 164)], type := 39, pos := "laws.go:150", after := #[{ on := 15, ground := Ground.data }, { on := 12, ground := Ground.guard }], guard := some (12, false) }) (v := undef) rfl (by kernel_rfl) (by kernel_rfl) (by kernel_rfl) (fun _ _ _ h => h) (Or.inr ⟨by rfl, rfl⟩) S13 ?_
          try simp only [Act.put, List.setIfInBounds_toArray, List.set_cons_zero, List.set_cons_succ]
          refine wpAnyH_take (i := 14) (oi := { dst := some 163, op := Op.call { callee := Callee.value (Operand.func 21), args := #[Operand.tmp 162], argTypes := #[9] }, type := 39, pos := "laws.go:150", after := #[{ on := 13, ground := Ground.data }, { on := 12, ground := Ground.chain }, { on := 12, ground := Ground.guard }], guard := some (12, false) }) (v := undef) rfl (by kernel_rfl) (by kernel_rfl) (by kernel_rfl) (fun _ _ _ h => h) (Or.inr ⟨by rfl, rfl⟩) S13 ?_
          try simp only [Act.put, List.setIfInBounds_toArray, List.set_cons_zero, List.set_cons_succ]
          refine wpAnyH_take (i := 17) (oi := { dst := some 166, op := Op.binOp BinOp.eql 39 (Operand.tmp 163) (Operand.tmp 165) 39, type := 4, pos := "laws.go:150", after := #[{ on := 14, ground := Ground.data }, { on := 16, ground := Ground.data }, { on := 12, ground := Ground.guard }], guard := some (12, false) }) (v := undef) rfl (by kernel_rfl) (by kernel_rfl) (by kernel_rfl) (fun _ _ _ h => h) (Or.inr ⟨by rfl, rfl⟩) S13 ?_
          try simp only [Act.put, List.setIfInBounds_toArray, List.set_cons_zero, List.set_cons_succ]
          refine wpAnyH_take (i := 18) (oi := { dst := some 167, op := Op.pick (Operand.tmp 161) (Operand.const (Value.bool true)) (Operand.tmp 166), type := 4, pos := "laws.go:150", after := #[{ on := 12, ground := Ground.data }, { on := 17, ground := Ground.data }, { on := 9, ground := Ground.guard }], guard := some (9, true) }) (v := ?vvfef18) rfl (by kernel_rfl) (by kernel_rfl) (by kernel_rfl) (fun _ _ _ h => h) (Or.inl ⟨by rfl, ?hyfef18⟩) S13 ?restfef18
          case hyfef18 => (intro w hSw; go_simp <;> with_reducible rfl)
          try simp only [Act.put, List.setIfInBounds_toArray, List.set_cons_zero, List.set_cons_succ]
          refine wpAnyH_take (i := 19) (oi := { dst := some 168, op := Op.pick (Operand.tmp 158) (Operand.tmp 167) (Operand.const (Value.bool false)), type := 4, pos := "laws.go:150", after := #[{ on := 9, ground := Ground.data }, { on := 18, ground := Ground.data }], guard := none }) (v := ?vvfef19) rfl (by kernel_rfl) (by kernel_rfl) (by kernel_rfl) (fun _ _ _ h => h) (Or.inl ⟨by rfl, ?hyfef19⟩) S13 ?restfef19
          case hyfef19 => (intro w hSw; go_simp <;> with_reducible rfl)
          try simp only [Act.put, List.setIfInBounds_toArray, List.set_cons_zero, List.set_cons_succ]
          refine wpAnyH_take (i := 20) (oi := { dst := some 169, op := Op.move (Operand.tmp 168), type := 4, pos := "laws.go:150", after := #[{ on := 19, ground := Ground.data }, { on := 14, ground := Ground.chain }], guard := none }) (v := ?vvfef20) rfl (by kernel_rfl) (by kernel_rfl) (by kernel_rfl) (fun _ _ _ h => h) (Or.inl ⟨by rfl, ?hyfef20⟩) S13 ?restfef20
          case hyfef20 => (intro w hSw; go_simp <;> with_reducible rfl)
          try simp only [Act.put, List.setIfInBounds_toArray, List.set_cons_zero, List.set_cons_succ]
          refine wpAnyH_take (i := 21) (oi := { dst := some 170, op := Op.move (Operand.tmp 11), type := 9, pos := "laws.go:150", after := #[{ on := 20, ground := Ground.guard }], guard := some (20, true) }) (v := ?vvfef21) rfl (by kernel_rfl) (by kernel_rfl) (by kernel_rfl) (fun _ _ _ h => h) (Or.inl ⟨by rfl, ?hyfef21⟩) S13 ?restfef21
          case hyfef21 => (intro w hSw; go_simp <;> with_reducible rfl)
          try simp only [Act.put, List.setIfInBounds_toArray, List.set_cons_zero, List.set_cons_succ]
          refine wpAnyH_take (i := 22) (oi := { dst := some 171, op := Op.binOp BinOp.eql 9 (Operand.tmp 170) (Operand.const (Value.string { data := #[] })) 9, type := 4, pos := "laws.go:150", after := #[{ on := 21, ground := Ground.data }, { on := 20, ground := Ground.guard }], guard := some (20, true) }) (v := ?vvfef22) rfl (by kernel_rfl) (by kernel_rfl) (by kernel_rfl) (fun _ _ _ h => h) (Or.inl ⟨by rfl, ?hyfef22⟩) S13 ?restfef22
          case hyfef22 => (intro w hSw; go_simp <;> with_reducible rfl)
          try simp only [Act.put, List.setIfInBounds_toArray, List.set_cons_zero, List.set_cons_succ]
          refine wpAnyH_take (i := 23) (oi := { dst := some 172, op := Op.move (Operand.tmp 171), type := 4, pos := "laws.go:150", after := #[{ on := 22, ground := Ground.data }, { on := 20, ground := Ground.chain }, { on := 20, ground := Ground.guard }], guard := some (20, true) }) (v := ?vvfef23) rfl (by kernel_rfl) (by kernel_rfl) (by kernel_rfl) (fun _ _ _ h => h) (Or.inl ⟨by rfl, ?hyfef23⟩) S13 ?restfef23
          case hyfef23 => (intro w hSw; go_simp <;> with_reducible rfl)
          try simp only [Act.put, List.setIfInBounds_toArray, List.set_cons_zero, List.set_cons_succ]
          refine wpAnyH_take (i := 24) (oi := { dst := some 173, op := Op.move (Operand.tmp 11), type := 9, pos := "laws.go:150", after := #[{ on := 23, ground := Ground.guard }], guard := some (23, false) }) (v := ?vvfef24) rfl (by kernel_rfl) (by kernel_rfl) (by kernel_rfl) (fun _ _ _ h => h) (Or.inl ⟨by rfl, ?hyfef24⟩) S13 ?restfef24
          case hyfef24 => (intro w hSw; go_simp <;> with_reducible rfl)
          try simp only [Act.put, List.setIfInBounds_toArray, List.set_cons_zero, List.set_cons_succ]
          refine wpAnyH_take (i := 26) (oi := { dst := some 175, op := Op.move (Operand.tmp 7), type := 2, pos := "laws.go:150", after := #[{ on := 23, ground := Ground.guard }], guard := some (23, false) }) (v := ?vvfef26) rfl (by kernel_rfl) (by kernel_rfl) (by kernel_rfl) (fun _ _ _ h => h) (Or.inl ⟨by rfl, ?hyfef26⟩) S13 ?restfef26
          case hyfef26 => (intro w hSw; go_simp <;> with_reducible rfl)
          try simp only [Act.put, List.setIfInBounds_toArray, List.set_cons_zero, List.set_cons_succ]
          refine wpAnyH_take (i := 27) (oi := { dst := some 176, op := Op.move (Operand.tmp 8), type := 9, pos := "laws.go:150", after := #[{ on := 23, ground := Ground.guard }], guard := some (23, false) }) (v := ?vvfef27) rfl (by kernel_rfl) (by kernel_rfl) (by kernel_rfl) (fun _ _ _ h => h) (Or.inl ⟨by rfl, ?hyfef27⟩) S13 ?restfef27
          case hyfef27 => (intro w hSw; go_simp <;> with_reducible rfl)
          try simp only [Act.put, List.setIfInBounds_toArray, List.set_cons_zero, List.set_cons_succ]
          refine wpAnyH_take (i := 28) (oi := { dst := some 177, op := Op.build 42 #[(0, Operand.tmp 175), (1, Operand.tmp 176)], type := 42, pos := "laws.go:150", after := #[{ on := 26, ground := Ground.data }, { on := 27, ground := Ground.data }, { on := 23, ground := Ground.guard }], guard := some (23, false) }) (v := ?vvfef28) rfl (by kernel_rfl) (by kernel_rfl) (by kernel_rfl) (fun _ _ _ h => h) (Or.inl ⟨by rfl, ?hyfef28⟩) S13 ?restfef28
          case hyfef28 => (intro w hSw; go_simp <;> with_reducible rfl)
          try simp only [Act.put, List.setIfInBounds_toArray, List.set_cons_zero, List.set_cons_succ]
          refine wpAnyH_ready (rs := [25]) (by kernel_rfl) (by simp) ?_
          refine AllReadyH.cons (o := { dst := some 174, op := Op.call { callee := Callee.value (Operand.func 22), args := #[Operand.tmp 173], argTypes := #[9] }, type := 42, pos := "laws.go:150", after := #[{ on := 24, ground := Ground.data }, { on := 23, ground := Ground.chain }, { on := 23, ground := Ground.guard }], guard := some (23, false) }) rfl (fun K hK => ?_) AllReadyH.nil
          go_simp
          go_at_call 22
          refine (T3.out _).mono ?_
          rintro e w4 ⟨rfl, hb4⟩
          replace S13 := S13.keep hb4
          clear hb4
          refine hK.out _ _ S13 (fun hHeld => ?_)
          clear hK K hHeld
          try simp only [Act.put, List.setIfInBounds_toArray, List.set_cons_zero, List.set_cons_succ]
          refine wpAnyH_take (i := 29) (oi := { dst := some 178, op := Op.binOp BinOp.eql 42 (Operand.tmp 174) (Operand.tmp 177) 42, type := 4, pos := "laws.go:150", after := #[{ on := 25, ground := Ground.data }, { on := 28, ground := Ground.data }, { on := 23, ground := Ground.guard }], guard := some (23, false) }) (v := ?vvfef29) rfl (by kernel_rfl) (by kernel_rfl) (by kernel_rfl) (fun _ _ _ h => h) (Or.inl ⟨by rfl, ?hyfef29⟩) S13 ?restfef29
          case hyfef29 => (intro w hSw; go_simp <;> with_reducible rfl)
          try simp only [Act.put, List.setIfInBounds_toArray, List.set_cons_zero, List.set_cons_succ]
          refine wpAnyH_take (i := 30) (oi := { dst := some 179, op := Op.pick (Operand.tmp 172) (Operand.const (Value.bool true)) (Operand.tmp 178), type := 4, pos := "laws.go:150", after := #[{ on := 23, ground := Ground.data }, { on := 29, ground := Ground.data }, { on := 20, ground := Ground.guard }], guard := some (20, true) }) (v := ?vvfef30) rfl (by kernel_rfl) (by kernel_rfl) (by kernel_rfl) (fun _ _ _ h => h) (Or.inl ⟨by rfl, ?hyfef30⟩) S13 ?restfef30
          case hyfef30 => (intro w hSw; go_simp <;> with_reducible rfl)
          try simp only [Act.put, List.setIfInBounds_toArray, List.set_cons_zero, List.set_cons_succ]
          refine wpAnyH_take (i := 31) (oi := { dst := some 180, op := Op.pick (Operand.tmp 169) (Operand.tmp 179) (Operand.const (Value.bool false)), type := 4, pos := "laws.go:150", after := #[{ on := 20, ground := Ground.data }, { on := 30, ground := Ground.data }], guard := none }) (v := ?vvfef31) rfl (by kernel_rfl) (by kernel_rfl) (by kernel_rfl) (fun _ _ _ h => h) (Or.inl ⟨by rfl, ?hyfef31⟩) S13 ?restfef31
          case hyfef31 => (intro w hSw; go_simp <;> with_reducible rfl)
          try simp only [Act.put, List.setIfInBounds_toArray, List.set_cons_zero, List.set_cons_succ]
          refine wpAnyH_take (i := 32) (oi := { dst := some 4, op := Op.assign (Operand.tmp 180), type := 4, pos := "laws.go:150", after := #[{ on := 31, ground := Ground.data }, { on := 25, ground := Ground.chain }, { on := 0, ground := Ground.phase }, { on := 1, ground := Ground.phase }, { on := 2, ground := Ground.phase }, { on := 3, ground := Ground.phase }, { on := 4, ground := Ground.phase }, { on := 5, ground := Ground.phase }, { on := 6, ground := Ground.phase }, { on := 7, ground := Ground.phase }, { on := 8, ground := Ground.phase }, { on := 9, ground := Ground.phase }, { on := 10, ground := Ground.phase }, { on := 11, ground := Ground.phase }, { on := 12, ground := Ground.phase }, { on := 13, ground := Ground.phase }, { on := 14, ground := Ground.phase }, { on := 15, ground := Ground.phase }, { on := 16, ground := Ground.phase }, { on := 17, ground := Ground.phase }, { on := 18, ground := Ground.phase }, { on := 19, ground := Ground.phase }, { on := 20, ground := Ground.phase }, { on := 21, ground := Ground.phase }, { on := 22, ground := Ground.phase }, { on := 23, ground := Ground.phase }, { on := 24, ground := Ground.phase }, { on := 25, ground := Ground.phase }, { on := 26, ground := Ground.phase }, { on := 27, ground := Ground.phase }, { on := 28, ground := Ground.phase }, { on := 29, ground := Ground.phase }, { on := 30, ground := Ground.phase }, { on := 31, ground := Ground.phase }], guard := none }) (v := ?vvfef32) rfl (by kernel_rfl) (by kernel_rfl) (by kernel_rfl) (fun _ _ _ h => h) (Or.inl ⟨by rfl, ?hyfef32⟩) S13 ?restfef32
          case hyfef32 => (intro w hSw; go_simp <;> with_reducible rfl)
          try simp only [Act.put, List.setIfInBounds_toArray, List.set_cons_zero, List.set_cons_succ]
          refine wpAnyH_done (by kernel_rfl) ?_ _
          go_wp2_with fail
          go_ret
          exact ⟨rfl, S13.low⟩
    · obtain ⟨hq1, hq2⟩ := empty_f hq
      rw [eQ] at T2
      unfold arpOutV at T2
      clear hq eQ
      rcases F3.out with hr | ⟨hr, eR⟩
      · obtain ⟨hr1, hr2⟩ := empty_t hr
        clear hr
        as_aux_lemma =>
          clear F1 F2 F3
          clear T3
          clear SD
          refine wp_region_held_drew (S := fun W' => Fr5 w W' P R ta fr k b op mac ip tm ti X0 X1 X2 Xb Xc Y0 Y1 Y2 Y3 Y4 Yc Z0 Zt Zc) (by kernel_rfl) S13 (fun hHeld => ?_)
          clear hHeld
          refine wpAnyH_take (i := 0) (oi := { dst := some 149, op := Op.move (Operand.tmp 9), type := 9, pos := "laws.go:150", after := #[], guard := none }) (v := ?vvffe0) rfl (by kernel_rfl) (by kernel_rfl) (by kernel_rfl) (fun _ _ _ h => h) (Or.inl ⟨by rfl, ?hyffe0⟩) S13 ?restffe0
          case hyffe0 => (intro w hSw; go_simp <;> with_reducible rfl)
          try simp only [Act.put, List.setIfInBounds_toArray, List.set_cons_zero, List.set_cons_succ]
          refine wpAnyH_take (i := 1) (oi := { dst := some 150, op := Op.binOp BinOp.eql 9 (Operand.tmp 149) (Operand.const (Value.string { data := #[] })) 9, type := 4, pos := "laws.go:150", after := #[{ on := 0, ground := Ground.data }], guard := none }) (v := ?vvffe1) rfl (by kernel_rfl) (by kernel_rfl) (by kernel_rfl) (fun _ _ _ h => h) (Or.inl ⟨by rfl, ?hyffe1⟩) S13 ?restffe1
          case hyffe1 => (intro w hSw; go_simp <;> with_reducible rfl)
          try simp only [Act.put, List.setIfInBounds_toArray, List.set_cons_zero, List.set_cons_succ]
          refine wpAnyH_take (i := 2) (oi := { dst := some 151, op := Op.move (Operand.tmp 150), type := 4, pos := "laws.go:150", after := #[{ on := 1, ground := Ground.data }], guard := none }) (v := ?vvffe2) rfl (by kernel_rfl) (by kernel_rfl) (by kernel_rfl) (fun _ _ _ h => h) (Or.inl ⟨by rfl, ?hyffe2⟩) S13 ?restffe2
          case hyffe2 => (intro w hSw; go_simp <;> with_reducible rfl)
          try simp only [Act.put, List.setIfInBounds_toArray, List.set_cons_zero, List.set_cons_succ]
          refine wpAnyH_take (i := 3) (oi := { dst := some 152, op := Op.move (Operand.tmp 9), type := 9, pos := "laws.go:150", after := #[{ on := 2, ground := Ground.guard }], guard := some (2, false) }) (v := ?vvffe3) rfl (by kernel_rfl) (by kernel_rfl) (by kernel_rfl) (fun _ _ _ h => h) (Or.inl ⟨by rfl, ?hyffe3⟩) S13 ?restffe3
          case hyffe3 => (intro w hSw; go_simp <;> with_reducible rfl)
          try simp only [Act.put, List.setIfInBounds_toArray, List.set_cons_zero, List.set_cons_succ]
          refine wpAnyH_take (i := 5) (oi := { dst := some 154, op := Op.load 24 (Operand.tmp 5), type := 24, pos := "laws.go:150", after := #[{ on := 2, ground := Ground.guard }], guard := some (2, false) }) (v := ?vvffe5) rfl (by kernel_rfl) (by kernel_rfl) (by kernel_rfl) (fun _ _ _ h => h) (Or.inl ⟨by rfl, ?hyffe5⟩) S13 ?restffe5
          case hyffe5 => (intro w hSw; go_simp <;> with_reducible rfl)
          try simp only [Act.put, List.setIfInBounds_toArray, List.set_cons_zero, List.set_cons_succ]
          refine wpAnyH_take (i := 6) (oi := { dst := some 155, op := Op.build 36 #[(0, Operand.tmp 154)], type := 36, pos := "laws.go:150", after := #[{ on := 5, ground := Ground.data }, { on := 2, ground := Ground.guard }], guard := some (2, false) }) (v := ?vvffe6) rfl (by kernel_rfl) (by kernel_rfl) (by kernel_rfl) (fun _ _ _ h => h) (Or.inl ⟨by rfl, ?hyffe6⟩) S13 ?restffe6
          case hyffe6 => (intro w hSw; go_simp <;> with_reducible rfl)
          try simp only [Act.put, List.setIfInBounds_toArray, List.set_cons_zero, List.set_cons_succ]
          refine wpAnyH_ready (rs := [4]) (by kernel_rfl) (by simp) ?_
          refine AllReadyH.cons (o := { dst := some 153, op := Op.call { callee := Callee.value (Operand.func 20), args := #[Operand.tmp 152], argTypes := #[9] }, type := 36, pos := "laws.go:150", after := #[{ on := 3, ground := Ground.data }, { on := 2, ground := Ground.chain }, { on := 2, ground := Ground.guard }], guard := some (2, false) }) rfl (fun K hK => ?_) AllReadyH.nil
          go_simp
          go_at_call 20
          refine (T1.out _).mono ?_
          rintro e w4 ⟨rfl, hb4⟩
          replace S13 := S13.keep hb4
          clear hb4
          refine hK.out _ _ S13 (fun hHeld => ?_)
          clear hK K hHeld
          try simp only [Act.put, List.setIfInBounds_toArray, List.set_cons_zero, List.set_cons_succ]
          refine wpAnyH_take (i := 7) (oi := { dst := some 156, op := Op.binOp BinOp.eql 36 (Operand.tmp 153) (Operand.tmp 155) 36, type := 4, pos := "laws.go:150", after := #[{ on := 4, ground := Ground.data }, { on := 6, ground := Ground.data }, { on := 2, ground := Ground.guard }], guard := some (2, false) }) (v := ?vvffe7) rfl (by kernel_rfl) (by kernel_rfl) (by kernel_rfl) (fun _ _ _ h => h) (Or.inl ⟨by rfl, ?hyffe7⟩) S13 ?restffe7
          case hyffe7 => (intro w hSw; go_simp <;> with_reducible rfl)
          try simp only [Act.put, List.setIfInBounds_toArray, List.set_cons_zero, List.set_cons_succ]
          refine wpAnyH_take (i := 8) (oi := { dst := some 157, op := Op.pick (Operand.tmp 151) (Operand.const (Value.bool true)) (Operand.tmp 156), type := 4, pos := "laws.go:150", after := #[{ on := 2, ground := Ground.data }, { on := 7, ground := Ground.data }], guard := none }) (v := ?vvffe8) rfl (by kernel_rfl) (by kernel_rfl) (by kernel_rfl) (fun _ _ _ h => h) (Or.inl ⟨by rfl, ?hyffe8⟩) S13 ?restffe8
          case hyffe8 => (intro w hSw; go_simp <;> with_reducible rfl)
          try simp only [Act.put, List.setIfInBounds_toArray, List.set_cons_zero, List.set_cons_succ]
          refine wpAnyH_take (i := 9) (oi := { dst := some 158, op := Op.move (Operand.tmp 157), type := 4, pos := "laws.go:150", after := #[{ on := 8, ground := Ground.data }, { on := 4, ground := Ground.chain }], guard := none }) (v := ?vvffe9) rfl (by kernel_rfl) (by kernel_rfl) (by kernel_rfl) (fun _ _ _ h => h) (Or.inl ⟨by rfl, ?hyffe9⟩) S13 ?restffe9
          case hyffe9 => (intro w hSw; go_simp <;> with_reducible rfl)
          try simp only [Act.put, List.setIfInBounds_toArray, List.set_cons_zero, List.set_cons_succ]
          refine wpAnyH_take (i := 10) (oi := { dst := some 159, op := Op.move (Operand.tmp 10), type := 9, pos := "laws.go:150", after := #[{ on := 9, ground := Ground.guard }], guard := some (9, true) }) (v := ?vvffe10) rfl (by kernel_rfl) (by kernel_rfl) (by kernel_rfl) (fun _ _ _ h => h) (Or.inl ⟨by rfl, ?hyffe10⟩) S13 ?restffe10
          case hyffe10 => (intro w hSw; go_simp <;> with_reducible rfl)
          try simp only [Act.put, List.setIfInBounds_toArray, List.set_cons_zero, List.set_cons_succ]
          refine wpAnyH_take (i := 11) (oi := { dst := some 160, op := Op.binOp BinOp.eql 9 (Operand.tmp 159) (Operand.const (Value.string { data := #[] })) 9, type := 4, pos := "laws.go:150", after := #[{ on := 10, ground := Ground.data }, { on := 9, ground := Ground.guard }], guard := some (9, true) }) (v := ?vvffe11) rfl (by kernel_rfl) (by kernel_rfl) (by kernel_rfl) (fun _ _ _ h => h) (Or.inl ⟨by rfl, ?hyffe11⟩) S13 ?restffe11
          case hyffe11 => (intro w hSw; go_simp <;> with_reducible rfl)
          try simp only [Act.put, List.setIfInBounds_toArray, List.set_cons_zero, List.set_cons_succ]
          refine wpAnyH_take (i := 12) (oi := { dst := some 161, op := Op.move (Operand.tmp 160), type := 4, pos := "laws.go:150", after := #[{ on := 11, ground := Ground.data }, { on := 9, ground := Ground.chain }, { on := 9, ground := Ground.guard }], guard := some (9, true) }) (v := ?vvffe12) rfl (by kernel_rfl) (by kernel_rfl) (by kernel_rfl) (fun _ _ _ h => h) (Or.inl ⟨by rfl, ?hyffe12⟩) S13 ?restffe12
          case hyffe12 => (intro w hSw; go_simp <;> with_reducible rfl)
          try simp only [Act.put, List.setIfInBounds_toArray, List.set_cons_zero, List.set_cons_succ]
          refine wpAnyH_take (i := 13) (oi := { dst := some 162, op := Op.move (Operand.tmp 10), type := 9, pos := "laws.go:150", after := #[{ on := 12, ground := Ground.guard }], guard := some (12, false) }) (v := ?vvffe13) rfl (by kernel_rfl) (by kernel_rfl) (by kernel_rfl) (fun _ _ _ h => h) (Or.inl ⟨by rfl, ?hyffe13⟩) S13 ?restffe13
          case hyffe13 => (intro w hSw; go_simp <;> with_reducible rfl)
          try simp only [Act.put, List.setIfInBounds_toArray, List.set_cons_zero, List.set_cons_succ]
          refine wpAnyH_take (i := 15) (oi := { dst := some 164, op := Op.load 27 (Operand.tmp 6), type := 27, pos := "laws.go:150", after := #[{ on := 12, ground := Ground.guard }], guard := some (12, false) }) (v := ?vvffe15) rfl (by kernel_rfl) (by kernel_rfl) (by kernel_rfl) (fun _ _ _ h => h) (Or.inl ⟨by rfl, ?hyffe15⟩) S13 ?restffe15
          case hyffe15 => (intro w hSw; go_simp <;> with_reducible rfl)
          try simp only [Act.put, List.setIfInBounds_toArray, List.set_cons_zero, List.set_cons_succ]
          refine wpAnyH_take (i := 16) (oi := { dst := some 165, op := Op.build 39 #[(0, Operand.tmp 164)], type := 39, pos := "laws.go:150", after := #[{ on := 15, ground := Ground.data }, { on := 12, ground := Ground.guard }], guard := some (12, false) }) (v := ?vvffe16) rfl (by kernel_rfl) (by kernel_rfl) (by kernel_rfl) (fun _ _ _ h => h) (Or.inl ⟨by rfl, ?hyffe16⟩) S13 ?restffe16
          case hyffe16 => (intro w hSw; go_simp <;> with_reducible rfl)
          try simp only [Act.put, List.setIfInBounds_toArray, List.set_cons_zero, List.set_cons_succ]
          refine wpAnyH_ready (rs := [14]) (by kernel_rfl) (by simp) ?_
          refine AllReadyH.cons (o := { dst := some 163, op := Op.call { callee := Callee.value (Operand.func 21), args := #[Operand.tmp 162], argTypes := #[9] }, type := 39, pos := "laws.go:150", after := #[{ on := 13, ground := Ground.data }, { on := 12, ground := Ground.chain }, { on := 12, ground := Ground.guard }], guard := some (12, false) }) rfl (fun K hK => ?_) AllReadyH.nil
          go_simp
          go_at_call 21
          refine (T2.out _).mono ?_
          rintro e w4 ⟨rfl, hb4⟩
          replace S13 := S13.keep hb4
          clear hb4
          refine hK.out _ _ S13 (fun hHeld => ?_)
          clear hK K hHeld
          try simp only [Act.put, List.setIfInBounds_toArray, List.set_cons_zero, List.set_cons_succ]
          refine wpAnyH_take (i := 17) (oi := { dst := some 166, op := Op.binOp BinOp.eql 39 (Operand.tmp 163) (Operand.tmp 165) 39, type := 4, pos := "laws.go:150", after := #[{ on := 14, ground := Ground.data }, { on := 16, ground := Ground.data }, { on := 12, ground := Ground.guard }], guard := some (12, false) }) (v := ?vvffe17) rfl (by kernel_rfl) (by kernel_rfl) (by kernel_rfl) (fun _ _ _ h => h) (Or.inl ⟨by rfl, ?hyffe17⟩) S13 ?restffe17
          case hyffe17 => (intro w hSw; go_simp <;> with_reducible rfl)
          try simp only [Act.put, List.setIfInBounds_toArray, List.set_cons_zero, List.set_cons_succ]
          refine wpAnyH_take (i := 18) (oi := { dst := some 167, op := Op.pick (Operand.tmp 161) (Operand.const (Value.bool true)) (Operand.tmp 166), type := 4, pos := "laws.go:150", after := #[{ on := 12, ground := Ground.data }, { on := 17, ground := Ground.data }, { on := 9, ground := Ground.guard }], guard := some (9, true) }) (v := ?vvffe18) rfl (by kernel_rfl) (by kernel_rfl) (by kernel_rfl) (fun _ _ _ h => h) (Or.inl ⟨by rfl, ?hyffe18⟩) S13 ?restffe18
          case hyffe18 => (intro w hSw; go_simp <;> with_reducible rfl)
          try simp only [Act.put, List.setIfInBounds_toArray, List.set_cons_zero, List.set_cons_succ]
          refine wpAnyH_take (i := 19) (oi := { dst := some 168, op := Op.pick (Operand.tmp 158) (Operand.tmp 167) (Operand.const (Value.bool false)), type := 4, pos := "laws.go:150", after := #[{ on := 9, ground := Ground.data }, { on := 18, ground := Ground.data }], guard := none }) (v := ?vvffe19) rfl (by kernel_rfl) (by kernel_rfl) (by kernel_rfl) (fun _ _ _ h => h) (Or.inl ⟨by rfl, ?hyffe19⟩) S13 ?restffe19
          case hyffe19 => (intro w hSw; go_simp <;> with_reducible rfl)
          try simp only [Act.put, List.setIfInBounds_toArray, List.set_cons_zero, List.set_cons_succ]
          refine wpAnyH_take (i := 20) (oi := { dst := some 169, op := Op.move (Operand.tmp 168), type := 4, pos := "laws.go:150", after := #[{ on := 19, ground := Ground.data }, { on := 14, ground := Ground.chain }], guard := none }) (v := ?vvffe20) rfl (by kernel_rfl) (by kernel_rfl) (by kernel_rfl) (fun _ _ _ h => h) (Or.inl ⟨by rfl, ?hyffe20⟩) S13 ?restffe20
          case hyffe20 => (intro w hSw; go_simp <;> with_reducible rfl)
          try simp only [Act.put, List.setIfInBounds_toArray, List.set_cons_zero, List.set_cons_succ]
          refine wpAnyH_take (i := 21) (oi := { dst := some 170, op := Op.move (Operand.tmp 11), type := 9, pos := "laws.go:150", after := #[{ on := 20, ground := Ground.guard }], guard := some (20, true) }) (v := ?vvffe21) rfl (by kernel_rfl) (by kernel_rfl) (by kernel_rfl) (fun _ _ _ h => h) (Or.inl ⟨by rfl, ?hyffe21⟩) S13 ?restffe21
          case hyffe21 => (intro w hSw; go_simp <;> with_reducible rfl)
          try simp only [Act.put, List.setIfInBounds_toArray, List.set_cons_zero, List.set_cons_succ]
          refine wpAnyH_take (i := 22) (oi := { dst := some 171, op := Op.binOp BinOp.eql 9 (Operand.tmp 170) (Operand.const (Value.string { data := #[] })) 9, type := 4, pos := "laws.go:150", after := #[{ on := 21, ground := Ground.data }, { on := 20, ground := Ground.guard }], guard := some (20, true) }) (v := ?vvffe22) rfl (by kernel_rfl) (by kernel_rfl) (by kernel_rfl) (fun _ _ _ h => h) (Or.inl ⟨by rfl, ?hyffe22⟩) S13 ?restffe22
          case hyffe22 => (intro w hSw; go_simp <;> with_reducible rfl)
          try simp only [Act.put, List.setIfInBounds_toArray, List.set_cons_zero, List.set_cons_succ]
          refine wpAnyH_take (i := 23) (oi := { dst := some 172, op := Op.move (Operand.tmp 171), type := 4, pos := "laws.go:150", after := #[{ on := 22, ground := Ground.data }, { on := 20, ground := Ground.chain }, { on := 20, ground := Ground.guard }], guard := some (20, true) }) (v := ?vvffe23) rfl (by kernel_rfl) (by kernel_rfl) (by kernel_rfl) (fun _ _ _ h => h) (Or.inl ⟨by rfl, ?hyffe23⟩) S13 ?restffe23
          case hyffe23 => (intro w hSw; go_simp <;> with_reducible rfl)
          try simp only [Act.put, List.setIfInBounds_toArray, List.set_cons_zero, List.set_cons_succ]
          refine wpAnyH_take (i := 24) (oi := { dst := some 173, op := Op.move (Operand.tmp 11), type := 9, pos := "laws.go:150", after := #[{ on := 23, ground := Ground.guard }], guard := some (23, false) }) (v := undef) rfl (by kernel_rfl) (by kernel_rfl) (by kernel_rfl) (fun _ _ _ h => h) (Or.inr ⟨by rfl, rfl⟩) S13 ?_
          try simp only [Act.put, List.setIfInBounds_toArray, List.set_cons_zero, List.set_cons_succ]
          refine wpAnyH_take (i := 26) (oi := { dst := some 175, op := Op.move (Operand.tmp 7), type := 2, pos := "laws.go:150", after := #[{ on := 23, ground := Ground.guard }], guard := some (23, false) }) (v := undef) rfl (by kernel_rfl) (by kernel_rfl) (by kernel_rfl) (fun _ _ _ h => h) (Or.inr ⟨by rfl, rfl⟩) S13 ?_
          try simp only [Act.put, List.setIfInBounds_toArray, List.set_cons_zero, List.set_cons_succ]
          refine wpAnyH_take (i := 27) (oi := { dst := some 176, op := Op.move (Operand.tmp 8), type := 9, pos := "laws.go:150", after := #[{ on := 23, ground := Ground.guard }], guard := some (23, false) }) (v := undef) rfl (by kernel_rfl) (by kernel_rfl) (by kernel_rfl) (fun _ _ _ h => h) (Or.inr ⟨by rfl, rfl⟩) S13 ?_
          try simp only [Act.put, List.setIfInBounds_toArray, List.set_cons_zero, List.set_cons_succ]
          refine wpAnyH_take (i := 28) (oi := { dst := some 177, op := Op.build 42 #[(0, Operand.tmp 175), (1, Operand.tmp 176)], type := 42, pos := "laws.go:150", after := #[{ on := 26, ground := Ground.data }, { on := 27, ground := Ground.data }, { on := 23, ground := Ground.guard }], guard := some (23, false) }) (v := undef) rfl (by kernel_rfl) (by kernel_rfl) (by kernel_rfl) (fun _ _ _ h => h) (Or.inr ⟨by rfl, rfl⟩) S13 ?_
          try simp only [Act.put, List.setIfInBounds_toArray, List.set_cons_zero, List.set_cons_succ]
          refine wpAnyH_take (i := 25) (oi := { dst := some 174, op := Op.call { callee := Callee.value (Operand.func 22), args := #[Operand.tmp 173], argTypes := #[9] }, type := 42, pos := "laws.go:150", after := #[{ on := 24, ground := Ground.data }, { on := 23, ground := Ground.chain }, { on := 23, ground := Ground.guard }], guard := some (23, false) }) (v := undef) rfl (by kernel_rfl) (by kernel_rfl) (by kernel_rfl) (fun _ _ _ h => h) (Or.inr ⟨by rfl, rfl⟩) S13 ?_
          try simp only [Act.put, List.setIfInBounds_toArray, List.set_cons_zero, List.set_cons_succ]
          refine wpAnyH_take (i := 29) (oi := { dst := some 178, op := Op.binOp BinOp.eql 42 (Operand.tmp 174) (Operand.tmp 177) 42, type := 4, pos := "laws.go:150", after := #[{ on := 25, ground := Ground.data }, { on := 28, ground := Ground.data }, { on := 23, ground := Ground.guard }], guard := some (23, false) }) (v := undef) rfl (by kernel_rfl) (by kernel_rfl) (by kernel_rfl) (fun _ _ _ h => h) (Or.inr ⟨by rfl, rfl⟩) S13 ?_
          try simp only [Act.put, List.setIfInBounds_toArray, List.set_cons_zero, List.set_cons_succ]
          refine wpAnyH_take (i := 30) (oi := { dst := some 179, op := Op.pick (Operand.tmp 172) (Operand.const (Value.bool true)) (Operand.tmp 178), type := 4, pos := "laws.go:150", after := #[{ on := 23, ground := Ground.data }, { on := 29, ground := Ground.data }, { on := 20, ground := Ground.guard }], guard := some (20, true) }) (v := ?vvffe30) rfl (by kernel_rfl) (by kernel_rfl) (by kernel_rfl) (fun _ _ _ h => h) (Or.inl ⟨by rfl, ?hyffe30⟩) S13 ?restffe30
          case hyffe30 => (intro w hSw; go_simp <;> with_reducible rfl)
          try simp only [Act.put, List.setIfInBounds_toArray, List.set_cons_zero, List.set_cons_succ]
          refine wpAnyH_take (i := 31) (oi := { dst := some 180, op := Op.pick (Operand.tmp 169) (Operand.tmp 179) (Operand.const (Value.bool false)), type := 4, pos := "laws.go:150", after := #[{ on := 20, ground := Ground.data }, { on := 30, ground := Ground.data }], guard := none }) (v := ?vvffe31) rfl (by kernel_rfl) (by kernel_rfl) (by kernel_rfl) (fun _ _ _ h => h) (Or.inl ⟨by rfl, ?hyffe31⟩) S13 ?restffe31
          case hyffe31 => (intro w hSw; go_simp <;> with_reducible rfl)
          try simp only [Act.put, List.setIfInBounds_toArray, List.set_cons_zero, List.set_cons_succ]
          refine wpAnyH_take (i := 32) (oi := { dst := some 4, op := Op.assign (Operand.tmp 180), type := 4, pos := "laws.go:150", after := #[{ on := 31, ground := Ground.data }, { on := 25, ground := Ground.chain }, { on := 0, ground := Ground.phase }, { on := 1, ground := Ground.phase }, { on := 2, ground := Ground.phase }, { on := 3, ground := Ground.phase }, { on := 4, ground := Ground.phase }, { on := 5, ground := Ground.phase }, { on := 6, ground := Ground.phase }, { on := 7, ground := Ground.phase }, { on := 8, ground := Ground.phase }, { on := 9, ground := Ground.phase }, { on := 10, ground := Ground.phase }, { on := 11, ground := Ground.phase }, { on := 12, ground := Ground.phase }, { on := 13, ground := Ground.phase }, { on := 14, ground := Ground.phase }, { on := 15, ground := Ground.phase }, { on := 16, ground := Ground.phase }, { on := 17, ground := Ground.phase }, { on := 18, ground := Ground.phase }, { on := 19, ground := Ground.phase }, { on := 20, ground := Ground.phase }, { on := 21, ground := Ground.phase }, { on := 22, ground := Ground.phase }, { on := 23, ground := Ground.phase }, { on := 24, ground := Ground.phase }, { on := 25, ground := Ground.phase }, { on := 26, ground := Ground.phase }, { on := 27, ground := Ground.phase }, { on := 28, ground := Ground.phase }, { on := 29, ground := Ground.phase }, { on := 30, ground := Ground.phase }, { on := 31, ground := Ground.phase }], guard := none }) (v := ?vvffe32) rfl (by kernel_rfl) (by kernel_rfl) (by kernel_rfl) (fun _ _ _ h => h) (Or.inl ⟨by rfl, ?hyffe32⟩) S13 ?restffe32
          case hyffe32 => (intro w hSw; go_simp <;> with_reducible rfl)
          try simp only [Act.put, List.setIfInBounds_toArray, List.set_cons_zero, List.set_cons_succ]
          refine wpAnyH_done (by kernel_rfl) ?_ _
          go_wp2_with fail
          go_ret
          exact ⟨rfl, S13.low⟩
      · obtain ⟨hr1, hr2⟩ := empty_f hr
        rw [eR] at T3
        unfold vxOutV at T3
        clear hr eR
        as_aux_lemma =>
          clear F1 F2 F3
          clear SD
          refine wp_region_held_drew (S := fun W' => Fr5 w W' P R ta fr k b op mac ip tm ti X0 X1 X2 Xb Xc Y0 Y1 Y2 Y3 Y4 Yc Z0 Zt Zc) (by kernel_rfl) S13 (fun hHeld => ?_)
          clear hHeld
          refine wpAnyH_take (i := 0) (oi := { dst := some 149, op := Op.move (Operand.tmp 9), type := 9, pos := "laws.go:150", after := #[], guard := none }) (v := ?vvfff0) rfl (by kernel_rfl) (by kernel_rfl) (by kernel_rfl) (fun _ _ _ h => h) (Or.inl ⟨by rfl, ?hyfff0⟩) S13 ?restfff0
          case hyfff0 => (intro w hSw; go_simp <;> with_reducible rfl)
          try simp only [Act.put, List.setIfInBounds_toArray, List.set_cons_zero, List.set_cons_succ]
          refine wpAnyH_take (i := 1) (oi := { dst := some 150, op := Op.binOp BinOp.eql 9 (Operand.tmp 149) (Operand.const (Value.string { data := #[] })) 9, type := 4, pos := "laws.go:150", after := #[{ on := 0, ground := Ground.data }], guard := none }) (v := ?vvfff1) rfl (by kernel_rfl) (by kernel_rfl) (by kernel_rfl) (fun _ _ _ h => h) (Or.inl ⟨by rfl, ?hyfff1⟩) S13 ?restfff1
          case hyfff1 => (intro w hSw; go_simp <;> with_reducible rfl)
          try simp only [Act.put, List.setIfInBounds_toArray, List.set_cons_zero, List.set_cons_succ]
          refine wpAnyH_take (i := 2) (oi := { dst := some 151, op := Op.move (Operand.tmp 150), type := 4, pos := "laws.go:150", after := #[{ on := 1, ground := Ground.data }], guard := none }) (v := ?vvfff2) rfl (by kernel_rfl) (by kernel_rfl) (by kernel_rfl) (fun _ _ _ h => h) (Or.inl ⟨by rfl, ?hyfff2⟩) S13 ?restfff2
          case hyfff2 => (intro w hSw; go_simp <;> with_reducible rfl)
          try simp only [Act.put, List.setIfInBounds_toArray, List.set_cons_zero, List.set_cons_succ]
          refine wpAnyH_take (i := 3) (oi := { dst := some 152, op := Op.move (Operand.tmp 9), type := 9, pos := "laws.go:150", after := #[{ on := 2, ground := Ground.guard }], guard := some (2, false) }) (v := ?vvfff3) rfl (by kernel_rfl) (by kernel_rfl) (by kernel_rfl) (fun _ _ _ h => h) (Or.inl ⟨by rfl, ?hyfff3⟩) S13 ?restfff3
          case hyfff3 => (intro w hSw; go_simp <;> with_reducible rfl)
          try simp only [Act.put, List.setIfInBounds_toArray, List.set_cons_zero, List.set_cons_succ]
          refine wpAnyH_take (i := 5) (oi := { dst := some 154, op := Op.load 24 (Operand.tmp 5), type := 24, pos := "laws.go:150", after := #[{ on := 2, ground := Ground.guard }], guard := some (2, false) }) (v := ?vvfff5) rfl (by kernel_rfl) (by kernel_rfl) (by kernel_rfl) (fun _ _ _ h => h) (Or.inl ⟨by rfl, ?hyfff5⟩) S13 ?restfff5
          case hyfff5 => (intro w hSw; go_simp <;> with_reducible rfl)
          try simp only [Act.put, List.setIfInBounds_toArray, List.set_cons_zero, List.set_cons_succ]
          refine wpAnyH_take (i := 6) (oi := { dst := some 155, op := Op.build 36 #[(0, Operand.tmp 154)], type := 36, pos := "laws.go:150", after := #[{ on := 5, ground := Ground.data }, { on := 2, ground := Ground.guard }], guard := some (2, false) }) (v := ?vvfff6) rfl (by kernel_rfl) (by kernel_rfl) (by kernel_rfl) (fun _ _ _ h => h) (Or.inl ⟨by rfl, ?hyfff6⟩) S13 ?restfff6
          case hyfff6 => (intro w hSw; go_simp <;> with_reducible rfl)
          try simp only [Act.put, List.setIfInBounds_toArray, List.set_cons_zero, List.set_cons_succ]
          refine wpAnyH_ready (rs := [4]) (by kernel_rfl) (by simp) ?_
          refine AllReadyH.cons (o := { dst := some 153, op := Op.call { callee := Callee.value (Operand.func 20), args := #[Operand.tmp 152], argTypes := #[9] }, type := 36, pos := "laws.go:150", after := #[{ on := 3, ground := Ground.data }, { on := 2, ground := Ground.chain }, { on := 2, ground := Ground.guard }], guard := some (2, false) }) rfl (fun K hK => ?_) AllReadyH.nil
          go_simp
          go_at_call 20
          refine (T1.out _).mono ?_
          rintro e w4 ⟨rfl, hb4⟩
          replace S13 := S13.keep hb4
          clear hb4
          refine hK.out _ _ S13 (fun hHeld => ?_)
          clear hK K hHeld
          try simp only [Act.put, List.setIfInBounds_toArray, List.set_cons_zero, List.set_cons_succ]
          refine wpAnyH_take (i := 7) (oi := { dst := some 156, op := Op.binOp BinOp.eql 36 (Operand.tmp 153) (Operand.tmp 155) 36, type := 4, pos := "laws.go:150", after := #[{ on := 4, ground := Ground.data }, { on := 6, ground := Ground.data }, { on := 2, ground := Ground.guard }], guard := some (2, false) }) (v := ?vvfff7) rfl (by kernel_rfl) (by kernel_rfl) (by kernel_rfl) (fun _ _ _ h => h) (Or.inl ⟨by rfl, ?hyfff7⟩) S13 ?restfff7
          case hyfff7 => (intro w hSw; go_simp <;> with_reducible rfl)
          try simp only [Act.put, List.setIfInBounds_toArray, List.set_cons_zero, List.set_cons_succ]
          refine wpAnyH_take (i := 8) (oi := { dst := some 157, op := Op.pick (Operand.tmp 151) (Operand.const (Value.bool true)) (Operand.tmp 156), type := 4, pos := "laws.go:150", after := #[{ on := 2, ground := Ground.data }, { on := 7, ground := Ground.data }], guard := none }) (v := ?vvfff8) rfl (by kernel_rfl) (by kernel_rfl) (by kernel_rfl) (fun _ _ _ h => h) (Or.inl ⟨by rfl, ?hyfff8⟩) S13 ?restfff8
          case hyfff8 => (intro w hSw; go_simp <;> with_reducible rfl)
          try simp only [Act.put, List.setIfInBounds_toArray, List.set_cons_zero, List.set_cons_succ]
          refine wpAnyH_take (i := 9) (oi := { dst := some 158, op := Op.move (Operand.tmp 157), type := 4, pos := "laws.go:150", after := #[{ on := 8, ground := Ground.data }, { on := 4, ground := Ground.chain }], guard := none }) (v := ?vvfff9) rfl (by kernel_rfl) (by kernel_rfl) (by kernel_rfl) (fun _ _ _ h => h) (Or.inl ⟨by rfl, ?hyfff9⟩) S13 ?restfff9
          case hyfff9 => (intro w hSw; go_simp <;> with_reducible rfl)
          try simp only [Act.put, List.setIfInBounds_toArray, List.set_cons_zero, List.set_cons_succ]
          refine wpAnyH_take (i := 10) (oi := { dst := some 159, op := Op.move (Operand.tmp 10), type := 9, pos := "laws.go:150", after := #[{ on := 9, ground := Ground.guard }], guard := some (9, true) }) (v := ?vvfff10) rfl (by kernel_rfl) (by kernel_rfl) (by kernel_rfl) (fun _ _ _ h => h) (Or.inl ⟨by rfl, ?hyfff10⟩) S13 ?restfff10
          case hyfff10 => (intro w hSw; go_simp <;> with_reducible rfl)
          try simp only [Act.put, List.setIfInBounds_toArray, List.set_cons_zero, List.set_cons_succ]
          refine wpAnyH_take (i := 11) (oi := { dst := some 160, op := Op.binOp BinOp.eql 9 (Operand.tmp 159) (Operand.const (Value.string { data := #[] })) 9, type := 4, pos := "laws.go:150", after := #[{ on := 10, ground := Ground.data }, { on := 9, ground := Ground.guard }], guard := some (9, true) }) (v := ?vvfff11) rfl (by kernel_rfl) (by kernel_rfl) (by kernel_rfl) (fun _ _ _ h => h) (Or.inl ⟨by rfl, ?hyfff11⟩) S13 ?restfff11
          case hyfff11 => (intro w hSw; go_simp <;> with_reducible rfl)
          try simp only [Act.put, List.setIfInBounds_toArray, List.set_cons_zero, List.set_cons_succ]
          refine wpAnyH_take (i := 12) (oi := { dst := some 161, op := Op.move (Operand.tmp 160), type := 4, pos := "laws.go:150", after := #[{ on := 11, ground := Ground.data }, { on := 9, ground := Ground.chain }, { on := 9, ground := Ground.guard }], guard := some (9, true) }) (v := ?vvfff12) rfl (by kernel_rfl) (by kernel_rfl) (by kernel_rfl) (fun _ _ _ h => h) (Or.inl ⟨by rfl, ?hyfff12⟩) S13 ?restfff12
          case hyfff12 => (intro w hSw; go_simp <;> with_reducible rfl)
          try simp only [Act.put, List.setIfInBounds_toArray, List.set_cons_zero, List.set_cons_succ]
          refine wpAnyH_take (i := 13) (oi := { dst := some 162, op := Op.move (Operand.tmp 10), type := 9, pos := "laws.go:150", after := #[{ on := 12, ground := Ground.guard }], guard := some (12, false) }) (v := ?vvfff13) rfl (by kernel_rfl) (by kernel_rfl) (by kernel_rfl) (fun _ _ _ h => h) (Or.inl ⟨by rfl, ?hyfff13⟩) S13 ?restfff13
          case hyfff13 => (intro w hSw; go_simp <;> with_reducible rfl)
          try simp only [Act.put, List.setIfInBounds_toArray, List.set_cons_zero, List.set_cons_succ]
          refine wpAnyH_take (i := 15) (oi := { dst := some 164, op := Op.load 27 (Operand.tmp 6), type := 27, pos := "laws.go:150", after := #[{ on := 12, ground := Ground.guard }], guard := some (12, false) }) (v := ?vvfff15) rfl (by kernel_rfl) (by kernel_rfl) (by kernel_rfl) (fun _ _ _ h => h) (Or.inl ⟨by rfl, ?hyfff15⟩) S13 ?restfff15
          case hyfff15 => (intro w hSw; go_simp <;> with_reducible rfl)
          try simp only [Act.put, List.setIfInBounds_toArray, List.set_cons_zero, List.set_cons_succ]
          refine wpAnyH_take (i := 16) (oi := { dst := some 165, op := Op.build 39 #[(0, Operand.tmp 164)], type := 39, pos := "laws.go:150", after := #[{ on := 15, ground := Ground.data }, { on := 12, ground := Ground.guard }], guard := some (12, false) }) (v := ?vvfff16) rfl (by kernel_rfl) (by kernel_rfl) (by kernel_rfl) (fun _ _ _ h => h) (Or.inl ⟨by rfl, ?hyfff16⟩) S13 ?restfff16
          case hyfff16 => (intro w hSw; go_simp <;> with_reducible rfl)
          try simp only [Act.put, List.setIfInBounds_toArray, List.set_cons_zero, List.set_cons_succ]
          refine wpAnyH_ready (rs := [14]) (by kernel_rfl) (by simp) ?_
          refine AllReadyH.cons (o := { dst := some 163, op := Op.call { callee := Callee.value (Operand.func 21), args := #[Operand.tmp 162], argTypes := #[9] }, type := 39, pos := "laws.go:150", after := #[{ on := 13, ground := Ground.data }, { on := 12, ground := Ground.chain }, { on := 12, ground := Ground.guard }], guard := some (12, false) }) rfl (fun K hK => ?_) AllReadyH.nil
          go_simp
          go_at_call 21
          refine (T2.out _).mono ?_
          rintro e w4 ⟨rfl, hb4⟩
          replace S13 := S13.keep hb4
          clear hb4
          refine hK.out _ _ S13 (fun hHeld => ?_)
          clear hK K hHeld
          try simp only [Act.put, List.setIfInBounds_toArray, List.set_cons_zero, List.set_cons_succ]
          refine wpAnyH_take (i := 17) (oi := { dst := some 166, op := Op.binOp BinOp.eql 39 (Operand.tmp 163) (Operand.tmp 165) 39, type := 4, pos := "laws.go:150", after := #[{ on := 14, ground := Ground.data }, { on := 16, ground := Ground.data }, { on := 12, ground := Ground.guard }], guard := some (12, false) }) (v := ?vvfff17) rfl (by kernel_rfl) (by kernel_rfl) (by kernel_rfl) (fun _ _ _ h => h) (Or.inl ⟨by rfl, ?hyfff17⟩) S13 ?restfff17
          case hyfff17 => (intro w hSw; go_simp <;> with_reducible rfl)
          try simp only [Act.put, List.setIfInBounds_toArray, List.set_cons_zero, List.set_cons_succ]
          refine wpAnyH_take (i := 18) (oi := { dst := some 167, op := Op.pick (Operand.tmp 161) (Operand.const (Value.bool true)) (Operand.tmp 166), type := 4, pos := "laws.go:150", after := #[{ on := 12, ground := Ground.data }, { on := 17, ground := Ground.data }, { on := 9, ground := Ground.guard }], guard := some (9, true) }) (v := ?vvfff18) rfl (by kernel_rfl) (by kernel_rfl) (by kernel_rfl) (fun _ _ _ h => h) (Or.inl ⟨by rfl, ?hyfff18⟩) S13 ?restfff18
          case hyfff18 => (intro w hSw; go_simp <;> with_reducible rfl)
          try simp only [Act.put, List.setIfInBounds_toArray, List.set_cons_zero, List.set_cons_succ]
          refine wpAnyH_take (i := 19) (oi := { dst := some 168, op := Op.pick (Operand.tmp 158) (Operand.tmp 167) (Operand.const (Value.bool false)), type := 4, pos := "laws.go:150", after := #[{ on := 9, ground := Ground.data }, { on := 18, ground := Ground.data }], guard := none }) (v := ?vvfff19) rfl (by kernel_rfl) (by kernel_rfl) (by kernel_rfl) (fun _ _ _ h => h) (Or.inl ⟨by rfl, ?hyfff19⟩) S13 ?restfff19
          case hyfff19 => (intro w hSw; go_simp <;> with_reducible rfl)
          try simp only [Act.put, List.setIfInBounds_toArray, List.set_cons_zero, List.set_cons_succ]
          refine wpAnyH_take (i := 20) (oi := { dst := some 169, op := Op.move (Operand.tmp 168), type := 4, pos := "laws.go:150", after := #[{ on := 19, ground := Ground.data }, { on := 14, ground := Ground.chain }], guard := none }) (v := ?vvfff20) rfl (by kernel_rfl) (by kernel_rfl) (by kernel_rfl) (fun _ _ _ h => h) (Or.inl ⟨by rfl, ?hyfff20⟩) S13 ?restfff20
          case hyfff20 => (intro w hSw; go_simp <;> with_reducible rfl)
          try simp only [Act.put, List.setIfInBounds_toArray, List.set_cons_zero, List.set_cons_succ]
          refine wpAnyH_take (i := 21) (oi := { dst := some 170, op := Op.move (Operand.tmp 11), type := 9, pos := "laws.go:150", after := #[{ on := 20, ground := Ground.guard }], guard := some (20, true) }) (v := ?vvfff21) rfl (by kernel_rfl) (by kernel_rfl) (by kernel_rfl) (fun _ _ _ h => h) (Or.inl ⟨by rfl, ?hyfff21⟩) S13 ?restfff21
          case hyfff21 => (intro w hSw; go_simp <;> with_reducible rfl)
          try simp only [Act.put, List.setIfInBounds_toArray, List.set_cons_zero, List.set_cons_succ]
          refine wpAnyH_take (i := 22) (oi := { dst := some 171, op := Op.binOp BinOp.eql 9 (Operand.tmp 170) (Operand.const (Value.string { data := #[] })) 9, type := 4, pos := "laws.go:150", after := #[{ on := 21, ground := Ground.data }, { on := 20, ground := Ground.guard }], guard := some (20, true) }) (v := ?vvfff22) rfl (by kernel_rfl) (by kernel_rfl) (by kernel_rfl) (fun _ _ _ h => h) (Or.inl ⟨by rfl, ?hyfff22⟩) S13 ?restfff22
          case hyfff22 => (intro w hSw; go_simp <;> with_reducible rfl)
          try simp only [Act.put, List.setIfInBounds_toArray, List.set_cons_zero, List.set_cons_succ]
          refine wpAnyH_take (i := 23) (oi := { dst := some 172, op := Op.move (Operand.tmp 171), type := 4, pos := "laws.go:150", after := #[{ on := 22, ground := Ground.data }, { on := 20, ground := Ground.chain }, { on := 20, ground := Ground.guard }], guard := some (20, true) }) (v := ?vvfff23) rfl (by kernel_rfl) (by kernel_rfl) (by kernel_rfl) (fun _ _ _ h => h) (Or.inl ⟨by rfl, ?hyfff23⟩) S13 ?restfff23
          case hyfff23 => (intro w hSw; go_simp <;> with_reducible rfl)
          try simp only [Act.put, List.setIfInBounds_toArray, List.set_cons_zero, List.set_cons_succ]
          refine wpAnyH_take (i := 24) (oi := { dst := some 173, op := Op.move (Operand.tmp 11), type := 9, pos := "laws.go:150", after := #[{ on := 23, ground := Ground.guard }], guard := some (23, false) }) (v := ?vvfff24) rfl (by kernel_rfl) (by kernel_rfl) (by kernel_rfl) (fun _ _ _ h => h) (Or.inl ⟨by rfl, ?hyfff24⟩) S13 ?restfff24
          case hyfff24 => (intro w hSw; go_simp <;> with_reducible rfl)
          try simp only [Act.put, List.setIfInBounds_toArray, List.set_cons_zero, List.set_cons_succ]
          refine wpAnyH_take (i := 26) (oi := { dst := some 175, op := Op.move (Operand.tmp 7), type := 2, pos := "laws.go:150", after := #[{ on := 23, ground := Ground.guard }], guard := some (23, false) }) (v := ?vvfff26) rfl (by kernel_rfl) (by kernel_rfl) (by kernel_rfl) (fun _ _ _ h => h) (Or.inl ⟨by rfl, ?hyfff26⟩) S13 ?restfff26
          case hyfff26 => (intro w hSw; go_simp <;> with_reducible rfl)
          try simp only [Act.put, List.setIfInBounds_toArray, List.set_cons_zero, List.set_cons_succ]
          refine wpAnyH_take (i := 27) (oi := { dst := some 176, op := Op.move (Operand.tmp 8), type := 9, pos := "laws.go:150", after := #[{ on := 23, ground := Ground.guard }], guard := some (23, false) }) (v := ?vvfff27) rfl (by kernel_rfl) (by kernel_rfl) (by kernel_rfl) (fun _ _ _ h => h) (Or.inl ⟨by rfl, ?hyfff27⟩) S13 ?restfff27
          case hyfff27 => (intro w hSw; go_simp <;> with_reducible rfl)
          try simp only [Act.put, List.setIfInBounds_toArray, List.set_cons_zero, List.set_cons_succ]
          refine wpAnyH_take (i := 28) (oi := { dst := some 177, op := Op.build 42 #[(0, Operand.tmp 175), (1, Operand.tmp 176)], type := 42, pos := "laws.go:150", after := #[{ on := 26, ground := Ground.data }, { on := 27, ground := Ground.data }, { on := 23, ground := Ground.guard }], guard := some (23, false) }) (v := ?vvfff28) rfl (by kernel_rfl) (by kernel_rfl) (by kernel_rfl) (fun _ _ _ h => h) (Or.inl ⟨by rfl, ?hyfff28⟩) S13 ?restfff28
          case hyfff28 => (intro w hSw; go_simp <;> with_reducible rfl)
          try simp only [Act.put, List.setIfInBounds_toArray, List.set_cons_zero, List.set_cons_succ]
          refine wpAnyH_ready (rs := [25]) (by kernel_rfl) (by simp) ?_
          refine AllReadyH.cons (o := { dst := some 174, op := Op.call { callee := Callee.value (Operand.func 22), args := #[Operand.tmp 173], argTypes := #[9] }, type := 42, pos := "laws.go:150", after := #[{ on := 24, ground := Ground.data }, { on := 23, ground := Ground.chain }, { on := 23, ground := Ground.guard }], guard := some (23, false) }) rfl (fun K hK => ?_) AllReadyH.nil
          go_simp
          go_at_call 22
          refine (T3.out _).mono ?_
          rintro e w4 ⟨rfl, hb4⟩
          replace S13 := S13.keep hb4
          clear hb4
          refine hK.out _ _ S13 (fun hHeld => ?_)
          clear hK K hHeld
          try simp only [Act.put, List.setIfInBounds_toArray, List.set_cons_zero, List.set_cons_succ]
          refine wpAnyH_take (i := 29) (oi := { dst := some 178, op := Op.binOp BinOp.eql 42 (Operand.tmp 174) (Operand.tmp 177) 42, type := 4, pos := "laws.go:150", after := #[{ on := 25, ground := Ground.data }, { on := 28, ground := Ground.data }, { on := 23, ground := Ground.guard }], guard := some (23, false) }) (v := ?vvfff29) rfl (by kernel_rfl) (by kernel_rfl) (by kernel_rfl) (fun _ _ _ h => h) (Or.inl ⟨by rfl, ?hyfff29⟩) S13 ?restfff29
          case hyfff29 => (intro w hSw; go_simp <;> with_reducible rfl)
          try simp only [Act.put, List.setIfInBounds_toArray, List.set_cons_zero, List.set_cons_succ]
          refine wpAnyH_take (i := 30) (oi := { dst := some 179, op := Op.pick (Operand.tmp 172) (Operand.const (Value.bool true)) (Operand.tmp 178), type := 4, pos := "laws.go:150", after := #[{ on := 23, ground := Ground.data }, { on := 29, ground := Ground.data }, { on := 20, ground := Ground.guard }], guard := some (20, true) }) (v := ?vvfff30) rfl (by kernel_rfl) (by kernel_rfl) (by kernel_rfl) (fun _ _ _ h => h) (Or.inl ⟨by rfl, ?hyfff30⟩) S13 ?restfff30
          case hyfff30 => (intro w hSw; go_simp <;> with_reducible rfl)
          try simp only [Act.put, List.setIfInBounds_toArray, List.set_cons_zero, List.set_cons_succ]
          refine wpAnyH_take (i := 31) (oi := { dst := some 180, op := Op.pick (Operand.tmp 169) (Operand.tmp 179) (Operand.const (Value.bool false)), type := 4, pos := "laws.go:150", after := #[{ on := 20, ground := Ground.data }, { on := 30, ground := Ground.data }], guard := none }) (v := ?vvfff31) rfl (by kernel_rfl) (by kernel_rfl) (by kernel_rfl) (fun _ _ _ h => h) (Or.inl ⟨by rfl, ?hyfff31⟩) S13 ?restfff31
          case hyfff31 => (intro w hSw; go_simp <;> with_reducible rfl)
          try simp only [Act.put, List.setIfInBounds_toArray, List.set_cons_zero, List.set_cons_succ]
          refine wpAnyH_take (i := 32) (oi := { dst := some 4, op := Op.assign (Operand.tmp 180), type := 4, pos := "laws.go:150", after := #[{ on := 31, ground := Ground.data }, { on := 25, ground := Ground.chain }, { on := 0, ground := Ground.phase }, { on := 1, ground := Ground.phase }, { on := 2, ground := Ground.phase }, { on := 3, ground := Ground.phase }, { on := 4, ground := Ground.phase }, { on := 5, ground := Ground.phase }, { on := 6, ground := Ground.phase }, { on := 7, ground := Ground.phase }, { on := 8, ground := Ground.phase }, { on := 9, ground := Ground.phase }, { on := 10, ground := Ground.phase }, { on := 11, ground := Ground.phase }, { on := 12, ground := Ground.phase }, { on := 13, ground := Ground.phase }, { on := 14, ground := Ground.phase }, { on := 15, ground := Ground.phase }, { on := 16, ground := Ground.phase }, { on := 17, ground := Ground.phase }, { on := 18, ground := Ground.phase }, { on := 19, ground := Ground.phase }, { on := 20, ground := Ground.phase }, { on := 21, ground := Ground.phase }, { on := 22, ground := Ground.phase }, { on := 23, ground := Ground.phase }, { on := 24, ground := Ground.phase }, { on := 25, ground := Ground.phase }, { on := 26, ground := Ground.phase }, { on := 27, ground := Ground.phase }, { on := 28, ground := Ground.phase }, { on := 29, ground := Ground.phase }, { on := 30, ground := Ground.phase }, { on := 31, ground := Ground.phase }], guard := none }) (v := ?vvfff32) rfl (by kernel_rfl) (by kernel_rfl) (by kernel_rfl) (fun _ _ _ h => h) (Or.inl ⟨by rfl, ?hyfff32⟩) S13 ?restfff32
          case hyfff32 => (intro w hSw; go_simp <;> with_reducible rfl)
          try simp only [Act.put, List.setIfInBounds_toArray, List.set_cons_zero, List.set_cons_succ]
          refine wpAnyH_done (by kernel_rfl) ?_ _
          go_wp2_with fail
          go_ret
          exact ⟨rfl, S13.low⟩
end Go.Proofs.Ytjcjohapmaiecaa
