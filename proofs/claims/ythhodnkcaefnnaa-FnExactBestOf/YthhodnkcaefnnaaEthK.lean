/- The program's tests of ranges, IsGroup, VxBytes. -/
import Derived.Test.YthhodnkcaefnnaaEthJ
import Derived.Test.YthhodnkcaefnnaaEthT
import Derived.Deep.RegionWith
import Derived.Deep.RegionHeld3
import Derived.Deep.DrawnRows
namespace Go.Proofs.Ythhodnkcaefnnaa
open Go.RowKit
attribute [local go_sem ↓] Go.wp_at_zero Go.wp_at_succ

theorem implMac_any (n : Int) (w : World) : Calls Try.prog 43 #[.int .i64 n] w fun e w' => e = .returned (.bool (isMac n)) ∧ w = w' := by
  by_cases h1 : 0 ≤ n
  · have HR : Hid (isMac n = decide (n ≤ 281474976710655)) := Lib.hid (by rw [isMac, inR, decide_eq_true h1]; rfl)
    go_enter Try.func43, Try.ntmps43
    go_wp2
    go_ret
    exact ⟨bool_ret HR.out.symm, rfl⟩
  · have HR : Hid (isMac n = false) := Lib.hid (by rw [isMac, inR, decide_eq_false h1]; rfl)
    go_enter Try.func43, Try.ntmps43
    go_wp2
    go_ret
    exact ⟨bool_ret HR.out.symm, rfl⟩
theorem implIp_any (n : Int) (w : World) : Calls Try.prog 31 #[.int .i64 n] w fun e w' => e = .returned (.bool (isIp n)) ∧ w = w' := by
  by_cases h1 : 0 ≤ n
  · have HR : Hid (isIp n = decide (n ≤ 4294967295)) := Lib.hid (by rw [isIp, inR, decide_eq_true h1]; rfl)
    go_enter Try.func31, Try.ntmps31
    go_wp2
    go_ret
    exact ⟨bool_ret HR.out.symm, rfl⟩
  · have HR : Hid (isIp n = false) := Lib.hid (by rw [isIp, inR, decide_eq_false h1]; rfl)
    go_enter Try.func31, Try.ntmps31
    go_wp2
    go_ret
    exact ⟨bool_ret HR.out.symm, rfl⟩
theorem implVni_any (n : Int) (w : World) : Calls Try.prog 28 #[.int .i64 n] w fun e w' => e = .returned (.bool (isVni n)) ∧ w = w' := by
  by_cases h1 : 1 ≤ n
  · have HR : Hid (isVni n = decide (n ≤ 16777215)) := Lib.hid (by rw [isVni, inR, decide_eq_true h1]; rfl)
    go_enter Try.func28, Try.ntmps28
    go_wp2
    go_ret
    exact ⟨bool_ret HR.out.symm, rfl⟩
  · have HR : Hid (isVni n = false) := Lib.hid (by rw [isVni, inR, decide_eq_false h1]; rfl)
    go_enter Try.func28, Try.ntmps28
    go_wp2
    go_ret
    exact ⟨bool_ret HR.out.symm, rfl⟩

def vxRightB (v : Int) (t : ByteArray) : Bool := isVni v && decide (t.size ≤ 74)
theorem vxB_right (v : Int) (t : ByteArray) : vxRightB v t = false → vxB v t = ⟨#[]⟩ := by
  intro h; rw [vxRightB] at h; rw [vxB, h]; rfl
theorem vxB_wrong (v : Int) (t : ByteArray) : vxRightB v t = true → vxB v t = strOf ([8, 0, 0, 0] ++ (be 3 v.toNat ++ ([0] ++ t.data.toList))) := by
  intro h; rw [vxRightB] at h; rw [vxB, h]; rfl
theorem vxRight_t {v : Int} {t : ByteArray} (h : vxRightB v t = true) : 1 ≤ v ∧ v ≤ 16777215 ∧ t.size ≤ 74 := by
  rw [vxRightB, Bool.and_eq_true, decide_eq_true_eq] at h
  exact ⟨(isVni_t h.1).1, (isVni_t h.1).2, h.2⟩
theorem dn {B : Nat} {a w : World} (h : Below B a w) (n : Nat) : Below B a (w.drewN n) := h.trans ⟨rfl, rfl, rfl, Nat.le_refl _, fun _ _ => rfl⟩
/- IsGroup -/
theorem be6_head (n : Int) (h0 : 0 ≤ n) (h1 : n ≤ 281474976710655) : ∃ b1 b2 b3 b4 b5 : UInt8, strOf (be 6 (n % 18446744073709551616).toNat) = ⟨#[UInt8.ofNat (n / 1099511627776).toNat, b1, b2, b3, b4, b5]⟩ := by
  rw [show n % 18446744073709551616 = n from by omega]
  have e : n.toNat / 256 / 256 / 256 / 256 / 256 % 256 = (n / 1099511627776).toNat := by omega
  exact ⟨UInt8.ofNat (n.toNat / 256 / 256 / 256 / 256 % 256), UInt8.ofNat (n.toNat / 256 / 256 / 256 % 256), UInt8.ofNat (n.toNat / 256 / 256 % 256), UInt8.ofNat (n.toNat / 256 % 256), UInt8.ofNat (n.toNat % 256), by rw [← e]; rfl⟩
theorem macOf_group (n : Int) : ∃ b0 b1 b2 b3 b4 b5 : UInt8, (isGroup n = (isMac n && !(b0 == evenB b0))) ∧
    macV (strOf (be 6 (n % 18446744073709551616).toNat)) = .agg #[.int .u8 (b0.toNat : Int), .int .u8 (b1.toNat : Int), .int .u8 (b2.toNat : Int), .int .u8 (b3.toNat : Int), .int .u8 (b4.toNat : Int), .int .u8 (b5.toNat : Int)] := by
  cases hm : isMac n
  · obtain ⟨b0, b1, b2, b3, b4, b5, e⟩ := six_bytes (strOf (be 6 (n % 18446744073709551616).toNat)) (by rw [strOf_size, be_length])
    exact ⟨b0, b1, b2, b3, b4, b5, by rw [isGroup, hm]; rfl, by rw [e]; rfl⟩
  · have hb := isMac_t hm
    obtain ⟨b1, b2, b3, b4, b5, e⟩ := be6_head n hb.1 hb.2
    refine ⟨_, b1, b2, b3, b4, b5, ?_, by rw [e]; rfl⟩
    rw [isGroup, hm, Bool.true_and, Bool.true_and, Bool.eq_iff_iff]
    have e1 : (UInt8.ofNat (n / 1099511627776).toNat).toNat = (n / 1099511627776).toNat := UInt8.toNat_ofNat_of_lt' (by show _ < 256; omega)
    simp only [decide_eq_true_eq, Bool.not_eq_true', beq_eq_false_iff_ne, ne_eq, ← UInt8.toNat_inj, evenB_nat, e1]
    omega
abbrev Six (G : Nat) (v0 v1 v2 v3 v4 v5 : Value) (w W : World) : Prop := W.cell? ⟨G, 0, none⟩ = some v0 ∧ W.cell? ⟨G, 1, none⟩ = some v1 ∧ W.cell? ⟨G, 2, none⟩ = some v2 ∧ W.cell? ⟨G, 3, none⟩ = some v3 ∧ W.cell? ⟨G, 4, none⟩ = some v4 ∧ W.cell? ⟨G, 5, none⟩ = some v5 ∧ Below w.heap.size w W
theorem Six.keep {G : Nat} {w W W' : World} {v0 v1 v2 v3 v4 v5 : Value} (h : Six G v0 v1 v2 v3 v4 v5 w W) (hb : Below W.heap.size W W') : Six G v0 v1 v2 v3 v4 v5 w W' := by
  obtain ⟨h0, h1, h2, h3, h4, h5, h6⟩ := h
  have hl := World.block_lt_of_cell? W _ h0
  exact ⟨(hb.cell hl).trans h0, (hb.cell (p := ⟨G, 1, none⟩) hl).trans h1, (hb.cell (p := ⟨G, 2, none⟩) hl).trans h2, (hb.cell (p := ⟨G, 3, none⟩) hl).trans h3, (hb.cell (p := ⟨G, 4, none⟩) hl).trans h4, (hb.cell (p := ⟨G, 5, none⟩) hl).trans h5, h6.trans (hb.mono h6.size)⟩
set_option maxHeartbeats 2000000 in
theorem implIsGroup_any (n : Int) (w : World) : Calls Try.prog 44 #[.int .i64 n] w fun e w' => e = .returned (.bool (isGroup n)) ∧ Below w.heap.size w w' := by
  obtain ⟨b0, b1, b2, b3, b4, b5, hg, hV⟩ := macOf_group n
  have HO := Lib.hid (fun W => macOf_any n W)
  rw [hV] at HO
  have HS := Lib.hid (fun W => macSingle_any b0 b1 b2 b3 b4 b5 W)
  clear hV
  have hq := mac_equal b0 (evenB b0) b1 b2 b3 b4 b5
  generalize evenB b0 = x at *
  cases hm : isMac n
  · rw [hm, Bool.false_and] at hg
    have HR := Lib.hid hg; clear hg
    go_enter Try.func44, Try.ntmps44
    go_wp2_with (go_at_call 48; refine (HO.out _).mono ?_; rintro e w1 ⟨rfl, hb1⟩)
    go_quiet ((go_at_call 43; refine Calls.quiet_of_same ((implMac_any n _).mono fun e w' h => ⟨h.1, h.2.symm⟩)))
    go_wp2
    go_ret
    exact ⟨bool_ret HR.out.symm, dn (hb1.alloc hb1.size _) _⟩
  · rw [hm, Bool.true_and] at hg
    have HR := Lib.hid hg; clear hg
    go_enter Try.func44, Try.ntmps44
    go_wp2_with (go_at_call 48; refine (HO.out _).mono ?_; rintro e w1 ⟨rfl, hb1⟩)
    obtain ⟨W, hW⟩ : ∃ W, W = w1.alloc (.cells #[.int .u8 (b0.toNat : Int), .int .u8 (b1.toNat : Int), .int .u8 (b2.toNat : Int), .int .u8 (b3.toNat : Int), .int .u8 (b4.toNat : Int), .int .u8 (b5.toNat : Int)] 57) := ⟨_, rfl⟩
    have S0 : Six w1.heap.size (.int .u8 (b0.toNat : Int)) (.int .u8 (b1.toNat : Int)) (.int .u8 (b2.toNat : Int)) (.int .u8 (b3.toNat : Int)) (.int .u8 (b4.toNat : Int)) (.int .u8 (b5.toNat : Int)) w W.drew := by
      subst hW; exact ⟨by simp, by simp, by simp, by simp, by simp, by simp, (hb1.alloc hb1.size _).drew⟩
    rw [← hW]
    clear hW
    go_region_held3 (fun w' => Six w1.heap.size (.int .u8 (b0.toNat : Int)) (.int .u8 (b1.toNat : Int)) (.int .u8 (b2.toNat : Int)) (.int .u8 (b3.toNat : Int)) (.int .u8 (b4.toNat : Int)) (.int .u8 (b5.toNat : Int)) w w') (first | exact S0)
      (first | (go_at_call 43; refine (implMac_any _ _).mono ?_; rintro e w' ⟨rfl, rfl⟩) | (go_at_call 49; refine (HS.out _).mono ?_; rintro e w2 ⟨rfl, hb2⟩; replace S0 := S0.keep hb2; clear hb2))
    go_wp2
    go_ret
    exact ⟨bool_ret HR.out.symm, S0.2.2.2.2.2.2⟩
end Go.Proofs.Ythhodnkcaefnnaa
