/- The program's EthBytes and ArpBytes. -/
import Derived.Test.YtjcjohapmaiecaaEthK
namespace Go.Proofs.Ytjcjohapmaiecaa
open Go.RowKit
attribute [local go_sem ↓] Go.wp_at_zero Go.wp_at_succ

def ethOk (to fr k : Int) (b : ByteArray) : Bool := isMac to && isMac fr && inR k 0 65535 && decide (b.size ≤ 60)
theorem ethB_ok {to fr k : Int} {b : ByteArray} (h : ethOk to fr k b = true) : ethB to fr k b = strOf (be 6 to.toNat ++ (be 6 fr.toNat ++ (be 2 k.toNat ++ b.data.toList))) := by rw [ethOk] at h; rw [ethB, h]; rfl
theorem ethB_no {to fr k : Int} {b : ByteArray} (h : ethOk to fr k b = false) : ethB to fr k b = ⟨#[]⟩ := by rw [ethOk] at h; rw [ethB, h]; rfl
theorem ethOk_t {to fr k : Int} {b : ByteArray} (h : ethOk to fr k b = true) : isMac to = true ∧ isMac fr = true ∧ inR k 0 65535 = true ∧ b.size ≤ 60 := by
  simp only [ethOk, Bool.and_eq_true, decide_eq_true_eq] at h; exact ⟨h.1.1.1, h.1.1.2, h.1.2, h.2⟩
set_option maxHeartbeats 1000000 in
theorem ethRight_any (to fr k : Int) (b : ByteArray) (w : World) (hb : b.size ≤ maxLen) :
    Calls Try.prog 45 #[ethV to fr k b] w fun e w' => e = .returned (.bool (ethOk to fr k b)) ∧ Below w.heap.size w w' := by
  unfold maxLen at hb
  unfold ethV
  cases h1 : isMac to
  · have HR : Hid (ethOk to fr k b = false) := Lib.hid (by rw [ethOk, h1]; rfl)
    go_enter Try.func45, Try.ntmps45
    go_wp2_with (go_at_call 68; refine (implMac_any _ _).mono ?_; rintro e w' ⟨rfl, rfl⟩)
    go_ret
    refine ⟨bool_ret HR.out.symm, ?_⟩
    go_grown
  cases h2 : isMac fr
  · have HR : Hid (ethOk to fr k b = false) := Lib.hid (by rw [ethOk, h2]; simp)
    go_enter Try.func45, Try.ntmps45
    go_wp2_with (go_at_call 68; refine (implMac_any _ _).mono ?_; rintro e w' ⟨rfl, rfl⟩)
    go_ret
    refine ⟨bool_ret HR.out.symm, ?_⟩
    go_grown
  by_cases h3 : 0 ≤ k
  case neg =>
    have HR : Hid (ethOk to fr k b = false) := Lib.hid (by rw [ethOk, inR, decide_eq_false h3]; simp)
    go_enter Try.func45, Try.ntmps45
    go_wp2_with (go_at_call 68; refine (implMac_any _ _).mono ?_; rintro e w' ⟨rfl, rfl⟩)
    go_ret
    refine ⟨bool_ret HR.out.symm, ?_⟩
    go_grown
  by_cases h4 : k ≤ 65535
  case neg =>
    have HR : Hid (ethOk to fr k b = false) := Lib.hid (by rw [ethOk, inR, decide_eq_false h4]; simp)
    go_enter Try.func45, Try.ntmps45
    go_wp2_with (go_at_call 68; refine (implMac_any _ _).mono ?_; rintro e w' ⟨rfl, rfl⟩)
    go_ret
    refine ⟨bool_ret HR.out.symm, ?_⟩
    go_grown
  have HR : Hid (ethOk to fr k b = decide ((b.size : Int) ≤ 60)) := Lib.hid (by rw [ethOk, h1, h2, inR, decide_eq_true h3, decide_eq_true h4, Bool.true_and, Bool.true_and, Bool.true_and]; exact decide_eq_decide.2 (by omega))
  go_enter Try.func45, Try.ntmps45
  go_wp2_with (go_at_call 68; refine (implMac_any _ _).mono ?_; rintro e w' ⟨rfl, rfl⟩)
  go_ret
  refine ⟨bool_ret HR.out.symm, ?_⟩
  go_grown

set_option maxHeartbeats 1000000 in
theorem arpRight_any (op mac ip tm ti : Int) (w : World) :
    Calls Try.prog 49 #[arpV op mac ip tm ti] w fun e w' => e = .returned (.bool (arpOk op mac ip tm ti)) ∧ Below w.heap.size w w' := by
  unfold arpV
  by_cases h0 : op = 1 ∨ op = 2
  case neg =>
    have e1 : ¬ op = 1 := by omega
    have e2 : ¬ op = 2 := by omega
    have HR : Hid (arpOk op mac ip tm ti = false) := Lib.hid (by
      have : inR op 1 2 = false := by rw [inR, Bool.and_eq_false_iff]; simp only [decide_eq_false_iff_not]; omega
      rw [arpOk, this]; rfl)
    go_enter Try.func49, Try.ntmps49
    go_wp2_with (first | (go_at_call 68; refine (implMac_any _ _).mono ?_; rintro e w' ⟨rfl, rfl⟩) | (go_at_call 74; refine (implIp_any _ _).mono ?_; rintro e w' ⟨rfl, rfl⟩))
    go_ret
    refine ⟨bool_ret HR.out.symm, ?_⟩
    go_grown
  have hin : inR op 1 2 = true := by rw [inR, Bool.and_eq_true]; simp only [decide_eq_true_eq]; omega
  have HR : Hid (arpOk op mac ip tm ti = (isMac mac && isIp ip && isMac tm && isIp ti)) := Lib.hid (by
    rw [arpOk, hin]; cases isMac mac <;> cases isIp ip <;> cases isMac tm <;> cases isIp ti <;> rfl)
  clear hin
  cases h2 : isMac mac
  · rw [h2] at HR
    rcases h0 with h0 | h0
    all_goals
      subst h0
      go_enter Try.func49, Try.ntmps49
      go_wp2_with (first | (go_at_call 68; refine (implMac_any _ _).mono ?_; rintro e w' ⟨rfl, rfl⟩) | (go_at_call 74; refine (implIp_any _ _).mono ?_; rintro e w' ⟨rfl, rfl⟩))
      go_ret
      refine ⟨bool_ret HR.out.symm, ?_⟩
      go_grown
  cases h3 : isIp ip
  · rw [h2, h3] at HR
    rcases h0 with h0 | h0
    all_goals
      subst h0
      go_enter Try.func49, Try.ntmps49
      go_wp2_with (first | (go_at_call 68; refine (implMac_any _ _).mono ?_; rintro e w' ⟨rfl, rfl⟩) | (go_at_call 74; refine (implIp_any _ _).mono ?_; rintro e w' ⟨rfl, rfl⟩))
      go_ret
      refine ⟨bool_ret HR.out.symm, ?_⟩
      go_grown
  cases h4 : isMac tm
  · rw [h2, h3, h4] at HR
    rcases h0 with h0 | h0
    all_goals
      subst h0
      go_enter Try.func49, Try.ntmps49
      go_wp2_with (first | (go_at_call 68; refine (implMac_any _ _).mono ?_; rintro e w' ⟨rfl, rfl⟩) | (go_at_call 74; refine (implIp_any _ _).mono ?_; rintro e w' ⟨rfl, rfl⟩))
      go_ret
      refine ⟨bool_ret HR.out.symm, ?_⟩
      go_grown
  rw [h2, h3, h4] at HR
  rcases h0 with h0 | h0
  all_goals
    subst h0
    go_enter Try.func49, Try.ntmps49
    go_wp2_with (first | (go_at_call 68; refine (implMac_any _ _).mono ?_; rintro e w' ⟨rfl, rfl⟩) | (go_at_call 74; refine (implIp_any _ _).mono ?_; rintro e w' ⟨rfl, rfl⟩))
    go_ret
    refine ⟨bool_ret HR.out.symm, ?_⟩
    go_grown

/- a MAC address that is right, in its bytes -/
theorem macOf_is (n : Int) (w : World) (h : isMac n = true) :
    Calls Try.prog 46 #[.int .i64 n] w fun e w' => e = .returned (macV (strOf (be 6 n.toNat))) ∧ Below w.heap.size w w' := by
  have hb := isMac_t h
  have c := macOf_any n w
  rwa [show n % 18446744073709551616 = n from by omega] at c
theorem macText_is (n : Nat) (w : World) : Calls Try.prog 47 #[macV (strOf (be 6 n))] w fun e w' => e = .returned (.string (strOf (be 6 n))) ∧ Below w.heap.size w w' :=
  macText_any _ w (by rw [strOf_size, be_length])
set_option maxHeartbeats 1000000 in
theorem ownerBytes_any (mac ip : Int) (w : World) (h1 : isMac mac = true) (h2 : isIp ip = true) :
    Calls Try.prog 50 #[.int .i64 mac, .int .i64 ip] w fun e w' => e = .returned (.string (strOf (be 6 mac.toNat ++ be 4 ip.toNat))) ∧ Below w.heap.size w w' := by
  have P1 : BeIs ip 4 := .mk .four (by have := isIp_t h2; omega) (by have := isIp_t h2; omega)
  have c1 : ¬ 9223372036854775807 < (strOf (be 6 mac.toNat)).size + (strOf (be 4 ip.toNat)).size := by rw [strOf_size, strOf_size, be_length, be_length]; omega
  go_enter Try.func50, Try.ntmps50
  go_wp2_with (first | (go_at_call 46; refine (macOf_is _ _ h1).mono ?_; rintro e w1 ⟨rfl, hb1⟩) | (go_at_call 47; refine (macText_is _ _).mono ?_; rintro e w2 ⟨rfl, hb2⟩) | (go_at_call 48; refine (implBe_is _ _ _ P1).mono ?_; rintro e w3 ⟨rfl, hb3⟩))
  go_ret
  exact ⟨str_ret (by rw [app_strs]), (hb1.trans (hb2.mono hb1.size)).trans (hb3.mono (Nat.le_trans hb1.size hb2.size))⟩
set_option maxHeartbeats 2000000 in
theorem implEthBytes_any (to fr k : Int) (b : ByteArray) (w : World) (hb : b.size ≤ maxLen) :
    Calls Try.prog 14 #[ethV to fr k b] w fun e w' => e = .returned (.string (ethB to fr k b)) ∧ Below w.heap.size w w' := by
  have HRt := Lib.hid (fun W => ethRight_any to fr k b W hb)
  unfold ethV at HRt ⊢
  unfold maxLen at hb
  cases h1 : ethOk to fr k b
  · have HR := Lib.hid (ethB_no h1)
    rw [h1] at HRt
    go_enter Try.func14, Try.ntmps14
    go_wp2_with (go_at_call 45; refine (HRt.out _).mono ?_; rintro e w1 ⟨rfl, hb1⟩)
    go_ret
    exact ⟨str_ret HR.out.symm, ((Below.refl _ _).alloc (Nat.le_refl _) _).trans (hb1.mono (by simp))⟩
  · have HR := Lib.hid (ethB_ok h1)
    rw [h1] at HRt
    obtain ⟨m1, m2, m3, m4⟩ := ethOk_t h1
    have hk := inR_t m3
    have P3 : BeIs k 2 := .mk .two (by omega) (by omega)
    have c1 : ¬ 9223372036854775807 < (strOf (be 6 to.toNat)).size + (strOf (be 6 fr.toNat)).size := by rw [strOf_size, strOf_size, be_length, be_length]; omega
    have c2 : ¬ 9223372036854775807 < (strOf (be 6 to.toNat)).size + (strOf (be 6 fr.toNat)).size + (strOf (be 2 k.toNat)).size := by rw [strOf_size, strOf_size, strOf_size, be_length, be_length, be_length]; omega
    have c3 : ¬ 9223372036854775807 < (strOf (be 6 to.toNat)).size + (strOf (be 6 fr.toNat)).size + (strOf (be 2 k.toNat)).size + b.size := by rw [strOf_size, strOf_size, strOf_size, be_length, be_length, be_length]; omega
    go_enter Try.func14, Try.ntmps14
    go_wp2_with (go_at_call 45; refine (HRt.out _).mono ?_; rintro e w1 ⟨rfl, hb1⟩)
    have S0 : w1.drew.cell? ⟨w.heap.size, 0, none⟩ = some (.int .i64 to) ∧ w1.drew.cell? ⟨w.heap.size, 1, none⟩ = some (.int .i64 fr) ∧ w1.drew.cell? ⟨w.heap.size, 2, none⟩ = some (.int .i64 k) ∧ w1.drew.cell? ⟨w.heap.size, 3, none⟩ = some (.string b) ∧ Below w.heap.size w w1.drew := by
      have S1 := keep4 (B := w.heap.size) (w := w) (W := w.alloc (.cells #[.int .i64 to, .int .i64 fr, .int .i64 k, .string b] 24)) (v0 := .int .i64 to) (v1 := .int .i64 fr) (v2 := .int .i64 k) (v3 := .string b) ⟨by simp, by simp, by simp, by simp, (Below.refl _ _).alloc (Nat.le_refl _) _⟩ hb1
      exact ⟨S1.1, S1.2.1, S1.2.2.1, S1.2.2.2.1, S1.2.2.2.2.drew⟩
    clear hb1
    go_region_held3 (fun w' => w'.cell? ⟨w.heap.size, 0, none⟩ = some (.int .i64 to) ∧ w'.cell? ⟨w.heap.size, 1, none⟩ = some (.int .i64 fr) ∧ w'.cell? ⟨w.heap.size, 2, none⟩ = some (.int .i64 k) ∧ w'.cell? ⟨w.heap.size, 3, none⟩ = some (.string b) ∧ Below w.heap.size w w') (first | exact S0)
      (first | (go_at_call 46; refine (macOf_is _ _ ?_).mono ?_; (first | exact m1 | exact m2); rintro e w1 ⟨rfl, hb1⟩; replace S0 := keep4 S0 hb1; clear hb1) | (go_at_call 47; refine (macText_is _ _).mono ?_; rintro e w1 ⟨rfl, hb1⟩; replace S0 := keep4 S0 hb1; clear hb1) | (go_at_call 48; refine (implBe_is _ _ _ P3).mono ?_; rintro e w1 ⟨rfl, hb1⟩; replace S0 := keep4 S0 hb1; clear hb1))
    go_wp2
    go_ret
    exact ⟨str_ret (by rw [HR.out, app_strs, app_strs, app_strOf, strOf_list, List.append_assoc, List.append_assoc]), S0.2.2.2.2⟩
end Go.Proofs.Ytjcjohapmaiecaa
