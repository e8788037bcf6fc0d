/- The model's ARP messages and encapsulations. -/
import Derived.Test.YtjcjohapmaiecaaEthS
namespace Go.Proofs.Ytjcjohapmaiecaa
open Go.RowKit
attribute [local go_sem ↓] Go.wp_at_zero Go.wp_at_succ

theorem keep5 {B : Nat} {w W W' : World} {v0 v1 v2 v3 v4 : Value} (h : W.cell? ⟨B, 0, none⟩ = some v0 ∧ W.cell? ⟨B, 1, none⟩ = some v1 ∧ W.cell? ⟨B, 2, none⟩ = some v2 ∧ W.cell? ⟨B, 3, none⟩ = some v3 ∧ W.cell? ⟨B, 4, none⟩ = some v4 ∧ Below B w W) (hb : Below W.heap.size W W') :
    W'.cell? ⟨B, 0, none⟩ = some v0 ∧ W'.cell? ⟨B, 1, none⟩ = some v1 ∧ W'.cell? ⟨B, 2, none⟩ = some v2 ∧ W'.cell? ⟨B, 3, none⟩ = some v3 ∧ W'.cell? ⟨B, 4, none⟩ = some v4 ∧ Below B w W' := by
  obtain ⟨h0, h1, h2, h3, h4, h5⟩ := h
  have hl := World.block_lt_of_cell? W _ h0
  exact ⟨(hb.cell hl).trans h0, (hb.cell (p := ⟨B, 1, none⟩) hl).trans h1, (hb.cell (p := ⟨B, 2, none⟩) hl).trans h2, (hb.cell (p := ⟨B, 3, none⟩) hl).trans h3, (hb.cell (p := ⟨B, 4, none⟩) hl).trans h4, h5.trans (hb.mono (by simp at hl; omega))⟩
def arpV (op mac ip tm ti : Int) : Value := .agg #[.int .i64 op, .int .i64 mac, .int .i64 ip, .int .i64 tm, .int .i64 ti]
def arpOk (op mac ip tm ti : Int) : Bool := inR op 1 2 && isMac mac && isMac tm && isIp ip && isIp ti
def arpB (op mac ip tm ti : Int) : ByteArray := if arpOk op mac ip tm ti then strOf ([0, 1, 8, 0, 6, 4] ++ (be 2 op.toNat ++ (be 6 mac.toNat ++ (be 4 ip.toNat ++ (be 6 tm.toNat ++ be 4 ti.toNat))))) else ⟨#[]⟩
theorem arpB_1 {op mac ip tm ti : Int} (h : inR op 1 2 = false) : arpB op mac ip tm ti = ⟨#[]⟩ := by rw [arpB, arpOk, h]; simp
theorem arpB_2 {op mac ip tm ti : Int} (h : isMac mac = false) : arpB op mac ip tm ti = ⟨#[]⟩ := by rw [arpB, arpOk, h]; simp
theorem arpB_3 {op mac ip tm ti : Int} (h : isMac tm = false) : arpB op mac ip tm ti = ⟨#[]⟩ := by rw [arpB, arpOk, h]; simp
theorem arpB_4 {op mac ip tm ti : Int} (h : isIp ip = false) : arpB op mac ip tm ti = ⟨#[]⟩ := by rw [arpB, arpOk, h]; simp
theorem arpB_5 {op mac ip tm ti : Int} (h : isIp ti = false) : arpB op mac ip tm ti = ⟨#[]⟩ := by rw [arpB, arpOk, h]; simp
theorem arpB_0 {op mac ip tm ti : Int} (h1 : inR op 1 2 = true) (h2 : isMac mac = true) (h3 : isMac tm = true) (h4 : isIp ip = true) (h5 : isIp ti = true) : arpB op mac ip tm ti = strOf ([0, 1, 8, 0, 6, 4] ++ (be 2 op.toNat ++ (be 6 mac.toNat ++ (be 4 ip.toNat ++ (be 6 tm.toNat ++ be 4 ti.toNat))))) := by rw [arpB, arpOk, h1, h2, h3, h4, h5]; rfl

set_option maxHeartbeats 600000 in
theorem specArpBytes_any (op mac ip tm ti : Int) (w : World) :
    Calls Try.prog 25 #[arpV op mac ip tm ti] w fun e w' => e = .returned (.string (arpB op mac ip tm ti)) ∧ Below w.heap.size w w' := by
  unfold arpV
  cases h1 : inR op 1 2
  · have HR := Lib.hid (arpB_1 (op := op) (mac := mac) (ip := ip) (tm := tm) (ti := ti) h1)
    go_enter Try.func25, Try.ntmps25
    go_wp2_with (first | (go_at_call 62; refine (specMac_any _ _).mono ?_; rintro e w' ⟨rfl, rfl⟩) | (go_at_call 65; refine (specIp_any _ _).mono ?_; rintro e w' ⟨rfl, rfl⟩) | (go_at_call 63; refine (specIs_any _ _ _ _).mono ?_; rintro e w' ⟨rfl, rfl⟩))
    go_ret
    refine ⟨str_ret HR.out.symm, ?_⟩
    go_grown
  cases h2 : isMac mac
  · have HR := Lib.hid (arpB_2 (op := op) (mac := mac) (ip := ip) (tm := tm) (ti := ti) h2)
    go_enter Try.func25, Try.ntmps25
    go_wp2_with (first | (go_at_call 62; refine (specMac_any _ _).mono ?_; rintro e w' ⟨rfl, rfl⟩) | (go_at_call 65; refine (specIp_any _ _).mono ?_; rintro e w' ⟨rfl, rfl⟩) | (go_at_call 63; refine (specIs_any _ _ _ _).mono ?_; rintro e w' ⟨rfl, rfl⟩))
    go_ret
    refine ⟨str_ret HR.out.symm, ?_⟩
    go_grown
  cases h3 : isMac tm
  · have HR := Lib.hid (arpB_3 (op := op) (mac := mac) (ip := ip) (tm := tm) (ti := ti) h3)
    go_enter Try.func25, Try.ntmps25
    go_wp2_with (first | (go_at_call 62; refine (specMac_any _ _).mono ?_; rintro e w' ⟨rfl, rfl⟩) | (go_at_call 65; refine (specIp_any _ _).mono ?_; rintro e w' ⟨rfl, rfl⟩) | (go_at_call 63; refine (specIs_any _ _ _ _).mono ?_; rintro e w' ⟨rfl, rfl⟩))
    go_ret
    refine ⟨str_ret HR.out.symm, ?_⟩
    go_grown
  cases h4 : isIp ip
  · have HR := Lib.hid (arpB_4 (op := op) (mac := mac) (ip := ip) (tm := tm) (ti := ti) h4)
    go_enter Try.func25, Try.ntmps25
    go_wp2_with (first | (go_at_call 62; refine (specMac_any _ _).mono ?_; rintro e w' ⟨rfl, rfl⟩) | (go_at_call 65; refine (specIp_any _ _).mono ?_; rintro e w' ⟨rfl, rfl⟩) | (go_at_call 63; refine (specIs_any _ _ _ _).mono ?_; rintro e w' ⟨rfl, rfl⟩))
    go_ret
    refine ⟨str_ret HR.out.symm, ?_⟩
    go_grown
  cases h5 : isIp ti
  · have HR := Lib.hid (arpB_5 (op := op) (mac := mac) (ip := ip) (tm := tm) (ti := ti) h5)
    go_enter Try.func25, Try.ntmps25
    go_wp2_with (first | (go_at_call 62; refine (specMac_any _ _).mono ?_; rintro e w' ⟨rfl, rfl⟩) | (go_at_call 65; refine (specIp_any _ _).mono ?_; rintro e w' ⟨rfl, rfl⟩) | (go_at_call 63; refine (specIs_any _ _ _ _).mono ?_; rintro e w' ⟨rfl, rfl⟩))
    go_ret
    refine ⟨str_ret HR.out.symm, ?_⟩
    go_grown
  have HR := Lib.hid (arpB_0 h1 h2 h3 h4 h5)
  have P1 := PutOk.two (n := op) (by have := inR_t h1; omega) (by have := inR_t h1; omega)
  have P2 := PutOk.six (isMac_t h2).1 (isMac_t h2).2
  have P3 := PutOk.six (isMac_t h3).1 (isMac_t h3).2
  have P4 := PutOk.four (isIp_t h4).1 (isIp_t h4).2
  have P5 := PutOk.four (isIp_t h5).1 (isIp_t h5).2
  have c1 : ¬ 9223372036854775807 < (⟨#[0, 1, 8, 0, 6, 4]⟩ : ByteArray).size + (strOf (be 2 op.toNat)).size := by rw [strOf_size, be_length]; show ¬ _ < 6 + 2; omega
  have d1 : ¬ 9223372036854775807 < 6 + (strOf (be 2 op.toNat)).size := by rw [strOf_size, be_length]; omega
  have c2 : ¬ 9223372036854775807 < (⟨#[0, 1, 8, 0, 6, 4]⟩ : ByteArray).size + (strOf (be 2 op.toNat)).size + (strOf (be 6 mac.toNat)).size := by rw [strOf_size, be_length, strOf_size, be_length]; show ¬ _ < 6 + 2 + 6; omega
  have d2 : ¬ 9223372036854775807 < 6 + (strOf (be 2 op.toNat)).size + (strOf (be 6 mac.toNat)).size := by rw [strOf_size, be_length, strOf_size, be_length]; omega
  have c3 : ¬ 9223372036854775807 < (⟨#[0, 1, 8, 0, 6, 4]⟩ : ByteArray).size + (strOf (be 2 op.toNat)).size + (strOf (be 6 mac.toNat)).size + (strOf (be 4 ip.toNat)).size := by rw [strOf_size, be_length, strOf_size, be_length, strOf_size, be_length]; show ¬ _ < 6 + 2 + 6 + 4; omega
  have d3 : ¬ 9223372036854775807 < 6 + (strOf (be 2 op.toNat)).size + (strOf (be 6 mac.toNat)).size + (strOf (be 4 ip.toNat)).size := by rw [strOf_size, be_length, strOf_size, be_length, strOf_size, be_length]; omega
  have c4 : ¬ 9223372036854775807 < (⟨#[0, 1, 8, 0, 6, 4]⟩ : ByteArray).size + (strOf (be 2 op.toNat)).size + (strOf (be 6 mac.toNat)).size + (strOf (be 4 ip.toNat)).size + (strOf (be 6 tm.toNat)).size := by rw [strOf_size, be_length, strOf_size, be_length, strOf_size, be_length, strOf_size, be_length]; show ¬ _ < 6 + 2 + 6 + 4 + 6; omega
  have d4 : ¬ 9223372036854775807 < 6 + (strOf (be 2 op.toNat)).size + (strOf (be 6 mac.toNat)).size + (strOf (be 4 ip.toNat)).size + (strOf (be 6 tm.toNat)).size := by rw [strOf_size, be_length, strOf_size, be_length, strOf_size, be_length, strOf_size, be_length]; omega
  have c5 : ¬ 9223372036854775807 < (⟨#[0, 1, 8, 0, 6, 4]⟩ : ByteArray).size + (strOf (be 2 op.toNat)).size + (strOf (be 6 mac.toNat)).size + (strOf (be 4 ip.toNat)).size + (strOf (be 6 tm.toNat)).size + (strOf (be 4 ti.toNat)).size := by rw [strOf_size, be_length, strOf_size, be_length, strOf_size, be_length, strOf_size, be_length, strOf_size, be_length]; show ¬ _ < 6 + 2 + 6 + 4 + 6 + 4; omega
  have d5 : ¬ 9223372036854775807 < 6 + (strOf (be 2 op.toNat)).size + (strOf (be 6 mac.toNat)).size + (strOf (be 4 ip.toNat)).size + (strOf (be 6 tm.toNat)).size + (strOf (be 4 ti.toNat)).size := by rw [strOf_size, be_length, strOf_size, be_length, strOf_size, be_length, strOf_size, be_length, strOf_size, be_length]; omega
  go_enter Try.func25, Try.ntmps25
  go_wp2_with (first | (go_at_call 62; refine (specMac_any _ _).mono ?_; rintro e w' ⟨rfl, rfl⟩) | (go_at_call 65; refine (specIp_any _ _).mono ?_; rintro e w' ⟨rfl, rfl⟩) | (go_at_call 63; refine (specIs_any _ _ _ _).mono ?_; rintro e w' ⟨rfl, rfl⟩))
  obtain ⟨W, hW⟩ : ∃ W, W = w.alloc (.cells #[.int .i64 op, .int .i64 mac, .int .i64 ip, .int .i64 tm, .int .i64 ti] 27) := ⟨_, rfl⟩
  have S0 : W.drew.cell? ⟨w.heap.size, 0, none⟩ = some (.int .i64 op) ∧ W.drew.cell? ⟨w.heap.size, 1, none⟩ = some (.int .i64 mac) ∧ W.drew.cell? ⟨w.heap.size, 2, none⟩ = some (.int .i64 ip) ∧ W.drew.cell? ⟨w.heap.size, 3, none⟩ = some (.int .i64 tm) ∧ W.drew.cell? ⟨w.heap.size, 4, none⟩ = some (.int .i64 ti) ∧ Below w.heap.size w W.drew := by
    subst hW; exact ⟨by simp, by simp, by simp, by simp, by simp, ((Below.refl _ _).alloc (Nat.le_refl _) _).drew⟩
  rw [← hW]
  clear hW
  go_region_held3 (fun w' => w'.cell? ⟨w.heap.size, 0, none⟩ = some (.int .i64 op) ∧ w'.cell? ⟨w.heap.size, 1, none⟩ = some (.int .i64 mac) ∧ w'.cell? ⟨w.heap.size, 2, none⟩ = some (.int .i64 ip) ∧ w'.cell? ⟨w.heap.size, 3, none⟩ = some (.int .i64 tm) ∧ w'.cell? ⟨w.heap.size, 4, none⟩ = some (.int .i64 ti) ∧ Below w.heap.size w w') (first | exact S0)
    (first | (go_at_call 64; refine (specPut_any _ _ _ ?_).mono ?_; (first | exact P1 | exact P2 | exact P3 | exact P4 | exact P5); rintro e w1 ⟨rfl, hb1⟩; replace S0 := keep5 S0 hb1; clear hb1))
  go_wp2
  go_ret
  exact ⟨str_ret (by rw [HR.out, show (⟨#[0, 1, 8, 0, 6, 4]⟩ : ByteArray) = strOf [0, 1, 8, 0, 6, 4] from rfl, app_strs, app_strs, app_strs, app_strs, app_strs]; simp only [List.append_assoc]), S0.2.2.2.2.2⟩

def vxR (s : ByteArray) : Value := if 8000 < s.size then vxOutV 0 ⟨#[]⟩ 2 else if s.size < 8 then vxOutV 0 ⟨#[]⟩ 4 else
  if (vxB (numAt s 4 7 : Nat) (s.extract 8 s.size)).toList == s.toList then vxOutV (numAt s 4 7 : Nat) (s.extract 8 s.size) 0 else vxOutV 0 ⟨#[]⟩ 3
theorem vxR_2 (s : ByteArray) (h1 : 8000 < s.size) : vxR s = vxOutV 0 ⟨#[]⟩ 2 := by rw [vxR, if_pos h1]
theorem vxR_4 (s : ByteArray) (h1 : ¬ 8000 < s.size) (h2 : s.size < 8) : vxR s = vxOutV 0 ⟨#[]⟩ 4 := by rw [vxR, if_neg h1, if_pos h2]
theorem vxR_3 (s : ByteArray) (h1 : ¬ 8000 < s.size) (h2 : ¬ s.size < 8) (h3 : ((vxB (numAt s 4 7 : Nat) (s.extract 8 s.size)).toList == s.toList) = false) : vxR s = vxOutV 0 ⟨#[]⟩ 3 := by rw [vxR, if_neg h1, if_neg h2, h3]; rfl
theorem vxR_0 (s : ByteArray) (h1 : ¬ 8000 < s.size) (h2 : ¬ s.size < 8) (h3 : ((vxB (numAt s 4 7 : Nat) (s.extract 8 s.size)).toList == s.toList) = true) : vxR s = vxOutV (numAt s 4 7 : Nat) (s.extract 8 s.size) 0 := by rw [vxR, if_neg h1, if_neg h2, h3]; rfl
theorem specVx_sub (s : ByteArray) (v : Int) (a b : Nat) (w : World) (h : s.size ≤ 8000) :
    Calls Try.prog 26 #[.int .i64 v, .string (s.extract a b)] w fun e w' => e = .returned (.string (vxB v (s.extract a b))) ∧ Below w.heap.size w w' :=
  specVxBytes_any _ _ w (by simp [maxLen]; omega)
set_option maxHeartbeats 2000000 in
theorem specVxRead_any (s : ByteArray) (w : World) (hs : s.size ≤ maxLen) :
    Calls Try.prog 29 #[.string s] w fun e w' => e = .returned (vxR s) ∧ Below w.heap.size w w' := by
  unfold maxLen at hs
  by_cases h1 : 8000 < s.size
  · have HR := Lib.hid (vxR_2 s h1)
    go_enter Try.func29, Try.ntmps29
    go_wp2_with fail
    refine bodyPost_ret (v := vxOutV 0 ⟨#[]⟩ 2) (by simp [results, Try.results29, go_sem, vxOutV]) rfl ⟨by rw [HR.out], ?_⟩
    go_grown
  by_cases h2 : s.size < 8
  · have HR := Lib.hid (vxR_4 s h1 h2)
    go_enter Try.func29, Try.ntmps29
    go_wp2_with fail
    refine bodyPost_ret (v := vxOutV 0 ⟨#[]⟩ 4) (by simp [results, Try.results29, go_sem, vxOutV]) rfl ⟨by rw [HR.out], ?_⟩
    go_grown
  have i7 : (7 : Int) ≤ s.size := by omega
  have i8 : (8 : Int) ≤ s.size := by omega
  have h8' : s.size ≤ 8000 := by omega
  cases h3 : (vxB (numAt s 4 7 : Nat) (s.extract 8 s.size)).toList == s.toList
  · have HR := Lib.hid (vxR_3 s h1 h2 h3)
    go_enter Try.func29, Try.ntmps29
    go_wp2_with (first | (go_at_call 67; refine (specGet_sub _ _ _ _ ?_).mono ?_; (first | decide | omega); rintro e w' ⟨rfl, rfl⟩) | (go_at_call 26; refine (specVx_sub _ _ _ _ _ h8').mono ?_; rintro e w1 ⟨rfl, hb1⟩; have hbw : Below w.heap.size w w1 := (((Below.refl _ _).alloc (Nat.le_refl _) _).trans (hb1.mono (by simp))); obtain ⟨hc, hf⟩ := bcell hb1))
    refine bodyPost_ret (v := vxOutV 0 ⟨#[]⟩ 3) (by simp [results, Try.results29, go_sem, vxOutV, hc]) rfl ⟨by rw [HR.out], ?_⟩
    go_grown
  · have HR := Lib.hid (vxR_0 s h1 h2 h3)
    go_enter Try.func29, Try.ntmps29
    go_wp2_with (first | (go_at_call 67; refine (specGet_sub _ _ _ _ ?_).mono ?_; (first | decide | omega); rintro e w' ⟨rfl, rfl⟩) | (go_at_call 26; refine (specVx_sub _ _ _ _ _ h8').mono ?_; rintro e w1 ⟨rfl, hb1⟩; have hbw : Below w.heap.size w w1 := (((Below.refl _ _).alloc (Nat.le_refl _) _).trans (hb1.mono (by simp))); obtain ⟨hc, hf⟩ := bcell hb1))
    refine bodyPost_ret (v := vxOutV (numAt s 4 7 : Nat) (s.extract 8 s.size) 0) (by simp [results, Try.results29, go_sem, vxOutV, hc]) rfl ⟨by rw [HR.out], ?_⟩
    go_grown
end Go.Proofs.Ytjcjohapmaiecaa
