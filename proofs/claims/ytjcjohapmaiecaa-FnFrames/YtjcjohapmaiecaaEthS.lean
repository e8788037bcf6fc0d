/- The model's frames. -/
import Derived.Test.YtjcjohapmaiecaaEthP
import Derived.Deep.RegionHeld3
import Derived.Deep.DrawnRows
import Derived.StillTailTactics
namespace Go.Proofs.Ytjcjohapmaiecaa
open Go.RowKit
attribute [local go_sem ↓] Go.wp_at_zero Go.wp_at_succ

theorem keep4 {B : Nat} {w W W' : World} {v0 v1 v2 v3 : Value} (h : W.cell? ⟨B, 0, none⟩ = some v0 ∧ W.cell? ⟨B, 1, none⟩ = some v1 ∧ W.cell? ⟨B, 2, none⟩ = some v2 ∧ W.cell? ⟨B, 3, none⟩ = some v3 ∧ Below B w W) (hb : Below W.heap.size W W') :
    W'.cell? ⟨B, 0, none⟩ = some v0 ∧ W'.cell? ⟨B, 1, none⟩ = some v1 ∧ W'.cell? ⟨B, 2, none⟩ = some v2 ∧ W'.cell? ⟨B, 3, none⟩ = some v3 ∧ Below B w W' := by
  obtain ⟨h0, h1, h2, h3, h4⟩ := h
  have hl := World.block_lt_of_cell? W _ h0
  exact ⟨(hb.cell hl).trans h0, (hb.cell (p := ⟨B, 1, none⟩) hl).trans h1, (hb.cell (p := ⟨B, 2, none⟩) hl).trans h2, (hb.cell (p := ⟨B, 3, none⟩) hl).trans h3, h4.trans (hb.mono (by simp at hl; omega))⟩
def ethV (to fr k : Int) (b : ByteArray) : Value := .agg #[.int .i64 to, .int .i64 fr, .int .i64 k, .string b]
def ethB (to fr k : Int) (b : ByteArray) : ByteArray := if isMac to && isMac fr && inR k 0 65535 && decide (b.size ≤ 60) then strOf (be 6 to.toNat ++ (be 6 fr.toNat ++ (be 2 k.toNat ++ b.data.toList))) else ⟨#[]⟩
theorem ethB_1 {to fr k : Int} {b : ByteArray} (h : isMac to = false) : ethB to fr k b = ⟨#[]⟩ := by rw [ethB, h]; rfl
theorem ethB_2 {to fr k : Int} {b : ByteArray} (h : isMac fr = false) : ethB to fr k b = ⟨#[]⟩ := by rw [ethB, h]; simp
theorem ethB_3 {to fr k : Int} {b : ByteArray} (h : inR k 0 65535 = false) : ethB to fr k b = ⟨#[]⟩ := by rw [ethB, h]; simp
theorem ethB_4 {to fr k : Int} {b : ByteArray} (h : ¬ b.size ≤ 60) : ethB to fr k b = ⟨#[]⟩ := by rw [ethB, decide_eq_false h]; simp
theorem ethB_0 {to fr k : Int} {b : ByteArray} (h1 : isMac to = true) (h2 : isMac fr = true) (h3 : inR k 0 65535 = true) (h : b.size ≤ 60) : ethB to fr k b = strOf (be 6 to.toNat ++ (be 6 fr.toNat ++ (be 2 k.toNat ++ b.data.toList))) := by
  rw [ethB, h1, h2, h3, decide_eq_true h]; rfl
theorem app_strs (x y : List UInt8) : strOf x ++ strOf y = strOf (x ++ y) := by rw [app_strOf, strOf_list, strOf_list]

set_option maxHeartbeats 1000000 in
theorem specEthBytes_any (to fr k : Int) (b : ByteArray) (w : World) (hb : b.size ≤ maxLen) :
    Calls Try.prog 24 #[ethV to fr k b] w fun e w' => e = .returned (.string (ethB to fr k b)) ∧ Below w.heap.size w w' := by
  unfold maxLen at hb
  unfold ethV
  cases h1 : isMac to
  · have HR := Lib.hid (ethB_1 (to := to) (fr := fr) (k := k) (b := b) h1)
    go_enter Try.func24, Try.ntmps24
    go_wp2_with (first | (go_at_call 62; refine (specMac_any _ _).mono ?_; rintro e w' ⟨rfl, rfl⟩))
    go_ret
    refine ⟨str_ret HR.out.symm, ?_⟩
    go_grown
  cases h2 : isMac fr
  · have HR := Lib.hid (ethB_2 (to := to) (fr := fr) (k := k) (b := b) h2)
    go_enter Try.func24, Try.ntmps24
    go_wp2_with (first | (go_at_call 62; refine (specMac_any _ _).mono ?_; rintro e w' ⟨rfl, rfl⟩))
    go_ret
    refine ⟨str_ret HR.out.symm, ?_⟩
    go_grown
  cases h3 : inR k 0 65535
  · have HR := Lib.hid (ethB_3 (to := to) (fr := fr) (k := k) (b := b) h3)
    go_enter Try.func24, Try.ntmps24
    go_wp2_with (first | (go_at_call 62; refine (specMac_any _ _).mono ?_; rintro e w' ⟨rfl, rfl⟩) | (go_at_call 63; refine (specIs_any _ _ _ _).mono ?_; rintro e w' ⟨rfl, rfl⟩))
    go_ret
    refine ⟨str_ret HR.out.symm, ?_⟩
    go_grown
  by_cases h4 : b.size ≤ 60
  · have HR := Lib.hid (ethB_0 h1 h2 h3 h4)
    have m1 := isMac_t h1
    have m2 := isMac_t h2
    have m3 := inR_t h3
    go_enter Try.func24, Try.ntmps24
    go_wp2_with (first | (go_at_call 62; refine (specMac_any _ _).mono ?_; rintro e w' ⟨rfl, rfl⟩) | (go_at_call 63; refine (specIs_any _ _ _ _).mono ?_; rintro e w' ⟨rfl, rfl⟩))
    have P1 := PutOk.six m1.1 m1.2
    have P2 := PutOk.six m2.1 m2.2
    have P3 := PutOk.two m3.1 m3.2
    have c1 : ¬ 9223372036854775807 < (strOf (be 6 to.toNat)).size + (strOf (be 6 fr.toNat)).size := by rw [strOf_size, strOf_size, be_length, be_length]; omega
    have c2 : ¬ 9223372036854775807 < (strOf (be 6 to.toNat)).size + (strOf (be 6 fr.toNat)).size + (strOf (be 2 k.toNat)).size := by rw [strOf_size, strOf_size, strOf_size, be_length, be_length, be_length]; omega
    have c3 : ¬ 9223372036854775807 < (strOf (be 6 to.toNat)).size + (strOf (be 6 fr.toNat)).size + (strOf (be 2 k.toNat)).size + b.size := by rw [strOf_size, strOf_size, strOf_size, be_length, be_length, be_length]; omega
    obtain ⟨W, hW⟩ : ∃ W, W = w.alloc (.cells #[.int .i64 to, .int .i64 fr, .int .i64 k, .string b] 24) := ⟨_, rfl⟩
    have S0 : W.drew.cell? ⟨w.heap.size, 0, none⟩ = some (.int .i64 to) ∧ W.drew.cell? ⟨w.heap.size, 1, none⟩ = some (.int .i64 fr) ∧ W.drew.cell? ⟨w.heap.size, 2, none⟩ = some (.int .i64 k) ∧ W.drew.cell? ⟨w.heap.size, 3, none⟩ = some (.string b) ∧ Below w.heap.size w W.drew := by
      subst hW; exact ⟨by simp, by simp, by simp, by simp, ((Below.refl _ _).alloc (Nat.le_refl _) _).drew⟩
    rw [← hW]
    clear hW
    go_region_held3 (fun w' => w'.cell? ⟨w.heap.size, 0, none⟩ = some (.int .i64 to) ∧ w'.cell? ⟨w.heap.size, 1, none⟩ = some (.int .i64 fr) ∧ w'.cell? ⟨w.heap.size, 2, none⟩ = some (.int .i64 k) ∧ w'.cell? ⟨w.heap.size, 3, none⟩ = some (.string b) ∧ Below w.heap.size w w') (first | exact S0)
      (first | (go_at_call 64; refine (specPut_any _ _ _ ?_).mono ?_; (first | exact P1 | exact P2 | exact P3); rintro e w1 ⟨rfl, hb1⟩; replace S0 := keep4 S0 hb1; clear hb1))
    go_wp2
    go_ret
    exact ⟨str_ret (by rw [HR.out, app_strs, app_strs, app_strOf, strOf_list, List.append_assoc, List.append_assoc]), S0.2.2.2.2⟩
  · have HR := Lib.hid (ethB_4 (to := to) (fr := fr) (k := k) h4)
    go_enter Try.func24, Try.ntmps24
    go_wp2_with (first | (go_at_call 62; refine (specMac_any _ _).mono ?_; rintro e w' ⟨rfl, rfl⟩) | (go_at_call 63; refine (specIs_any _ _ _ _).mono ?_; rintro e w' ⟨rfl, rfl⟩))
    go_ret
    refine ⟨str_ret HR.out.symm, ?_⟩
    go_grown

def vxB (vni : Int) (t : ByteArray) : ByteArray := if isVni vni && decide (t.size ≤ 74) then strOf ([8, 0, 0, 0] ++ (be 3 vni.toNat ++ ([0] ++ t.data.toList))) else ⟨#[]⟩
theorem vxB_1 {vni : Int} {t : ByteArray} (h : isVni vni = false) : vxB vni t = ⟨#[]⟩ := by rw [vxB, h]; rfl
theorem vxB_2 {vni : Int} {t : ByteArray} (h : ¬ t.size ≤ 74) : vxB vni t = ⟨#[]⟩ := by rw [vxB, decide_eq_false h]; simp
theorem vxB_0 {vni : Int} {t : ByteArray} (h1 : isVni vni = true) (h : t.size ≤ 74) : vxB vni t = strOf ([8, 0, 0, 0] ++ (be 3 vni.toNat ++ ([0] ++ t.data.toList))) := by rw [vxB, h1, decide_eq_true h]; rfl
set_option maxHeartbeats 1000000 in
theorem specVxBytes_any (vni : Int) (t : ByteArray) (w : World) (ht : t.size ≤ maxLen) :
    Calls Try.prog 26 #[.int .i64 vni, .string t] w fun e w' => e = .returned (.string (vxB vni t)) ∧ Below w.heap.size w w' := by
  unfold maxLen at ht
  cases h1 : isVni vni
  · have HR := Lib.hid (vxB_1 (t := t) h1)
    go_enter Try.func26, Try.ntmps26
    go_wp2_with (first | (go_at_call 66; refine (specVni_any _ _).mono ?_; rintro e w' ⟨rfl, rfl⟩))
    go_ret
    exact ⟨str_ret HR.out.symm, Below.refl _ _⟩
  by_cases h4 : t.size ≤ 74
  · have HR := Lib.hid (vxB_0 h1 h4)
    have P1 := PutOk.three (by have := isVni_t h1; omega) (isVni_t h1).2
    have c1 : ¬ 9223372036854775807 < (⟨#[8, 0, 0, 0]⟩ : ByteArray).size + (strOf (be 3 vni.toNat)).size := by rw [strOf_size, be_length]; show ¬ _ < 4 + 3; omega
    have c2 : ¬ 9223372036854775807 < (⟨#[8, 0, 0, 0]⟩ : ByteArray).size + (strOf (be 3 vni.toNat)).size + (⟨#[0]⟩ : ByteArray).size := by rw [strOf_size, be_length]; show ¬ _ < 4 + 3 + 1; omega
    have c3 : ¬ 9223372036854775807 < (⟨#[8, 0, 0, 0]⟩ : ByteArray).size + (strOf (be 3 vni.toNat)).size + (⟨#[0]⟩ : ByteArray).size + t.size := by rw [strOf_size, be_length]; show ¬ _ < 4 + 3 + 1 + _; omega
    go_enter Try.func26, Try.ntmps26
    go_wp2_with (first | (go_at_call 66; refine (specVni_any _ _).mono ?_; rintro e w' ⟨rfl, rfl⟩) | (go_at_call 64; refine (specPut_any _ _ _ ?_).mono ?_; exact P1; rintro e w1 ⟨rfl, hb1⟩))
    go_ret
    exact ⟨str_ret (by rw [HR.out, app_strOf, app_strOf, app_strOf, strOf_list, strOf_list, strOf_list, List.append_assoc, List.append_assoc]), hb1⟩
  · have HR := Lib.hid (vxB_2 (vni := vni) h4)
    go_enter Try.func26, Try.ntmps26
    go_wp2_with (first | (go_at_call 66; refine (specVni_any _ _).mono ?_; rintro e w' ⟨rfl, rfl⟩))
    go_ret
    exact ⟨str_ret HR.out.symm, Below.refl _ _⟩

def vxOutV (v : Int) (t : ByteArray) (c : Int) : Value := .agg #[.int .i64 v, .string t, .int .i64 c]
def ethOutV (to fr k : Int) (b : ByteArray) (c : Int) : Value := .agg #[.int .i64 to, .int .i64 fr, .int .i64 k, .string b, .int .i64 c]
def numAt (s : ByteArray) (a b : Nat) : Nat := num (s.extract a b).data.toList
def ethR (s : ByteArray) : Value := if 8000 < s.size then ethOutV 0 0 0 ⟨#[]⟩ 2 else if s.size < 14 then ethOutV 0 0 0 ⟨#[]⟩ 4 else if 74 < s.size then ethOutV 0 0 0 ⟨#[]⟩ 3 else
  ethOutV (numAt s 0 6 : Nat) (numAt s 6 12 : Nat) (numAt s 12 14 : Nat) (s.extract 14 s.size) 0
theorem ethR_2 (s : ByteArray) (h1 : 8000 < s.size) : ethR s = ethOutV 0 0 0 ⟨#[]⟩ 2 := by rw [ethR, if_pos h1]
theorem ethR_4 (s : ByteArray) (h1 : ¬ 8000 < s.size) (h2 : s.size < 14) : ethR s = ethOutV 0 0 0 ⟨#[]⟩ 4 := by rw [ethR, if_neg h1, if_pos h2]
theorem ethR_3 (s : ByteArray) (h1 : ¬ 8000 < s.size) (h2 : ¬ s.size < 14) (h3 : 74 < s.size) : ethR s = ethOutV 0 0 0 ⟨#[]⟩ 3 := by rw [ethR, if_neg h1, if_neg h2, if_pos h3]
theorem ethR_0 (s : ByteArray) (h1 : ¬ 8000 < s.size) (h2 : ¬ s.size < 14) (h3 : ¬ 74 < s.size) : ethR s = ethOutV (numAt s 0 6 : Nat) (numAt s 6 12 : Nat) (numAt s 12 14 : Nat) (s.extract 14 s.size) 0 := by
  rw [ethR, if_neg h1, if_neg h2, if_neg h3]
theorem specGet_sub (s : ByteArray) (a b : Nat) (w : World) (h : b ≤ a + 6) :
    Calls Try.prog 67 #[.string (s.extract a b)] w fun e w' => e = .returned (.int .i64 (numAt s a b : Nat)) ∧ w' = w :=
  (specGet_any _ w (by simp; omega)).mono fun _ _ h => ⟨h.1, h.2.symm⟩
set_option maxHeartbeats 1000000 in
theorem specEthRead_any (s : ByteArray) (w : World) (hs : s.size ≤ maxLen) :
    Calls Try.prog 27 #[.string s] w fun e w' => e = .returned (ethR s) ∧ Below w.heap.size w w' := by
  unfold maxLen at hs
  by_cases h1 : 8000 < s.size
  · have HR := Lib.hid (ethR_2 s h1)
    go_enter Try.func27, Try.ntmps27
    go_wp2_with fail
    refine bodyPost_ret (v := ethOutV 0 0 0 ⟨#[]⟩ 2) (by simp [results, Try.results27, go_sem, ethOutV]) rfl ⟨by rw [HR.out], ?_⟩
    go_grown
  by_cases h2 : s.size < 14
  · have HR := Lib.hid (ethR_4 s h1 h2)
    go_enter Try.func27, Try.ntmps27
    go_wp2_with fail
    refine bodyPost_ret (v := ethOutV 0 0 0 ⟨#[]⟩ 4) (by simp [results, Try.results27, go_sem, ethOutV]) rfl ⟨by rw [HR.out], ?_⟩
    go_grown
  by_cases h3 : 74 < s.size
  · have HR := Lib.hid (ethR_3 s h1 h2 h3)
    go_enter Try.func27, Try.ntmps27
    go_wp2_with fail
    refine bodyPost_ret (v := ethOutV 0 0 0 ⟨#[]⟩ 3) (by simp [results, Try.results27, go_sem, ethOutV]) rfl ⟨by rw [HR.out], ?_⟩
    go_grown
  have HR := Lib.hid (ethR_0 s h1 h2 h3)
  have i6 : (6 : Int) ≤ s.size := by omega
  have i12 : (12 : Int) ≤ s.size := by omega
  have i14 : (14 : Int) ≤ s.size := by omega
  go_enter Try.func27, Try.ntmps27
  go_wp2_with fail
  refine wp_region_still_tail 13 (by kernel_rfl) (by kernel_rfl) ?_
  simp only [List.take_succ_cons, List.take_zero, List.drop_succ_cons, List.drop_zero]
  still_step
  still_step
  still_call (specGet_sub s 0 6 _ (by omega))
  still_step
  still_step
  still_call (specGet_sub s 6 12 _ (by omega))
  still_step
  still_step
  still_call (specGet_sub s 12 14 _ (by omega))
  repeat still_step
  refine wpStill_nil ?_
  change wpList _ _ _ _ _ (w.alloc (.cells #[.int .i64 0, .int .i64 0, .int .i64 0, .string ⟨#[]⟩, .int .i64 0] 36)).drew
  go_wp2
  refine bodyPost_ret (v := ethOutV (numAt s 0 6 : Nat) (numAt s 6 12 : Nat) (numAt s 12 14 : Nat) (s.extract 14 s.size) 0) (by simp [results, Try.results27, go_sem, ethOutV]) rfl ⟨by rw [HR.out], ?_⟩
  go_grown
end Go.Proofs.Ytjcjohapmaiecaa
