/- Contracts of Unseal. -/
import Derived.Test.YtdnfnlmeccchbaaSeal
import Derived.Test.YtdnfnlmeccchbaaTextOut
import Derived.Deep.RegionWith
namespace Go.Proofs.Ytdnfnlmeccchbaa
open Go.RowKit


theorem sumOf_sub (s : ByteArray) (a b : Nat) (w : World) (h : s.size ≤ 8000) :
    Calls Try.prog 34 #[.string (s.extract a b)] w fun e w' => e = .returned (.string (strOf (four (crcOf 0 (s.extract a b))))) ∧ Below w.heap.size w w' :=
  sumOf_any _ w (by simp [maxLen]; omega) (by simp; omega)
def sumOk (s : ByteArray) : Bool := (strOf (four (crcOf 0 (s.extract 0 (s.size - 4))))).toList == (s.extract (s.size - 4) s.size).toList
def unsealV (s : ByteArray) : Value := if 8000 < s.size then textOutV ⟨#[]⟩ 0 2 else if s.size < 4 then textOutV ⟨#[]⟩ 0 4 else if sumOk s then textOutV (s.extract 0 (s.size - 4)) 0 0 else textOutV ⟨#[]⟩ 0 5
theorem unseal_2 (s : ByteArray) (h : 8000 < s.size) : unsealV s = textOutV ⟨#[]⟩ 0 2 := by rw [unsealV, if_pos h]
theorem unseal_4 (s : ByteArray) (h : ¬ 8000 < s.size) (h4 : s.size < 4) : unsealV s = textOutV ⟨#[]⟩ 0 4 := by rw [unsealV, if_neg h, if_pos h4]
theorem unseal_5 (s : ByteArray) (h : ¬ 8000 < s.size) (h4 : ¬ s.size < 4) (h5 : sumOk s = false) : unsealV s = textOutV ⟨#[]⟩ 0 5 := by rw [unsealV, if_neg h, if_neg h4, if_neg (by simp [h5])]
theorem unseal_0 (s : ByteArray) (h : ¬ 8000 < s.size) (h4 : ¬ s.size < 4) (h5 : sumOk s = true) : unsealV s = textOutV (s.extract 0 (s.size - 4)) 0 0 := by rw [unsealV, if_neg h, if_neg h4, if_pos h5]
theorem clone_sub (s : ByteArray) (a b : Nat) (w : World) (h : s.size ≤ 8000) :
    Calls Try.prog 38 #[.string (s.extract a b)] w fun e w' => e = .returned (.string (s.extract a b)) ∧ Below w.heap.size w w' :=
  clone_any _ w (by simp; omega)

set_option maxHeartbeats 2000000 in
theorem implUnseal_any (s : ByteArray) (w : World) (hs : s.size ≤ maxLen) :
    Calls Try.prog 15 #[.string s] w fun e w' => e = .returned (unsealV s) ∧ Below w.heap.size w w' := by
  have HS := Lib.hid hs
  unfold maxLen at hs
  by_cases h8 : 8000 < s.size
  · have HR := Lib.hid (unseal_2 s h8)
    have hb : decide (8000 < (s.size : Int)) = true := by simp; omega
    go_enter Try.func15, Try.ntmps15
    go_wp2_with (go_at_call 37; refine (tooLong_any _ _ HS.out).mono ?_; rintro e w' ⟨rfl, rfl⟩)
    refine bodyPost_ret (v := textOutV ⟨#[]⟩ 0 2) (by simp [results, Try.results15, go_sem, textOutV]) rfl ⟨by rw [HR.out], ?_⟩
    go_grown
  have hb : decide (8000 < (s.size : Int)) = false := by simp; omega
  by_cases h4 : s.size < 4
  · have HR := Lib.hid (unseal_4 s h8 h4)
    go_enter Try.func15, Try.ntmps15
    go_wp2_with (go_at_call 37; refine (tooLong_any _ _ HS.out).mono ?_; rintro e w' ⟨rfl, rfl⟩)
    refine bodyPost_ret (v := textOutV ⟨#[]⟩ 0 4) (by simp [results, Try.results15, go_sem, textOutV]) rfl ⟨by rw [HR.out], ?_⟩
    go_grown
  have h4i : (4 : Int) ≤ s.size := by omega
  have hn : ((s.size : Int) - 4).toNat = s.size - 4 := by omega
  have h8' : s.size ≤ 8000 := by omega
  cases h5 : sumOk s
  · have HR := Lib.hid (unseal_5 s h8 h4 h5)
    unfold sumOk at h5
    go_enter Try.func15, Try.ntmps15
    go_wp2_with (go_at_call 37; refine (tooLong_any _ _ HS.out).mono ?_; rintro e w' ⟨rfl, rfl⟩)
    go_region_with (go_at_call 34; refine (sumOf_sub _ _ _ _ h8').mono ?_; rintro e w1 ⟨rfl, hb1⟩)
    all_goals
      have hbw : Below w.heap.size w w1 := Below.trans (by go_grown) (hb1.mono (by simp))
      obtain ⟨hc, hf⟩ := bcell hb1
      have hz := hb1.size
      go_wp2_with fail
      refine bodyPost_ret (v := textOutV ⟨#[]⟩ 0 5) (by simp [results, Try.results15, go_sem, textOutV, hc]) rfl ⟨by rw [HR.out], ?_⟩
      go_grown
  · have HR := Lib.hid (unseal_0 s h8 h4 h5)
    unfold sumOk at h5
    go_enter Try.func15, Try.ntmps15
    go_wp2_with (go_at_call 37; refine (tooLong_any _ _ HS.out).mono ?_; rintro e w' ⟨rfl, rfl⟩)
    go_region_with (go_at_call 34; refine (sumOf_sub _ _ _ _ h8').mono ?_; rintro e w1 ⟨rfl, hb1⟩)
    all_goals
      have hbw : Below w.heap.size w w1 := Below.trans (by go_grown) (hb1.mono (by simp))
      obtain ⟨hc, hf⟩ := bcell hb1
      have hz : w.heap.size < w1.heap.size := by have := hb1.size; simp at this; omega
      go_wp2_with (go_at_call 38; refine (clone_sub _ _ _ _ h8').mono ?_; rintro e w2 ⟨rfl, hb2⟩; have hbw2 := hbw.trans (hb2.mono hbw.size); obtain ⟨hc2, hf2⟩ := bcell hb2)
      refine bodyPost_ret (v := textOutV (s.extract 0 (s.size - 4)) 0 0) (by simp [results, Try.results15, go_sem, textOutV, hc, hc2, hz]) rfl ⟨by rw [HR.out], ?_⟩
      go_grown

theorem l01Crc_sub (s : ByteArray) (a b : Nat) (w : World) (h : s.size ≤ 8000) :
    Calls Try.prog 36 #[.int .i64 0, .string (s.extract a b)] w fun e w' => e = .returned (.int .i64 (crcOf 0 (s.extract a b) : Nat)) ∧ w = w' :=
  specL01Crc_any 0 _ w (by simp [maxLen]; omega) (by omega)

set_option maxHeartbeats 2000000 in
theorem specUnseal_any (s : ByteArray) (w : World) (hs : s.size ≤ maxLen) :
    Calls Try.prog 27 #[.string s] w fun e w' => e = .returned (unsealV s) ∧ Below w.heap.size w w' := by
  have HS := Lib.hid hs
  unfold maxLen at hs
  by_cases h8 : 8000 < s.size
  · have HR := Lib.hid (unseal_2 s h8)
    go_enter Try.func27, Try.ntmps27
    go_wp2_with fail
    refine bodyPost_ret (v := textOutV ⟨#[]⟩ 0 2) (by simp [results, Try.results27, go_sem, textOutV]) rfl ⟨by rw [HR.out], ?_⟩
    go_grown
  by_cases h4 : s.size < 4
  · have HR := Lib.hid (unseal_4 s h8 h4)
    go_enter Try.func27, Try.ntmps27
    go_wp2_with fail
    refine bodyPost_ret (v := textOutV ⟨#[]⟩ 0 4) (by simp [results, Try.results27, go_sem, textOutV]) rfl ⟨by rw [HR.out], ?_⟩
    go_grown
  have h4i : (4 : Int) ≤ s.size := by omega
  have hn : ((s.size : Int) - 4).toNat = s.size - 4 := by omega
  have h8' : s.size ≤ 8000 := by omega
  have hlt := crcOf_lt 0 (s.extract 0 (s.size - 4)) (by omega)
  cases h5 : sumOk s
  · have HR := Lib.hid (unseal_5 s h8 h4 h5)
    unfold sumOk at h5
    go_enter Try.func27, Try.ntmps27
    go_wp2_with fail
    have hwr : IntKind.i64.wrap ((s.size : Int) - 4) = (s.size : Int) - 4 := IntWalk.i64_in _ (by omega)
    have hle : (s.size : Int) - 4 ≤ s.size := by omega
    go_region_with (first | (go_at_call 36; refine (l01Crc_sub _ _ _ _ h8').mono ?_; rintro e w' ⟨rfl, rfl⟩) | (go_at_call 35; refine (specFour_any _ _ hlt).mono ?_; rintro e w1 ⟨rfl, hb1⟩))
    all_goals
      have hbw : Below w.heap.size w w1 := Below.trans (by go_grown) (hb1.mono (by simp))
      obtain ⟨hc, hf⟩ := bcell hb1
      have hz := hb1.size
      go_wp2_with fail
      refine bodyPost_ret (v := textOutV ⟨#[]⟩ 0 5) (by simp [results, Try.results27, go_sem, textOutV, hc]) rfl ⟨by rw [HR.out], ?_⟩
      go_grown
  · have HR := Lib.hid (unseal_0 s h8 h4 h5)
    unfold sumOk at h5
    go_enter Try.func27, Try.ntmps27
    go_wp2_with fail
    have hwr : IntKind.i64.wrap ((s.size : Int) - 4) = (s.size : Int) - 4 := IntWalk.i64_in _ (by omega)
    have hle : (s.size : Int) - 4 ≤ s.size := by omega
    go_region_with (first | (go_at_call 36; refine (l01Crc_sub _ _ _ _ h8').mono ?_; rintro e w' ⟨rfl, rfl⟩) | (go_at_call 35; refine (specFour_any _ _ hlt).mono ?_; rintro e w1 ⟨rfl, hb1⟩))
    all_goals
      have hbw : Below w.heap.size w w1 := Below.trans (by go_grown) (hb1.mono (by simp))
      obtain ⟨hc, hf⟩ := bcell hb1
      have hz := hb1.size
      go_wp2_with fail
      refine bodyPost_ret (v := textOutV (s.extract 0 (s.size - 4)) 0 0) (by simp [results, Try.results27, go_sem, textOutV, hc]) rfl ⟨by rw [HR.out], ?_⟩
      go_grown

end Go.Proofs.Ytdnfnlmeccchbaa
