/- The program's EthRead. -/
import Derived.Test.YtjcjohapmaiecaaEthO
namespace Go.Proofs.Ytjcjohapmaiecaa
open Go.RowKit
attribute [local go_sem ↓] Go.wp_at_zero Go.wp_at_succ

/- the reading -/
def macE (s : ByteArray) (a b : Nat) : Value := macV (s.extract a b)
theorem macIn_sub (s : ByteArray) (a b : Nat) (w : World) (h : b = a + 6) (hs : b ≤ s.size) :
    Calls Try.prog 54 #[.string (s.extract a b)] w fun e w' => e = .returned (macE s a b) ∧ Below w.heap.size w w' :=
  macIn_any _ w (by simp; omega)
theorem macNumber_sub (s : ByteArray) (a b : Nat) (w : World) (h : b = a + 6) (hs : b ≤ s.size) :
    Calls Try.prog 55 #[macE s a b] w fun e w' => e = .returned (.int .i64 (numAt s a b : Nat)) ∧ Below w.heap.size w w' :=
  macNumber_any _ w (by simp; omega)
theorem implGet_sub (s : ByteArray) (a b : Nat) (w : World) (h : b ≤ a + 6) :
    Calls Try.prog 56 #[.string (s.extract a b)] w fun e w' => e = .returned (.int .i64 (numAt s a b : Nat)) ∧ w' = w :=
  (implGet_any _ w (by simp; omega)).mono fun _ _ h => ⟨h.1, h.2.symm⟩
theorem clone_sub (s : ByteArray) (a b : Nat) (w : World) (h : s.size ≤ 8000) :
    Calls Try.prog 57 #[.string (s.extract a b)] w fun e w' => e = .returned (.string (s.extract a b)) ∧ Below w.heap.size w w' :=
  clone_any _ w (by simp; omega)
set_option maxHeartbeats 2000000 in
theorem implEthRead_any (s : ByteArray) (w : World) (hs : s.size ≤ maxLen) :
    Calls Try.prog 20 #[.string s] w fun e w' => e = .returned (ethR s) ∧ Below w.heap.size w w' := by
  have HM := Lib.hid hs
  unfold maxLen at hs
  by_cases h1 : 8000 < s.size
  · have HR := Lib.hid (ethR_2 s h1)
    go_enter Try.func20, Try.ntmps20
    go_wp2_with (go_at_call 53; refine (tooLong_any _ _ HM.out).mono ?_; rintro e w' ⟨rfl, rfl⟩)
    refine bodyPost_ret (v := ethOutV 0 0 0 ⟨#[]⟩ 2) (by simp [results, Try.results20, go_sem, ethOutV]) rfl ⟨by rw [HR.out], ?_⟩
    go_grown
  by_cases h2 : s.size < 14
  · have HR := Lib.hid (ethR_4 s h1 h2)
    go_enter Try.func20, Try.ntmps20
    go_wp2_with (go_at_call 53; refine (tooLong_any _ _ HM.out).mono ?_; rintro e w' ⟨rfl, rfl⟩)
    refine bodyPost_ret (v := ethOutV 0 0 0 ⟨#[]⟩ 4) (by simp [results, Try.results20, go_sem, ethOutV]) rfl ⟨by rw [HR.out], ?_⟩
    go_grown
  by_cases h3 : 74 < s.size
  · have HR := Lib.hid (ethR_3 s h1 h2 h3)
    go_enter Try.func20, Try.ntmps20
    go_wp2_with (go_at_call 53; refine (tooLong_any _ _ HM.out).mono ?_; rintro e w' ⟨rfl, rfl⟩)
    refine bodyPost_ret (v := ethOutV 0 0 0 ⟨#[]⟩ 3) (by simp [results, Try.results20, go_sem, ethOutV]) rfl ⟨by rw [HR.out], ?_⟩
    go_grown
  have HR := Lib.hid (ethR_0 s h1 h2 h3)
  have h8 : s.size ≤ 8000 := by omega
  have i6 : (6 : Int) ≤ s.size := by omega
  have i12 : (12 : Int) ≤ s.size := by omega
  have i14 : (14 : Int) ≤ s.size := by omega
  go_enter Try.func20, Try.ntmps20
  go_wp2_with (go_at_call 53; refine (tooLong_any _ _ HM.out).mono ?_; rintro e w' ⟨rfl, rfl⟩)
  obtain ⟨W, hW⟩ : ∃ W, W = w.alloc (.cells #[.int .i64 0, .int .i64 0, .int .i64 0, .string ⟨#[]⟩, .int .i64 0] 36) := ⟨_, rfl⟩
  have S0 : Five w.heap.size (.int .i64 0) (.int .i64 0) (.int .i64 0) (.string ⟨#[]⟩) (.int .i64 0) w W.drew := by
    subst hW; exact ⟨by simp, by simp, by simp, by simp, by simp, by simp, by simp, by simp, by simp, by simp, ((Below.refl _ _).alloc (Nat.le_refl _) _).drew⟩
  rw [← hW]
  clear hW
  go_region_held3 (fun _ => True) (first | exact trivial)
    (first | (go_at_call 54; refine (macIn_sub _ _ _ _ ?_ ?_).mono ?_; (first | decide | rfl); omega; rintro e w1 ⟨rfl, hb1⟩; replace S0 := S0.keep hb1; clear hb1) | (go_at_call 55; refine (macNumber_sub _ _ _ _ ?_ ?_).mono ?_; (first | decide | rfl); omega; rintro e w1 ⟨rfl, hb1⟩; replace S0 := S0.keep hb1; clear hb1) | (go_at_call 56; refine (implGet_sub _ _ _ _ ?_).mono ?_; (first | decide | omega); rintro e w1 ⟨rfl, rfl⟩) | (go_at_call 57; refine (clone_sub _ _ _ _ h8).mono ?_; rintro e w1 ⟨rfl, hb1⟩; have S1 := S0.keep hb1; clear S0 hb1; obtain ⟨q0, q1, q2, q3, q4, f0, f1, f2, f3, f4, hbw⟩ := S1))
  go_wp2
  refine bodyPost_ret (v := ethOutV (numAt s 0 6 : Nat) (numAt s 6 12 : Nat) (numAt s 12 14 : Nat) (s.extract 14 s.size) 0) (by simp [results, Try.results20, go_sem, ethOutV, *]) rfl ⟨by rw [HR.out], ?_⟩
  go_grown
end Go.Proofs.Ytjcjohapmaiecaa
