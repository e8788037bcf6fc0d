/- The program's VxRead, ArpRead; HasPrefix, HasSuffix. -/
import Derived.Test.YtjcjohapmaiecaaEthR
import Derived.Test.YtjcjohapmaiecaaEthU
import Derived.Lib.Strings
namespace Go.Proofs.Ytjcjohapmaiecaa
open Go.RowKit
attribute [local go_sem ↓] Go.wp_at_zero Go.wp_at_succ

def hasPre (s p : ByteArray) : Bool := decide (p.size ≤ s.size) && ((s.extract 0 p.size).toList == p.toList)
def hasSuf (s p : ByteArray) : Bool := decide (p.size ≤ s.size) && ((s.extract (s.size - p.size) s.size).toList == p.toList)
set_option maxHeartbeats 1000000 in
theorem hasPreIn_any (s p : ByteArray) (w : World) :
    Calls Try.prog 77 #[.string s, .string p] w fun e w' => e = .returned (.bool (hasPre s p)) ∧ w = w' := by
  by_cases h : p.size ≤ s.size
  · have HR : Hid (hasPre s p = ((s.extract 0 p.size).toList == p.toList)) := Lib.hid (by rw [hasPre, decide_eq_true h]; rfl)
    have h' : (p.size : Int) ≤ s.size := by omega
    go_enter Try.func77, Try.ntmps77
    go_wp2
    go_ret
    exact ⟨bool_ret HR.out.symm, rfl⟩
  · have HR : Hid (hasPre s p = false) := Lib.hid (by rw [hasPre, decide_eq_false h]; rfl)
    have h' : decide ((p.size : Int) ≤ s.size) = false := by simp; omega
    go_enter Try.func77, Try.ntmps77
    go_wp2
    go_ret
    exact ⟨bool_ret HR.out.symm, rfl⟩
theorem hasPre_any (s p : ByteArray) (w : World) :
    Calls Try.prog 58 #[.string s, .string p] w fun e w' => e = .returned (.bool (hasPre s p)) ∧ w = w' := by
  go_enter Try.func58, Try.ntmps58
  go_wp2_with (go_at_call 77; refine (hasPreIn_any _ _ _).mono ?_; rintro e w' ⟨rfl, rfl⟩)
  go_ret
  exact ⟨rfl, rfl⟩
set_option maxHeartbeats 1000000 in
theorem hasSufIn_any (s p : ByteArray) (w : World) (hs : s.size ≤ maxLen) (hp : p.size ≤ maxLen) :
    Calls Try.prog 78 #[.string s, .string p] w fun e w' => e = .returned (.bool (hasSuf s p)) ∧ w = w' := by
  unfold maxLen at hs hp
  by_cases h : p.size ≤ s.size
  · have HR : Hid (hasSuf s p = ((s.extract (s.size - p.size) s.size).toList == p.toList)) := Lib.hid (by rw [hasSuf, decide_eq_true h]; rfl)
    have h' : (p.size : Int) ≤ s.size := by omega
    have e : ((s.size : Int) - (p.size : Int)).toNat = s.size - p.size := by omega
    go_enter Try.func78, Try.ntmps78
    go_wp2
    go_ret
    exact ⟨bool_ret HR.out.symm, rfl⟩
  · have HR : Hid (hasSuf s p = false) := Lib.hid (by rw [hasSuf, decide_eq_false h]; rfl)
    have h' : decide ((p.size : Int) ≤ s.size) = false := by simp; omega
    go_enter Try.func78, Try.ntmps78
    go_wp2
    go_ret
    exact ⟨bool_ret HR.out.symm, rfl⟩
theorem hasSuf_any (s p : ByteArray) (w : World) (hs : s.size ≤ maxLen) (hp : p.size ≤ maxLen) :
    Calls Try.prog 60 #[.string s, .string p] w fun e w' => e = .returned (.bool (hasSuf s p)) ∧ w = w' := by
  go_enter Try.func60, Try.ntmps60
  go_wp2_with (go_at_call 78; refine (hasSufIn_any _ _ _ hs hp).mono ?_; rintro e w' ⟨rfl, rfl⟩)
  go_ret
  exact ⟨rfl, rfl⟩
set_option maxHeartbeats 1000000 in
theorem readOwner_any (s : ByteArray) (w : World) (hs : s.size = 10) :
    Calls Try.prog 59 #[.string s] w fun e w' => e = .returned (.tuple #[.int .i64 (numAt s 0 6 : Nat), .int .i64 (numAt s 6 10 : Nat)]) ∧ Below w.heap.size w w' := by
  have i6 : (6 : Int) ≤ s.size := by omega
  have S0 : Below w.heap.size w w.drew := (Below.refl _ _).drew
  go_enter Try.func59, Try.ntmps59
  go_wp2
  go_region_held3 (fun _ => True) (first | exact trivial)
    (first | (go_at_call 54; refine (macIn_sub _ _ _ _ ?_ ?_).mono ?_; (first | decide | rfl); omega; rintro e w1 ⟨rfl, hb1⟩; replace S0 := S0.trans (hb1.mono S0.size); clear hb1) | (go_at_call 55; refine (macNumber_sub _ _ _ _ ?_ ?_).mono ?_; (first | decide | rfl); omega; rintro e w1 ⟨rfl, hb1⟩; replace S0 := S0.trans (hb1.mono S0.size); clear hb1) | (go_at_call 56; refine (implGet_sub _ _ _ _ ?_).mono ?_; (first | decide | omega); rintro e w1 ⟨rfl, rfl⟩))
  go_wp2
  go_ret2
  exact ⟨rfl, S0⟩
end Go.Proofs.Ytjcjohapmaiecaa
