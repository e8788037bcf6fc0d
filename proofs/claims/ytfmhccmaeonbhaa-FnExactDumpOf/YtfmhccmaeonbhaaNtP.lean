/- Notes: the value, when one is right, the program's messages. -/
import Derived.Test.YtfmhccmaeonbhaaB3
import Derived.Test.YtfmhccmaeonbhaaB3
import Derived.Test.YtfmhccmaeonbhaaB4
import Derived.Deep.RegionHeld3
import Derived.Deep.RegionHeld
import Derived.Handy
namespace Go.Proofs.Ytfmhccmaeonbhaa
open Go.RowKit

def ntV (K : Int) (r : Rt) : Value := .agg #[.int .i64 K, .int .i64 r.kind, .int .i64 r.vni, .int .i64 r.mac, .int .i64 r.ip, .int .i64 r.org, .int .i64 r.seq, .bool r.st]
def isKey (r : Rt) : Bool := decide (r.ip = 0) && (decide (r.seq = 0) && !r.st)
def isZero (r : Rt) : Bool := decide (r.kind = 0 ∧ r.vni = 0 ∧ r.mac = 0 ∧ r.ip = 0 ∧ r.org = 0 ∧ r.seq = 0 ∧ r.st = false)
def ntRight (K : Int) (r : Rt) : Bool := if K = 1 then r.right else if K = 2 then r.right && isKey r else if K = 3 then isZero r else false
theorem nt1 (r : Rt) : ntRight 1 r = r.right := rfl
theorem nt2 (r : Rt) : ntRight 2 r = (r.right && isKey r) := rfl
theorem nt3 (r : Rt) : ntRight 3 r = isZero r := rfl
theorem nt0 {K : Int} (r : Rt) (h1 : ¬ K = 1) (h2 : ¬ K = 2) (h3 : ¬ K = 3) : ntRight K r = false := by rw [ntRight, if_neg h1, if_neg h2, if_neg h3]
theorem key_equal (r : Rt) (w : World) : (Op.equalIn 10000 69 (.agg #[.int .i64 r.kind, .int .i64 r.vni, .int .i64 r.mac, .int .i64 r.ip, .int .i64 r.org, .int .i64 r.seq, .bool r.st]) (.agg #[.int .i64 r.kind, .int .i64 r.vni, .int .i64 r.mac, .int .i64 0, .int .i64 r.org, .int .i64 0, .bool false])).run Try.prog w = .ok (isKey r) w := by
  rw [rt_equal]; congr 1; simp [isKey]
theorem zero_equal (r : Rt) (w : World) : (Op.equalIn 10000 69 (.agg #[.int .i64 r.kind, .int .i64 r.vni, .int .i64 r.mac, .int .i64 r.ip, .int .i64 r.org, .int .i64 r.seq, .bool r.st]) (.agg #[.int .i64 0, .int .i64 0, .int .i64 0, .int .i64 0, .int .i64 0, .int .i64 0, .bool false])).run Try.prog w = .ok (isZero r) w := by
  rw [rt_equal]; rfl

set_option maxHeartbeats 1000000 in
theorem puttingRight_any (r : Rt) (w : World) : Calls Try.prog 139 #[r.val] w fun e w' => e = .returned (.bool r.right) ∧ Below w.heap.size w w' := by
  have H := Lib.hid (implRight_any r)
  unfold Rt.val rtV at *
  go_enter Try.func139, Try.ntmps139
  go_wp2_with (refine (H.out _).mono ?_; rintro e w1 ⟨rfl, hb1⟩; have HB : Hid (Below w.heap.size w w1) := Lib.hid (((Below.refl _ _).alloc (Nat.le_refl _) _).trans (hb1.mono (by simp))); clear hb1)
  go_ret
  exact ⟨rfl, HB.out⟩
set_option maxHeartbeats 1000000 in
theorem endingRight_any (r : Rt) (w : World) : Calls Try.prog 142 #[r.val] w fun e w' => e = .returned (.bool (isZero r)) ∧ Below w.heap.size w w' := by
  have H := zero_equal r
  unfold Rt.val rtV at *
  go_enter Try.func142, Try.ntmps142
  go_wp2_with fail
  go_ret
  refine ⟨rfl, ?_⟩
  go_grown
def msgV (K : Int) (r : Rt) : Value := if K = 1 then .iface 114 r.val else if K = 2 then .iface 116 r.val else if K = 3 then .iface 118 r.val else .nilIface
theorem msg0 {K : Int} (r : Rt) (h1 : ¬ K = 1) (h2 : ¬ K = 2) (h3 : ¬ K = 3) : msgV K r = .nilIface := by rw [msgV, if_neg h1, if_neg h2, if_neg h3]
set_option maxHeartbeats 1000000 in
theorem messageOf_any (K : Int) (r : Rt) (w : World) : Calls Try.prog 95 #[ntV K r] w fun e w' => e = .returned (msgV K r) ∧ Below w.heap.size w w' := by
  by_cases h1 : K = 1
  · subst h1
    unfold ntV
    go_enter Try.func95, Try.ntmps95
    go_wp2_with fail
    refine bodyPost_ret (v := msgV 1 r) (by simp [results, Try.results95, go_sem, msgV, Rt.val, rtV]) rfl ⟨rfl, ?_⟩
    go_grown
  by_cases h2 : K = 2
  · subst h2
    unfold ntV
    go_enter Try.func95, Try.ntmps95
    go_wp2_with fail
    refine bodyPost_ret (v := msgV 2 r) (by simp [results, Try.results95, go_sem, msgV, Rt.val, rtV]) rfl ⟨rfl, ?_⟩
    go_grown
  by_cases h3 : K = 3
  · subst h3
    unfold ntV
    go_enter Try.func95, Try.ntmps95
    go_wp2_with fail
    refine bodyPost_ret (v := msgV 3 r) (by simp [results, Try.results95, go_sem, msgV, Rt.val, rtV]) rfl ⟨rfl, ?_⟩
    go_grown
  have HM := Lib.hid (msg0 r h1 h2 h3)
  unfold ntV
  go_enter Try.func95, Try.ntmps95
  go_wp2_with fail
  rw [HM.out]
  refine bodyPost_ret (v := .nilIface) (by simp [results, Try.results95, go_sem]) rfl ⟨rfl, ?_⟩
  go_grown
end Go.Proofs.Ytfmhccmaeonbhaa
