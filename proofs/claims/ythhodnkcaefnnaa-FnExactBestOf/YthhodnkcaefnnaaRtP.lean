/- Routes: the value, when one is right, the model's and the program's tests. -/
import Derived.Test.YthhodnkcaefnnaaEthK
import Derived.Test.YthhodnkcaefnnaaAgg
namespace Go.Proofs.Ythhodnkcaefnnaa
open Go.RowKit

structure Rt where
  kind : Int
  vni : Int
  mac : Int
  ip : Int
  org : Int
  seq : Int
  st : Bool
def Rt.cells (r : Rt) : Array Value := #[.int .i64 r.kind, .int .i64 r.vni, .int .i64 r.mac, .int .i64 r.ip, .int .i64 r.org, .int .i64 r.seq, .bool r.st]
def rtV (k v m i o s : Int) (t : Bool) : Value := .agg #[.int .i64 k, .int .i64 v, .int .i64 m, .int .i64 i, .int .i64 o, .int .i64 s, .bool t]
def Rt.val (r : Rt) : Value := rtV r.kind r.vni r.mac r.ip r.org r.seq r.st

def isHouse (n : Int) : Bool := inR n 1 4
def isTime (n : Int) : Bool := inR n 0 1000000
def macRight (m i s : Int) : Bool := ((isMac m && !isGroup m) && isIp i) && isTime s
def roomRight (m i s : Int) (t : Bool) : Bool := ((decide (m = 0) && decide (i = 0)) && decide (s = 0)) && !t
def rtRight (k v m i o s : Int) (t : Bool) : Bool := (isVni v && isHouse o) && (if k = 2 then macRight m i s else if k = 3 then roomRight m i s t else false)
theorem rtRight_wrong (k v m i o s : Int) (t : Bool) (h : (isVni v && isHouse o) = false) : rtRight k v m i o s t = false := by rw [rtRight, h]; rfl
theorem rtRight_mac (v m i o s : Int) (t : Bool) (h : (isVni v && isHouse o) = true) : rtRight 2 v m i o s t = macRight m i s := by rw [rtRight, h]; rfl
theorem rtRight_room (v m i o s : Int) (t : Bool) (h : (isVni v && isHouse o) = true) : rtRight 3 v m i o s t = roomRight m i s t := by rw [rtRight, h]; rfl
theorem rtRight_none (k v m i o s : Int) (t : Bool) (h : (isVni v && isHouse o) = true) (h2 : ¬ k = 2) (h3 : ¬ k = 3) : rtRight k v m i o s t = false := by rw [rtRight, h, if_neg h2, if_neg h3]; rfl

theorem implTime_any (n : Int) (w : World) : Calls Try.prog 32 #[.int .i64 n] w fun e w' => e = .returned (.bool (isTime n)) ∧ w = w' := by
  by_cases h1 : 0 ≤ n
  · have HR : Hid (isTime n = decide (n ≤ 1000000)) := Lib.hid (by rw [isTime, inR, decide_eq_true h1]; rfl)
    go_enter Try.func32, Try.ntmps32
    go_wp2
    go_ret
    exact ⟨bool_ret HR.out.symm, rfl⟩
  · have HR : Hid (isTime n = false) := Lib.hid (by rw [isTime, inR, decide_eq_false h1]; rfl)
    go_enter Try.func32, Try.ntmps32
    go_wp2
    go_ret
    exact ⟨bool_ret HR.out.symm, rfl⟩
theorem implHouse_any (n : Int) (w : World) : Calls Try.prog 29 #[.int .i64 n] w fun e w' => e = .returned (.bool (isHouse n)) ∧ w = w' := by
  by_cases h1 : 1 ≤ n
  · have HR : Hid (isHouse n = decide (n ≤ 4)) := Lib.hid (by rw [isHouse, inR, decide_eq_true h1]; rfl)
    go_enter Try.func29, Try.ntmps29
    go_wp2
    go_ret
    exact ⟨bool_ret HR.out.symm, rfl⟩
  · have HR : Hid (isHouse n = false) := Lib.hid (by rw [isHouse, inR, decide_eq_false h1]; rfl)
    go_enter Try.func29, Try.ntmps29
    go_wp2
    go_ret
    exact ⟨bool_ret HR.out.symm, rfl⟩
theorem implSingle_any (n : Int) (w : World) : Calls Try.prog 30 #[.int .i64 n] w fun e w' => e = .returned (.bool (isMac n && !isGroup n)) ∧ Below w.heap.size w w' := by
  cases h1 : isMac n
  · go_enter Try.func30, Try.ntmps30
    go_wp2_with (go_at_call 43; refine (implMac_any _ _).mono ?_; rintro e w' ⟨rfl, rfl⟩)
    go_ret
    exact ⟨rfl, Below.refl _ _⟩
  · go_enter Try.func30, Try.ntmps30
    go_wp2_with (first | (go_at_call 43; refine (implMac_any _ _).mono ?_; rintro e w' ⟨rfl, rfl⟩) | (go_at_call 44; refine (implIsGroup_any _ _).mono ?_; rintro e w1 ⟨rfl, hb1⟩))
    go_ret
    exact ⟨rfl, hb1⟩
end Go.Proofs.Ythhodnkcaefnnaa
