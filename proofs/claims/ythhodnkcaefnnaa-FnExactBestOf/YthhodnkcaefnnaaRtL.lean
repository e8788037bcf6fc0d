/- A law's own route turned into the program's; two equal routes are found equal; KeyOf; Better. -/
import Derived.Test.YthhodnkcaefnnaaRtI
namespace Go.Proofs.Ythhodnkcaefnnaa
open Go.RowKit

set_option maxHeartbeats 1000000 in
theorem toRoute_any (k v m i o s : Int) (t : Bool) (w : World) :
    Calls Try.prog 9 #[rtV k v m i o s t] w fun e w' => e = .returned (rtV k v m i o s t) ∧ Below w.heap.size w w' := by
  unfold rtV
  go_enter Try.func9, Try.ntmps9
  go_wp2
  refine bodyPost_ret (v := rtV k v m i o s t) (by simp [results, Try.results9, go_sem, rtV]) rfl ⟨rfl, ?_⟩
  go_grown
set_option maxHeartbeats 1000000 in
theorem eqRoute_same (k v m i o s : Int) (t : Bool) (w : World) :
    Calls Try.prog 15 #[rtV k v m i o s t, rtV k v m i o s t] w fun e w' => e = .returned (.bool true) ∧ Below w.heap.size w w' := by
  unfold rtV
  go_enter Try.func15, Try.ntmps15
  go_wp2
  go_ret
  refine ⟨rfl, ?_⟩
  go_grown
set_option maxHeartbeats 1000000 in
theorem specKeyOf_any (k v m i o s : Int) (t : Bool) (w : World) :
    Calls Try.prog 13 #[rtV k v m i o s t] w fun e w' => e = .returned (rtV k v m 0 o 0 false) ∧ Below w.heap.size w w' := by
  unfold rtV
  go_enter Try.func13, Try.ntmps13
  go_wp2
  refine bodyPost_ret (v := rtV k v m 0 o 0 false) (by simp [results, Try.results13, go_sem, rtV]) rfl ⟨rfl, ?_⟩
  go_grown
set_option maxHeartbeats 1000000 in
theorem implKeyOf_any (k v m i o s : Int) (t : Bool) (w : World) :
    Calls Try.prog 14 #[rtV k v m i o s t] w fun e w' => e = .returned (rtV k v m 0 o 0 false) ∧ Below w.heap.size w w' := by
  unfold rtV
  go_enter Try.func14, Try.ntmps14
  go_wp2
  refine bodyPost_ret (v := rtV k v m 0 o 0 false) (by simp [results, Try.results14, go_sem, rtV]) rfl ⟨rfl, ?_⟩
  go_grown
end Go.Proofs.Ythhodnkcaefnnaa
