/- A law's own route turned into the program's; two equal routes are found equal; KeyOf; Better. -/
import Derived.Test.YthhodnkcaefnnaaDoorRtI
namespace Go.Proofs.YthhodnkcaefnnaaDoor
open Go.RowKit

set_option maxHeartbeats 1000000 in
theorem eqRoute_same (k v m i o s : Int) (t : Bool) (w : World) :
    Calls Tryd.prog 51 #[rtV k v m i o s t, rtV k v m i o s t] w fun e w' => e = .returned (.bool true) ∧ Below w.heap.size w w' := by
  unfold rtV
  go_enter Tryd.func51, Tryd.ntmps51
  go_wp2
  go_ret
  refine ⟨rfl, ?_⟩
  go_grown
set_option maxHeartbeats 1000000 in
theorem specKeyOf_any (k v m i o s : Int) (t : Bool) (w : World) :
    Calls Tryd.prog 18 #[rtV k v m i o s t] w fun e w' => e = .returned (rtV k v m 0 o 0 false) ∧ Below w.heap.size w w' := by
  unfold rtV
  go_enter Tryd.func18, Tryd.ntmps18
  go_wp2
  refine bodyPost_ret (v := rtV k v m 0 o 0 false) (by simp [results, Tryd.results18, go_sem, rtV]) rfl ⟨rfl, ?_⟩
  go_grown
set_option maxHeartbeats 1000000 in
theorem implKeyOf_any (k v m i o s : Int) (t : Bool) (w : World) :
    Calls Tryd.prog 12 #[rtV k v m i o s t] w fun e w' => e = .returned (rtV k v m 0 o 0 false) ∧ Below w.heap.size w w' := by
  unfold rtV
  go_enter Tryd.func12, Tryd.ntmps12
  go_wp2
  refine bodyPost_ret (v := rtV k v m 0 o 0 false) (by simp [results, Tryd.results12, go_sem, rtV]) rfl ⟨rfl, ?_⟩
  go_grown
end Go.Proofs.YthhodnkcaefnnaaDoor
