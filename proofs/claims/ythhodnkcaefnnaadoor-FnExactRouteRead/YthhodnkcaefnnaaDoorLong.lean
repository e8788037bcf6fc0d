/- The contract of tooLong. -/
import Derived.Test.YthhodnkcaefnnaaDoorBase
namespace Go.Proofs.YthhodnkcaefnnaaDoor
open Go.RowKit
theorem tooLong_any (s : ByteArray) (w : World) (hs : s.size ≤ maxLen) :
    Calls Tryd.prog 29 #[.string s] w fun e w' => e = .returned (.bool (decide (8000 < (s.size : Int)))) ∧ w = w' := by
  have _h := hs
  unfold maxLen at hs
  go_enter Tryd.func29, Tryd.ntmps29
  go_wp2
  go_ret
  exact ⟨rfl, rfl⟩
end Go.Proofs.YthhodnkcaefnnaaDoor
