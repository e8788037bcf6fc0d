/- The contract of tooLong. -/
import Derived.Test.YtjcjohapmaiecaaBase
namespace Go.Proofs.Ytjcjohapmaiecaa
open Go.RowKit
theorem tooLong_any (s : ByteArray) (w : World) (hs : s.size ≤ maxLen) :
    Calls Try.prog 53 #[.string s] w fun e w' => e = .returned (.bool (decide (8000 < (s.size : Int)))) ∧ w = w' := by
  have _h := hs
  unfold maxLen at hs
  go_enter Try.func53, Try.ntmps53
  go_wp2
  go_ret
  exact ⟨rfl, rfl⟩
end Go.Proofs.Ytjcjohapmaiecaa
