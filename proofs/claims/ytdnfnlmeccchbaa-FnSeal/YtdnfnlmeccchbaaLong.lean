/- The contract of tooLong. -/
import Derived.Test.YtdnfnlmeccchbaaBase
namespace Go.Proofs.Ytdnfnlmeccchbaa
open Go.RowKit
theorem tooLong_any (s : ByteArray) (w : World) (hs : s.size ≤ maxLen) :
    Calls Try.prog 37 #[.string s] w fun e w' => e = .returned (.bool (decide (8000 < (s.size : Int)))) ∧ w = w' := by
  have _h := hs
  unfold maxLen at hs
  go_enter Try.func37, Try.ntmps37
  go_wp2
  go_ret
  exact ⟨rfl, rfl⟩
end Go.Proofs.Ytdnfnlmeccchbaa
