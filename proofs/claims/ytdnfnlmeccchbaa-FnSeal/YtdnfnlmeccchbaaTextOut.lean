/- Two equal TextOut are found equal. -/
import Derived.Test.YtdnfnlmeccchbaaBase
import Derived.Handy
namespace Go.Proofs.Ytdnfnlmeccchbaa
open Go.RowKit

def textOutV (t : ByteArray) (at_ code : Int) : Value := .agg #[.string t, .int .i64 at_, .int .i64 code]
set_option maxHeartbeats 1000000 in
theorem eqTextOut_same (t : ByteArray) (x c : Int) (w : World) :
    Calls Try.prog 28 #[textOutV t x c, textOutV t x c] w fun e w' => e = .returned (.bool true) ∧ Below w.heap.size w w' := by
  unfold textOutV
  go_enter Try.func28, Try.ntmps28
  go_wp2
  go_ret
  refine ⟨rfl, ?_⟩
  go_grown
end Go.Proofs.Ytdnfnlmeccchbaa
