/- Two equal TextOut are found equal. -/
import Derived.Test.YtdnfnlmeccchbaaDoorBase
import Derived.Handy
namespace Go.Proofs.YtdnfnlmeccchbaaDoor
open Go.RowKit

def textOutV (t : ByteArray) (at_ code : Int) : Value := .agg #[.string t, .int .i64 at_, .int .i64 code]
set_option maxHeartbeats 1000000 in
theorem eqTextOut_same (t : ByteArray) (x c : Int) (w : World) :
    Calls Tryd.prog 17 #[textOutV t x c, textOutV t x c] w fun e w' => e = .returned (.bool true) ∧ Below w.heap.size w w' := by
  unfold textOutV
  go_enter Tryd.func17, Tryd.ntmps17
  go_wp2
  go_ret
  refine ⟨rfl, ?_⟩
  go_grown
end Go.Proofs.YtdnfnlmeccchbaaDoor
