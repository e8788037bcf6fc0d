/- Two equal TextOut are found equal. -/
import Derived.Test.YthhodnkcaefnnaaDoorBase
import Derived.Handy
namespace Go.Proofs.YthhodnkcaefnnaaDoor
open Go.RowKit

def textOutV (t : ByteArray) (at_ code : Int) : Value := .agg #[.string t, .int .i64 at_, .int .i64 code]
end Go.Proofs.YthhodnkcaefnnaaDoor
