/- The contract of strings.Clone. -/
import Derived.Test.YthhodnkcaefnnaaDoorBytes
namespace Go.Proofs.YthhodnkcaefnnaaDoor
open Go.RowKit

theorem cellsB : Tryd.prog.cellsOf 5 = 1 := by kernel_rfl
end Go.Proofs.YthhodnkcaefnnaaDoor
