/- The contract of tooLong. -/
import Derived.Test.YthhodnkcaefnnaaBase
namespace Go.Proofs.Ythhodnkcaefnnaa
open Go.RowKit
end Go.Proofs.Ythhodnkcaefnnaa
