/- The laws' own helpers, function by function. -/
import Derived.Test.YtfhpmihjfojbnaaBase
namespace Go.Proofs.Ytfhpmihjfojbnaa
open Go.RowKit

def SzOk (left n r : Int) : Prop := 0 ≤ r → n ≤ left ∧ r = left - n
end Go.Proofs.Ytfhpmihjfojbnaa
