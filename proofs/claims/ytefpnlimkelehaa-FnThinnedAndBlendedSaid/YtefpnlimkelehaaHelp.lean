/- The laws' own helpers, function by function. -/
import Derived.Test.YtefpnlimkelehaaBase
namespace Go.Proofs.Ytefpnlimkelehaa
open Go.RowKit

def SzOk (left n r : Int) : Prop := 0 ≤ r → n ≤ left ∧ r = left - n
end Go.Proofs.Ytefpnlimkelehaa
