/- The laws' own helpers, function by function. -/
import Derived.Test.YtchnnbkaiagpgaaBase
namespace Go.Proofs.Ytchnnbkaiagpgaa
open Go.RowKit

def SzOk (left n r : Int) : Prop := 0 ≤ r → n ≤ left ∧ r = left - n
end Go.Proofs.Ytchnnbkaiagpgaa
