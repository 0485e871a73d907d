/- The laws' own helpers, function by function. -/
import Derived.Test.YtbgbglalibjncaaBase
namespace Go.Proofs.Ytbgbglalibjncaa
open Go.RowKit

def SzOk (left n r : Int) : Prop := 0 ≤ r → n ≤ left ∧ r = left - n
end Go.Proofs.Ytbgbglalibjncaa
