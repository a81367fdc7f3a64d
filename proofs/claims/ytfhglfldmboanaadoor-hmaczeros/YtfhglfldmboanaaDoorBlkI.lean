/-
  How many blocks n bytes have. No function of the program is named here.
-/
import Derived.Test.YtfhglfldmboanaaDoorEx
namespace Go.Proofs.YtfhglfldmboanaaDoor
/-- How many blocks n bytes have, as the document says it. -/
def blkI (n : Int) : Int := if n < 0 ∨ 1152921504606846976 < n then 0 else (n + 8) / 64 + 1
end Go.Proofs.YtfhglfldmboanaaDoor
