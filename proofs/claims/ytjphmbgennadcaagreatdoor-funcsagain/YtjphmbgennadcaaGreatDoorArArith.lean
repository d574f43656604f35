/- What the exported functions of package arith give, for any values. -/
import Derived.Test.YtjphmbgennadcaaGreatDoorArOps
namespace Go.Proofs.YtjphmbgennadcaaGreatDoor.Ar
open Go.ChangeShapes Go.WideShapes Go.ChangeAt Go.RowKit

theorem bchain {W w1 w2 : World} (h1 : Below W.heap.size W w1) (h2 : Below w1.heap.size w1 w2) : Below W.heap.size W w2 := h1.trans (h2.mono h1.size)

end Go.Proofs.YtjphmbgennadcaaGreatDoor.Ar
