/-
  The law's helpers on rows of rows of bytes: eqByteSS, markByteSS, heldByteSS.
-/
import Derived.Test.YtiimbojcnmbebabMat
import Derived.Deep.RegionHeld3
namespace Go.Proofs.Ytiimbojcnmbebab
open Go.RowKit

end Go.Proofs.Ytiimbojcnmbebab
