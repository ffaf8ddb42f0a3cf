/-
  The law's helpers on rows of rows of bytes: eqByteSS, markByteSS, heldByteSS.
-/
import Derived.Test.YtmcabnbmjbepjaaDoorMat
import Derived.Deep.RegionHeld3
namespace Go.Proofs.YtmcabnbmjbepjaaDoor
open Go.RowKit

end Go.Proofs.YtmcabnbmjbepjaaDoor
