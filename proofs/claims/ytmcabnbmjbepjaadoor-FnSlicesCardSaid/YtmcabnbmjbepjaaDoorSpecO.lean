/-
  The model's copies: l2Own of spec.
-/
import Derived.Test.YtmcabnbmjbepjaaDoorOwnStep
import Derived.Deep.RegionLaw
namespace Go.Proofs.YtmcabnbmjbepjaaDoor
open Go.RowKit

end Go.Proofs.YtmcabnbmjbepjaaDoor
