/-
  toGap, szGap, eqGap, markGap, heldGap of the law.
-/
import Derived.Test.YtoelagfcapdfpaaGpA
namespace Go.Proofs.Ytoelagfcapdfpaa
open Go.RowKit

end Go.Proofs.Ytoelagfcapdfpaa
