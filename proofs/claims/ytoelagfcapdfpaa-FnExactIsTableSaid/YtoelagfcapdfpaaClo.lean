/-
  What the outer proofs ask of the program alone, once for all of them.
-/
import Derived.Test.YtoelagfcapdfpaaRows
import Derived.ProofKit
import Derived.OpenShut
import Derived.ChangeOld
namespace Go.Proofs.Ytoelagfcapdfpaa
open Go.ChangeShapes Go.WideShapes Go.ChangeAt Go.RowKit

theorem and_mk {a b : Bool} (h : a = true) (k : b = true) : (a && b) = true := by rw [h, k]; rfl
theorem may_enter : Try.pinned.checked.prog.mayEnter = true := by kernel_rfl
theorem lifts_final {b : Bool} (h : b = false) : (b == Try.pinned.checked.prog.liftsFinal) = true := by subst h; kernel_rfl
theorem make_is {k : Make} (h : k = .cut) : (Try.pinned.checked.prog.make == some k) = true := by subst h; kernel_rfl
end Go.Proofs.Ytoelagfcapdfpaa
