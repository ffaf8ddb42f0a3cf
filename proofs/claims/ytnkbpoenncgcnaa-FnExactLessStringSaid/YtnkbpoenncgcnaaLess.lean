/-
  LessString: the walk of its law.
-/
import Derived.Test.YtnkbpoenncgcnaaProg
import Derived.WalkKit
import Derived.WalkLawsBesides
import Derived.WalkSpells
namespace Go.Proofs.Ytnkbpoenncgcnaa
open Go.RowKit

theorem fnExactLessString_walk (a b : ByteArray) (w : World) (ha : a.size ≤ maxLen) (hb : b.size ≤ maxLen) :
    Calls Try.prog 6 #[.string a, .string b] w fun e w' => e = .returned (.bool true) ∧ Below w.heap.size w w' := by
  unfold maxLen at ha hb
  go_enter Try.func6, Try.ntmps6
  go_wp2
  all_goals go_ret
  all_goals exact ⟨by simp, Below.refl _ _⟩
end Go.Proofs.Ytnkbpoenncgcnaa
