/-
  FnExactChecksum: the walk of the law.
-/
import Derived.Test.YtnkbpoenncgcnaaSum
namespace Go.Proofs.Ytnkbpoenncgcnaa
open Go.RowKit

theorem fnExactChecksum_walk (s : ByteArray) (w : World) (hs : s.size ≤ maxLen) :
    Calls Try.prog 7 #[.string s] w fun e w' => e = .returned (.bool true) ∧ Below w.heap.size w w' := by
  have hs' := hs
  unfold maxLen at hs
  by_cases h : s.size ≤ 4000
  · have c1 := specChecksum_calls s w hs'
    have c2 := implChecksum_calls s w hs'
    rw [if_pos h] at c1 c2
    have C1 := Lib.hid c1
    have C2 := Lib.hid c2
    clear c1 c2
    go_enter Try.func7, Try.ntmps7
    go_wp2_with (first | (go_at_call 23; refine C1.out.mono ?_; rintro e w' ⟨rfl, rfl⟩) | (go_at_call 24; refine C2.out.mono ?_; rintro e w' ⟨rfl, rfl⟩))
    go_ret
    exact ⟨rfl, Below.refl _ _⟩
  · have c1 := specChecksum_calls s w hs'
    have c2 := implChecksum_calls s w hs'
    rw [if_neg h] at c1 c2
    have C1 := Lib.hid c1
    have C2 := Lib.hid c2
    clear c1 c2
    go_enter Try.func7, Try.ntmps7
    go_wp2_with (first | (go_at_call 23; refine C1.out.mono ?_; rintro e w' ⟨rfl, rfl⟩) | (go_at_call 24; refine C2.out.mono ?_; rintro e w' ⟨rfl, rfl⟩))
    all_goals go_ret
    all_goals exact ⟨rfl, Below.refl _ _⟩
end Go.Proofs.Ytnkbpoenncgcnaa
