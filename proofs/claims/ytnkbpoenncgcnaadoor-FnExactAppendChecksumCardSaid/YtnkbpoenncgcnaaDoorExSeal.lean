/-
  FnExactAppendChecksum: the walk of the law.
-/
import Derived.Test.YtnkbpoenncgcnaaDoorSeal
namespace Go.Proofs.YtnkbpoenncgcnaaDoor
open Go.RowKit

theorem fnExactAppendChecksum_walk (s : ByteArray) (w : World) (ht : Tabs w) (hs : s.size ≤ maxLen) :
    Calls Tryd.prog 6 #[.string s] w fun e w' => e = .returned (.bool true) ∧ Below w.heap.size w w' := by
  unfold maxLen at hs
  by_cases hb : s.size ≤ 1048576
  · obtain ⟨o, b, h⟩ := sealOf_ex s
    have HS := Lib.hid (specAppend_calls s o b w hb h)
    have HI := Lib.hid (fun m => implAppend_calls s o b (w.drewN m) hb h (ht.drewN m))
    clear h ht
    go_enter Tryd.func6, Tryd.ntmps6
    go_wp2_with (first | (go_at_call 17; refine HS.out.mono ?_; rintro e w' ⟨rfl, m, rfl⟩) | (go_at_call 16; refine (HI.out _).mono ?_; rintro e w' ⟨rfl, hb2⟩))
    go_ret
    exact ⟨rfl, (below_drewN (Below.refl _ w) _).trans hb2⟩
  · clear ht
    go_enter Tryd.func6, Tryd.ntmps6
    go_wp2_with fail
    go_ret
    exact ⟨rfl, Below.refl _ _⟩
end Go.Proofs.YtnkbpoenncgcnaaDoor
