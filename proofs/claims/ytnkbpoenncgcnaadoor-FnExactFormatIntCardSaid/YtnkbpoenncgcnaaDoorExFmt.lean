/-
  FnExactFormatInt: the walk of the law.
-/
import Derived.Test.YtnkbpoenncgcnaaDoorFmt
namespace Go.Proofs.YtnkbpoenncgcnaaDoor
open Go.RowKit

theorem fnExactFormatInt_walk (n : Int) (w : World) (ht : Tabs w) (hn : (Lit.int .i64 n).wf = true) :
    Calls Tryd.prog 4 #[.int .i64 n] w fun e w' => e = .returned (.bool true) ∧ Below w.heap.size w w' := by
  obtain ⟨h0, h1⟩ : -9223372036854775808 ≤ n ∧ n ≤ 9223372036854775807 := by simpa [Lit.wf, IntKind.min, IntKind.max, IntKind.signed, IntKind.bits] using hn
  have key : ∀ (o : ByteArray) (b : Bool), formV n = .tuple #[.string o, .bool b] → Calls Tryd.prog 4 #[.int .i64 n] w fun e w' => e = .returned (.bool true) ∧ Below w.heap.size w w' := by
    intro o b hf
    have HS := specFormat_calls n w
    have HI := fun m => implFormat_calls n (w.drewN m) h0 h1 (ht.drewN m)
    rw [hf] at HS
    simp only [hf] at HI
    have HS := Lib.hid HS
    have HI := Lib.hid HI
    clear hf h0 h1 ht hn
    go_enter Tryd.func4, Tryd.ntmps4
    go_wp2_with (first | (go_at_call 11; refine HS.out.mono ?_; rintro e w' ⟨rfl, m, rfl⟩) | (go_at_call 10; refine (HI.out _).mono ?_; rintro e w' ⟨rfl, hb⟩))
    all_goals go_ret
    all_goals exact ⟨rfl, (below_drewN (Below.refl _ w) _).trans hb⟩
  by_cases hin : -999999 ≤ n ∧ n ≤ 999999
  · exact key _ _ (formV_yes hin.1 hin.2)
  · exact key _ _ (formV_no (by omega))
end Go.Proofs.YtnkbpoenncgcnaaDoor
