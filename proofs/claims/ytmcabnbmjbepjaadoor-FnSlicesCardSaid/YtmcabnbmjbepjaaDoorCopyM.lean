/-
  The program's copies: copyMemory of impl.
-/
import Derived.Test.YtmcabnbmjbepjaaDoorOwnStep
import Derived.Test.YtmcabnbmjbepjaaDoorShelf
namespace Go.Proofs.YtmcabnbmjbepjaaDoor
open Go.RowKit

theorem clone_calls (A : Option Addr) (c : Nat) (zs : List Int) (w : World) (hr : Rd w w.heap.size A (intV .u8 zs)) (h1 : 1 ≤ zs.length) (hn : zs.length ≤ 1000) :
    Calls Tryd.prog 31 #[.slice A zs.length c] w fun e w' => ∃ v, e = .returned v ∧ w'.ownsRow w.heap.size 5 1 v zs.length (intV .u8 zs) ∧ Below w.heap.size w w' := by
  obtain ⟨b, off, rfl, hb, hc⟩ := hr.int (i := 0) h1
  refine (Tryd.bytes_Clone_at ⟨b, off, none⟩ zs.length c zs w rfl (by omega) (fun i hi => ?_)).mono ?_
  · obtain ⟨b2, off2, e2, hb2, hc2⟩ := hr.int (i := i) hi
    injection e2 with e2; injection e2 with e2 e3; subst e2; subst e3
    rw [List.getD_eq_getElem?_getD, List.getElem?_eq_getElem hi]
    rw [show (some zs[i]).getD 0 = zs[i] from rfl, ← hc2]
    simp [Addr.add]
    by_cases h0 : i = 0 <;> simp [h0]
  · rintro e w' ⟨v, rfl, ho, _, hbw⟩
    exact ⟨v, rfl, ho, hbw⟩

end Go.Proofs.YtmcabnbmjbepjaaDoor
