/-
  Numbers that are bytes.
-/
import Derived.Test.YtoelagfcapdfpaaImplC
import Derived.Test.YtoelagfcapdfpaaWin
namespace Go.Proofs.Ytoelagfcapdfpaa
open Go.RowKit

/-- Numbers that are bytes. -/
def IsB (z : Int) : Prop := 0 ≤ z ∧ z ≤ 255
theorem isB_of {z : Int} (h : (Lit.int .u8 z).wf = true) : IsB z := by unfold IsB; simpa [Lit.wf, IntKind.min, IntKind.max, IntKind.signed, IntKind.bits] using h
theorem u8_eq {z b : Int} (hz : IsB z) (hb : IsB b) : (UInt8.ofNat z.toNat == b.toNat.toUInt8) = decide (z = b) := by
  have e : (UInt8.ofNat z.toNat = b.toNat.toUInt8) ↔ z = b := by
    rw [← UInt8.toNat_inj]
    obtain ⟨h1, h2⟩ := hz
    obtain ⟨h3, h4⟩ := hb
    simp
    omega
  rw [Bool.eq_iff_iff]
  simp [e]
theorem wb_isB {m : List (List Int)} {n s l : Nat} (hn : n < m.length) (hz : ∀ r ∈ m, ∀ z ∈ r, IsB z) : ∀ z ∈ wb m n s l, IsB z := fun z h => by
  rw [wb_eq hn] at h
  exact hz _ (List.getElem_mem hn) z (List.mem_of_mem_drop (List.mem_of_mem_take h))

end Go.Proofs.Ytoelagfcapdfpaa
