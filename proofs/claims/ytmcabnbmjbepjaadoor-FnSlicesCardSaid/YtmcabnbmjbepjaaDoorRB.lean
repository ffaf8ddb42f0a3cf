/-
  rBytes: two lists with the same bytes are the same.
-/
import Derived.Test.YtmcabnbmjbepjaaDoorBytes
import Derived.Lib.ConvBytes
import Derived.Laws.BytesString
namespace Go.Proofs.YtmcabnbmjbepjaaDoor
open Go.RowKit

/-- The text of a list of bytes. -/
def textOf (zs : List Int) : ByteArray := zs.foldl (fun r n => r.push (UInt8.ofNat n.toNat)) ByteArray.empty
/-- string(a): one text for one list of bytes. -/
theorem conv_bytes (zs : List Int) (W : World) (A : Option Addr) (c : Nat) (hr : Rd W W.heap.size A (intV .u8 zs)) :
    (convert 22 9 (.slice A zs.length c)).run Tryd.prog W = .ok (.string (textOf zs)) W := by
  rw [run_convert_bytes_string _ _ _ 5 _ _ _ Tryd.underlying22 Tryd.underlying5 Tryd.underlying9]
  rcases hr with h | ⟨b, off, rfl, hb, hc⟩
  · have hz : zs = [] := by cases zs with
      | nil => rfl
      | cons z r => exact absurd h (by simp [intV])
    subst hz
    cases A with
    | none => simp [Conv.bytesToString, textOf, go_sem]
    | some a => exact run_bytesToString W a 0 c [] (by simp [loadCells, go_sem])
  · refine run_bytesToString _ _ _ _ zs ?_
    have hq := run_loadCells_list (P := Tryd.prog) (w := W) ⟨b, off, none⟩ (zs.map (Value.int .u8)) (fun j v hv => by
      have := hc j v hv
      simp only [Addr.add]
      by_cases h0 : j = 0
      · subst h0; simpa using this
      · simpa [h0] using this)
    rwa [List.length_map] at hq
theorem rBytes_same (zs : List Int) (A B : Option Addr) (c d : Nat) (w : World) (hA : Rd w w.heap.size A (intV .u8 zs)) (hB : Rd w w.heap.size B (intV .u8 zs)) :
    Calls Tryd.prog 17 #[.slice A zs.length c, .slice B zs.length d] w fun e w' => e = .returned (.bool true) ∧ Below w.heap.size w w' := by
  have h1 := conv_bytes zs w A c hA
  have h2 := conv_bytes zs w B d hB
  go_enter Tryd.func17, Tryd.ntmps17
  go_wp2_with fail
  go_ret
  exact ⟨rfl, by (repeat (first | (with_reducible exact Below.refl _ _) | (with_reducible refine Below.drew ?_) | ((with_reducible refine Below.alloc ?_ ?hB _); case hB => (first | (with_reducible exact Nat.le_refl _) | omega | (simp; done) | (simp; omega))) | ((with_reducible refine Below.setCell ?_ ?hB _); case hB => (first | (with_reducible exact Nat.le_refl _) | omega | (simp; done) | (simp; omega)))))⟩
end Go.Proofs.YtmcabnbmjbepjaaDoor
