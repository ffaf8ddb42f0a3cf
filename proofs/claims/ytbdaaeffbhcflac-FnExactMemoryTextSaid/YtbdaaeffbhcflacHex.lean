/-
  Bytes as two digits each: l2Hex of spec, hexText of impl.
-/
import Derived.Test.YtbdaaeffbhcflacSpecC
import Derived.Laws.Strings
namespace Go.Proofs.Ytbdaaeffbhcflac
open Go.RowKit

def hexS : ByteArray := ⟨#[48, 49, 50, 51, 52, 53, 54, 55, 56, 57, 97, 98, 99, 100, 101, 102]⟩
/-- The sign of a number below 16. -/
def dg (k : Nat) : UInt8 := hexS.data.toList.getD k 0
theorem hex_piece : ∀ i : Nat, i < 16 → (ByteArray.mk #[48, 49, 50, 51, 52, 53, 54, 55, 56, 57, 97, 98, 99, 100, 101, 102]).extract i (i + 1) = ⟨#[dg i]⟩ := by decide +kernel
/-- A row's text. -/
def hexL (r : List Int) : List UInt8 := r.flatMap fun z => [dg (z.toNat / 16), dg (z.toNat % 16)]
def hexB (r : List Int) : ByteArray := ⟨(hexL r).toArray⟩
theorem hexL_len (r : List Int) : (hexL r).length = 2 * r.length := by
  induction r with
  | nil => rfl
  | cons z r ih =>
    have e : hexL (z :: r) = [dg (z.toNat / 16), dg (z.toNat % 16)] ++ hexL r := rfl
    rw [e, List.length_append, ih]
    simp
    omega
theorem hexL_snoc (r : List Int) (k : Nat) (h : k < r.length) : hexL (r.take (k + 1)) = hexL (r.take k) ++ [dg (r[k].toNat / 16), dg (r[k].toNat % 16)] := by
  unfold hexL
  rw [List.take_succ_eq_append_getElem h, List.flatMap_append]
  simp

set_option maxRecDepth 100000 in
theorem specHex_calls (i : Nat) (hi : i < 16) (w : World) :
    Calls Try.prog 30 #[.int .i64 i] w fun e w' => e = .returned (.string ⟨#[dg i]⟩) ∧ w = w' := by
  have HP := Lib.hid (hex_piece i hi)
  have h0 : (0 : Int) ≤ i := by omega
  have h1 : (i : Int) < 16 := by omega
  have h2 : (i : Int) + 1 ≤ 16 := by omega
  have h3 : (i : Int) ≤ (i : Int) + 1 := by omega
  go_enter Try.func30, Try.ntmps30
  go_wp2_with fail
  go_ret
  refine ⟨?_, rfl⟩
  rw [← HP.out]
  rfl
end Go.Proofs.Ytbdaaeffbhcflac
