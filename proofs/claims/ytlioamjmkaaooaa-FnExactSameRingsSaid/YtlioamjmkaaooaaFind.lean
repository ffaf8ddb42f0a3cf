/-
  FindByte of spec and impl.
-/
import Derived.Test.YtlioamjmkaaooaaIsB
import Derived.Test.YtlioamjmkaaooaaShelf
import Derived.Lib.Bytealg
namespace Go.Proofs.Ytlioamjmkaaooaa
open Go.RowKit

theorem find_hit (b : Int) (hb : IsB b) : ∀ (xs : List Int) (i : Nat), (∀ z ∈ xs, IsB z) → xs[i]? = some b → (∀ j, j < i → xs[j]? ≠ some b) → Lib.indexByte (Lib.bytesOf xs) b.toNat.toUInt8 = i
  | [], i, _, h, _ => by simp at h
  | z :: xs, i, hz, h, hn => by
    show Lib.indexByte (UInt8.ofNat z.toNat :: Lib.bytesOf xs) b.toNat.toUInt8 = i
    unfold Lib.indexByte
    rw [u8_eq (hz z (by simp)) hb]
    cases i with
    | zero =>
      have : z = b := by simpa using h
      simp [this]
    | succ i =>
      have hne : z ≠ b := fun e => hn 0 (by omega) (by simp [e])
      have ih := find_hit b hb xs i (fun y hy => hz y (by simp [hy])) (by simpa using h) (fun j hj => by have := hn (j + 1) (by omega); simpa using this)
      rw [ih]
      simp [hne]
theorem find_none (b : Int) (hb : IsB b) : ∀ (xs : List Int), (∀ z ∈ xs, IsB z) → (∀ z ∈ xs, z ≠ b) → Lib.indexByte (Lib.bytesOf xs) b.toNat.toUInt8 = -1
  | [], _, _ => rfl
  | z :: xs, hz, hn => by
    show Lib.indexByte (UInt8.ofNat z.toNat :: Lib.bytesOf xs) b.toNat.toUInt8 = -1
    unfold Lib.indexByte
    rw [u8_eq (hz z (by simp)) hb, find_none b hb xs (fun y hy => hz y (by simp [hy])) (fun y hy => hn y (by simp [hy]))]
    simp [hn z (by simp)]
def findV (m : List (List Int)) (x : Win) (b : Int) : Value :=
  if WinOK m x then .tuple #[.int .i64 (Lib.indexByte (Lib.bytesOf (wb m x.arr.toNat x.start.toNat x.len.toNat)) b.toNat.toUInt8), .bool true] else .tuple #[.int .i64 0, .bool false]
end Go.Proofs.Ytlioamjmkaaooaa
