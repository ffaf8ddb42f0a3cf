/-
  JoinStrings in plain mathematics: its answer's cases.
-/
import Derived.Test.YtbdaaeffbhcflacJoinM
namespace Go.Proofs.Ytbdaaeffbhcflac
open Go.RowKit

theorem joinV_one (zs : List ByteArray) (c : UInt8) : joinV zs ⟨#[c]⟩ = if joinOk zs c then .tuple #[.string ⟨(jl c zs).toArray⟩, .bool true] else .tuple #[.string ByteArray.empty, .bool false] := rfl
theorem joinV_not (zs : List ByteArray) (sep : ByteArray) (h : sep.size ≠ 1) : joinV zs sep = .tuple #[.string ByteArray.empty, .bool false] := by
  obtain ⟨⟨l⟩⟩ := sep
  match l, h with
  | [], _ => rfl
  | [c], h => exact absurd rfl h
  | _ :: _ :: _, _ => rfl
theorem joinV_nil (sep : ByteArray) : joinV [] sep = .tuple #[.string ByteArray.empty, .bool false] := by
  unfold joinV
  split
  · rfl
  · rfl
theorem joinV_no {zs : List ByteArray} {c : UInt8} (h : joinOk zs c = false) : joinV zs ⟨#[c]⟩ = .tuple #[.string ByteArray.empty, .bool false] := by rw [joinV_one, h]; rfl
theorem joinV_yes {zs : List ByteArray} {c : UInt8} (h : joinOk zs c = true) : joinV zs ⟨#[c]⟩ = .tuple #[.string ⟨(jl c zs).toArray⟩, .bool true] := by rw [joinV_one, h]; rfl
end Go.Proofs.Ytbdaaeffbhcflac
