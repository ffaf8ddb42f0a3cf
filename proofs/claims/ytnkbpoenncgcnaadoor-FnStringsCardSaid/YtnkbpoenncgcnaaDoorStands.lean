/-
  Whether a byte stands in a string (l1Stands); what JoinStrings answers.
-/
import Derived.Test.YtnkbpoenncgcnaaDoorProg
import Derived.Test.YtnkbpoenncgcnaaDoorJoinM
import Derived.WalkLawsBesides
import Derived.WalkSpells
import Derived.BigQuiet
import Derived.Deep.QuietTactic
import Derived.Outline
namespace Go.Proofs.YtnkbpoenncgcnaaDoor
open Go.RowKit

theorem l1Stands_calls (s : ByteArray) (c : UInt8) (w : World) (hs : s.size ≤ maxLen) :
    Calls Tryd.prog 32 #[.string s, .int .u8 c.toNat] w fun e w' => e = .returned (.bool (stands s c)) ∧ w' = w := by
  unfold maxLen at hs
  go_enter Tryd.func32, Tryd.ntmps32
  go_wp2
  go_loop [5] (fun i => ∃ k : Nat, k ≤ s.size ∧ i = .int .i64 k ∧ c ∉ s.data.toList.take k) (fun i => s.size - (intOf i).toNat)
  case atStart => exact ⟨0, Nat.zero_le _, rfl, by simp⟩
  case round =>
    obtain ⟨k, hk, rfl, hno⟩ := hrel
    have HN := Lib.hid hno
    clear hno
    by_cases hlt : k < s.size
    · have hts : s.data.toList.take (k + 1) = s.data.toList.take k ++ [s[k]] := by
        rw [List.take_succ_eq_append_getElem (by simpa using hlt)]; rfl
      have HT := Lib.hid hts
      clear hts
      by_cases he : s[k] = c
      · have hb : (((s[k]).toNat : Int) == (c.toNat : Int)) = true := by rw [he]; simp
        have HF : Hid (stands s c = true) := by
          have : c ∈ s.data.toList.take (k + 1) := by rw [HT.out]; simp [he]
          exact List.contains_iff_mem.2 (List.mem_of_mem_take this)
        clear he
        go_wp2
        go_ret
        exact ⟨ret_bool HF.out.symm, rfl⟩
      · have hb : (((s[k]).toNat : Int) == (c.toNat : Int)) = false := by
          rw [beq_eq_false_iff_ne]; intro h; exact he (UInt8.toNat_inj.1 (by omega))
        have HF : Hid (c ∉ s.data.toList.take (k + 1)) := by
          show c ∉ s.data.toList.take (k + 1)
          rw [HT.out, List.mem_append, not_or]; exact ⟨HN.out, by simpa using fun h => he h.symm⟩
        clear he
        go_wp2
        go_round
        case rel => exact ⟨k + 1, by omega, by go_num, HF.out⟩
        case measure => simp [intOf]; omega
    · have HF : Hid (stands s c = false) := by
        have := HN.out
        rw [List.take_of_length_le (by simp; omega)] at this
        show stands s c = false
        unfold stands
        rw [Bool.eq_false_iff]; intro h; exact this (List.contains_iff_mem.1 h)
      go_wp2
      go_ret
      exact ⟨ret_bool HF.out.symm, rfl⟩

theorem joinV_one (zs : List ByteArray) (c : UInt8) : joinV zs ⟨#[c]⟩ = if joinOk zs c then .tuple #[.string ⟨(jl c zs).toArray⟩, .bool true] else .tuple #[.string ByteArray.empty, .bool false] := rfl
theorem joinV_not (zs : List ByteArray) (sep : ByteArray) (h : sep.size ≠ 1) : joinV zs sep = .tuple #[.string ByteArray.empty, .bool false] := by
  obtain ⟨⟨l⟩⟩ := sep
  match l, h with
  | [], _ => rfl
  | [c], h => exact absurd rfl h
  | _ :: _ :: _, _ => rfl
theorem joinV_nil (sep : ByteArray) : joinV [] sep = .tuple #[.string ByteArray.empty, .bool false] := by
  unfold joinV
  split
  · rfl
  · rfl
theorem joinV_no {zs : List ByteArray} {c : UInt8} (h : joinOk zs c = false) : joinV zs ⟨#[c]⟩ = .tuple #[.string ByteArray.empty, .bool false] := by rw [joinV_one, h]; rfl
theorem joinV_yes {zs : List ByteArray} {c : UInt8} (h : joinOk zs c = true) : joinV zs ⟨#[c]⟩ = .tuple #[.string ⟨(jl c zs).toArray⟩, .bool true] := by rw [joinV_one, h]; rfl
end Go.Proofs.YtnkbpoenncgcnaaDoor
