/-
  FormatInt, of the specification and of the program.
-/
import Derived.Test.YtnkbpoenncgcnaaDoorNum
import Derived.Test.YtnkbpoenncgcnaaDoorShelf
import Derived.WalkSmall
import Derived.Lib.LaidTab
import Derived.Lib.AppendIntMem
namespace Go.Proofs.YtnkbpoenncgcnaaDoor
open Go.RowKit

/-- The library's table of powers of ten lies where the program's start has laid it. -/
def Tabs (w : World) : Prop := Lib.TabIs Tryd.prog w "internal/strconv.uint64pow10" .u64 Lib.pow10Tab ∧ 1 < w.heap.size
theorem gTab : Tryd.prog.globalNamed "internal/strconv.uint64pow10" = some 1 := by kernel_rfl
theorem Tabs.below {w w' : World} (h : Tabs w) (hb : Below w.heap.size w w') : Tabs w' := ⟨var?_below hb gTab h.2 h.1, Nat.lt_of_lt_of_le h.2 hb.size⟩
theorem Tabs.drewN {w : World} (h : Tabs w) (n : Nat) : Tabs (w.drewN n) := h

/-- What FormatInt answers. -/
def formV (n : Int) : Value := if -999999 ≤ n ∧ n ≤ 999999 then .tuple #[.string (numB n), .bool true] else .tuple #[.string ByteArray.empty, .bool false]
theorem formV_yes {n : Int} (h0 : -999999 ≤ n) (h1 : n ≤ 999999) : formV n = .tuple #[.string (numB n), .bool true] := if_pos ⟨h0, h1⟩
theorem formV_no {n : Int} (h : n < -999999 ∨ 999999 < n) : formV n = .tuple #[.string ByteArray.empty, .bool false] := if_neg (by omega)

theorem implFormat_calls (n : Int) (w : World) (h0 : -9223372036854775808 ≤ n) (h1 : n ≤ 9223372036854775807) (ht : Tabs w) :
    Calls Tryd.prog 10 #[.int .i64 n] w fun e w' => e = .returned (formV n) ∧ Below w.heap.size w w' := by
  by_cases hin : -999999 ≤ n ∧ n ≤ 999999
  · obtain ⟨g0, g1⟩ := hin
    have HF := Lib.hid (formV_yes g0 g1)
    have HC := Lib.hid (Tryd.strconv_Itoa n h0 h1 w ht.1)
    clear h0 h1 ht
    go_enter Tryd.func10, Tryd.ntmps10
    go_wp2_with (go_at_call 23; refine HC.out.mono ?_; rintro e w' ⟨rfl, k, os, hw⟩)
    go_ret2
    exact ⟨ret_val HF.out.symm, Lib.below_grow _ _ (Nat.le_refl _) _ _⟩
  · have HF := Lib.hid (formV_no (n := n) (by omega))
    clear h0 h1 ht
    by_cases g0 : n < -999999
    · clear hin
      go_enter Tryd.func10, Tryd.ntmps10
      go_wp2_with fail
      go_ret2
      exact ⟨ret_val HF.out.symm, Below.refl _ _⟩
    · have g1 : 999999 < n := by omega
      clear hin
      go_enter Tryd.func10, Tryd.ntmps10
      go_wp2_with fail
      go_ret2
      exact ⟨ret_val HF.out.symm, Below.refl _ _⟩

theorem l1In_yes (x a b : Int) (w : World) (h0 : a ≤ x) (h1 : x ≤ b) : Calls Tryd.prog 24 #[.int .i64 x, .int .i64 a, .int .i64 b] w fun e w' => e = .returned (.bool true) ∧ w = w' := by
  go_enter Tryd.func24, Tryd.ntmps24
  go_wp2
  all_goals go_ret
  all_goals exact ⟨rfl, rfl⟩
theorem l1In_no (x a b : Int) (w : World) (h : x < a ∨ b < x) : Calls Tryd.prog 24 #[.int .i64 x, .int .i64 a, .int .i64 b] w fun e w' => e = .returned (.bool false) ∧ w = w' := by
  by_cases h0 : x < a
  · clear h
    go_enter Tryd.func24, Tryd.ntmps24
    go_wp2
    all_goals go_ret
    all_goals exact ⟨rfl, rfl⟩
  · have h1 : decide (x ≤ b) = false := decide_eq_false (by omega)
    clear h
    go_enter Tryd.func24, Tryd.ntmps24
    go_wp2
    all_goals go_ret
    all_goals exact ⟨rfl, rfl⟩

theorem specFormat_calls (n : Int) (w : World) :
    Calls Tryd.prog 11 #[.int .i64 n] w fun e w' => e = .returned (formV n) ∧ ∃ m, w' = w.drewN m := by
  by_cases hin : -999999 ≤ n ∧ n ≤ 999999
  · obtain ⟨g0, g1⟩ := hin
    have HF := Lib.hid (formV_yes g0 g1)
    have HI := Lib.hid (l1In_yes n (-999999) 999999 w g0 g1)
    have HN := Lib.hid (l1Num_calls n w g0 g1)
    go_enter Tryd.func11, Tryd.ntmps11
    go_wp2_with (first | (go_at_call 24; refine HI.out.mono ?_; rintro e w' ⟨rfl, rfl⟩) | (go_at_call 25; refine HN.out.mono ?_; rintro e w' ⟨rfl, m, rfl⟩))
    go_ret2
    exact ⟨ret_val HF.out.symm, _, rfl⟩
  · have HF := Lib.hid (formV_no (n := n) (by omega))
    have HI := Lib.hid (l1In_no n (-999999) 999999 w (by omega))
    go_enter Tryd.func11, Tryd.ntmps11
    go_wp2_with (go_at_call 24; refine HI.out.mono ?_; rintro e w' ⟨rfl, rfl⟩)
    go_ret2
    exact ⟨ret_val HF.out.symm, 0, rfl⟩
end Go.Proofs.YtnkbpoenncgcnaaDoor
