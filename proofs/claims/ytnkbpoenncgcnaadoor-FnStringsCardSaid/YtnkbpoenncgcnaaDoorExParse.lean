/-
  FnExactParseInt: the walk of the law; what ParseInt answers, of the specification and of the program.
-/
import Derived.Test.YtnkbpoenncgcnaaDoorRead
namespace Go.Proofs.YtnkbpoenncgcnaaDoor
open Go.RowKit

/-- What ParseInt answers: the number whose text s is, or 0 and false. -/
def ParseOf (s : ByteArray) (N : Int) (b : Bool) : Prop := (b = true ∧ -999999 ≤ N ∧ N ≤ 999999 ∧ numB N = s) ∨ (b = false ∧ N = 0 ∧ NoNum s)
theorem parseOf_ex (s : ByteArray) : ∃ N b, ParseOf s N b := by
  by_cases h : ∃ n : Int, -999999 ≤ n ∧ n ≤ 999999 ∧ numB n = s
  · obtain ⟨n, h0, h1, h2⟩ := h
    exact ⟨n, true, .inl ⟨rfl, h0, h1, h2⟩⟩
  · exact ⟨0, false, .inr ⟨rfl, rfl, fun n h0 h1 h2 => h ⟨n, h0, h1, h2⟩⟩⟩

theorem implParse_calls (s : ByteArray) (N : Int) (b : Bool) (w : World) (hs : s.size ≤ maxLen) (h : ParseOf s N b) (ht : Tabs w) :
    Calls Tryd.prog 13 #[.string s] w fun e w' => e = .returned (.tuple #[.int .i64 N, .bool b]) ∧ Below w.heap.size w w' := by
  rcases h with ⟨rfl, h0, h1, rfl⟩ | ⟨rfl, rfl, h⟩
  · by_cases hn : N < 0
    · exact implParse_neg N w hn h0 ht
    · rw [numB_pos (by omega)]; exact implParse_pos N w (by omega) h1 ht
  · exact implParse_no s w hs h ht
theorem l1Read_calls (s : ByteArray) (N : Int) (b : Bool) (w : World) (hs : s.size ≤ maxLen) (h : ParseOf s N b) :
    Calls Tryd.prog 28 #[.string s] w fun e w' => e = .returned (.tuple #[.int .i64 N, .bool b]) ∧ ∃ m, w' = w.drewN m := by
  rcases h with ⟨rfl, h0, h1, rfl⟩ | ⟨rfl, rfl, h⟩
  · by_cases hn : N < 0
    · exact l1Read_neg N w hn h0
    · rw [numB_pos (by omega)]; exact l1Read_pos N w (by omega) h1
  · exact l1Read_no s w hs h
theorem specParse_calls (s : ByteArray) (N : Int) (b : Bool) (w : World) (hs : s.size ≤ maxLen) (h : ParseOf s N b) :
    Calls Tryd.prog 14 #[.string s] w fun e w' => e = .returned (.tuple #[.int .i64 N, .bool b]) ∧ ∃ m, w' = w.drewN m := by
  have HC := Lib.hid (l1Read_calls s N b w hs h)
  clear h
  go_enter Tryd.func14, Tryd.ntmps14
  go_wp2_with (go_at_call 28; refine HC.out.mono ?_; rintro e w' ⟨rfl, m, rfl⟩)
  go_ret2
  exact ⟨rfl, m, rfl⟩

theorem fnExactParseInt_walk (s : ByteArray) (w : World) (ht : Tabs w) (hs : s.size ≤ maxLen) :
    Calls Tryd.prog 5 #[.string s] w fun e w' => e = .returned (.bool true) ∧ Below w.heap.size w w' := by
  obtain ⟨N, b, h⟩ := parseOf_ex s
  have HS := Lib.hid (specParse_calls s N b w hs h)
  have HI := Lib.hid (fun m => implParse_calls s N b (w.drewN m) hs h (ht.drewN m))
  clear h ht
  unfold maxLen at hs
  go_enter Tryd.func5, Tryd.ntmps5
  go_wp2_with (first | (go_at_call 14; refine HS.out.mono ?_; rintro e w' ⟨rfl, m, rfl⟩) | (go_at_call 13; refine (HI.out _).mono ?_; rintro e w' ⟨rfl, hb⟩))
  all_goals go_ret
  all_goals first
    | exact ⟨rfl, Below.refl _ _⟩
    | exact ⟨rfl, (below_drewN (Below.refl _ w) _).trans hb⟩
end Go.Proofs.YtnkbpoenncgcnaaDoor
