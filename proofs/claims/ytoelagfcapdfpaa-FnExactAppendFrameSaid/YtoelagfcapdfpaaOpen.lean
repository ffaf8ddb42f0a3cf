/-
  openWindow of impl.
-/
import Derived.Test.YtoelagfcapdfpaaCopyM
import Derived.Test.YtoelagfcapdfpaaRowAt
namespace Go.Proofs.Ytoelagfcapdfpaa
open Go.RowKit

/-- What openWindow answers: a copy of the memory, and what the window sees of it. -/
def Opened (m : List (List Int)) (x : Win) (lo : Nat) (e : Ending) (w' : World) : Prop :=
  (¬ WinOK m x ∧ ∃ A, e = .returned (.tuple #[.agg #[.slice none 0 0], .slice A 0 0, .bool false])) ∨
  (∃ n s l c gb g cv cap o, ∃ hn : n < m.length, x = ⟨(n : Nat), (s : Nat), (l : Nat), (c : Nat)⟩ ∧ WinOK m x ∧ l ≤ c ∧ s + c ≤ m[n].length ∧ 1 ≤ m[n].length ∧ m[n].length ≤ 64 ∧ m.length ≤ 16 ∧
    e = .returned (.tuple #[.agg #[.slice (some ⟨gb, 0, none⟩) m.length cv], .slice (some ⟨g, o, none⟩) l c, .bool true]) ∧ (0 < c → o = s) ∧ OwnM w' lo w'.heap.size (.slice (some ⟨gb, 0, none⟩) m.length cv) m ∧
    w'.cell? ⟨gb, n, none⟩ = some (.slice (some ⟨g, 0, none⟩) m[n].length cap))
theorem small_set {m : List (List Int)} (h : MemOK m) {n : Nat} {ys : List Int} (hy : ys.length ≤ 64) : Small (m.set n ys) :=
  ⟨by rw [List.length_set]; exact h.1, fun r hr => by
    rcases List.mem_or_eq_of_mem_set hr with h1 | h1
    · exact (h.2 r h1).2
    · rw [h1]; exact hy⟩
end Go.Proofs.Ytoelagfcapdfpaa
