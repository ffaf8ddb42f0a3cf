/-
  SplitString, of the specification and of the program: what both answer.
-/
import Derived.Test.YtnkbpoenncgcnaaSplit2
namespace Go.Proofs.Ytnkbpoenncgcnaa
open Go.RowKit Go.Shelf

/-- What SplitString answers. -/
def SplitOf (s sep : ByteArray) (zs : List ByteArray) (b : Bool) : Prop :=
  (∃ c, sep = ⟨#[c]⟩ ∧ s.size ≤ 4000 ∧ zs = splitF s c ∧ b = true) ∨ ((sep.size ≠ 1 ∨ 4000 < s.size) ∧ zs = [] ∧ b = false)
theorem splitOf_ex (s sep : ByteArray) : ∃ zs b, SplitOf s sep zs b := by
  by_cases h1 : sep.size = 1
  · obtain ⟨c, rfl⟩ := one_byte h1
    by_cases h4 : s.size ≤ 4000
    · exact ⟨_, _, .inl ⟨c, rfl, h4, rfl, rfl⟩⟩
    · exact ⟨_, _, .inr ⟨.inr (by omega), rfl, rfl⟩⟩
  · exact ⟨_, _, .inr ⟨.inl h1, rfl, rfl⟩⟩
theorem splitOf_len {s sep : ByteArray} {zs : List ByteArray} {b : Bool} (h : SplitOf s sep zs b) : zs.length ≤ 4001 := by
  rcases h with ⟨c, _, h4, rfl, _⟩ | ⟨_, rfl, _⟩
  · have := splitF_len_le s c; omega
  · exact Nat.zero_le _
theorem own_lit (w : World) (e : TypeId) : (w.alloc (.cells #[] e)).ownsRow w.heap.size e 1 (.slice (some ⟨w.heap.size, 0, none⟩) 0 0) 0 [] := World.ownsRow_made w #[] 0 (Nat.le_refl _) (Nat.zero_le _) rfl

theorem specSplit_calls (s sep : ByteArray) (zs : List ByteArray) (b : Bool) (w : World) (hs : s.size ≤ maxLen) (hp : sep.size ≤ maxLen) (h : SplitOf s sep zs b) :
    Calls Try.prog 17 #[.string s, .string sep] w fun e w' => ∃ v, e = .returned (.tuple #[v, .bool b]) ∧ w'.ownsRow w.heap.size 9 1 v zs.length (strV zs) ∧ Below w.heap.size w w' := by
  unfold maxLen at hs hp
  have HL := Lib.hid (own_lit w 9)
  rcases h with ⟨c, rfl, h4, rfl, rfl⟩ | ⟨hno, rfl, rfl⟩
  · have HP := Lib.hid (l1Split_calls s c w h4)
    clear hp
    go_enter Try.func17, Try.ntmps17
    go_wp2_with fail
    refine HP.out.mono ?_
    rintro e w1 ⟨v, rfl, ho, hb⟩
    have HO := Lib.hid ho
    clear ho
    go_wp2_with fail
    go_ret2
    exact ⟨_, rfl, HO.out, hb⟩
  · by_cases h1 : sep.size = 1
    · have h4 : 4000 < s.size := by omega
      have q1 : ((sep.size : Int) != 1) = false := by rw [h1]; rfl
      clear hno h1
      go_enter Try.func17, Try.ntmps17
      go_wp2_with fail
      go_ret2
      exact ⟨_, rfl, HL.out, (Below.refl _ _).alloc (Nat.le_refl _) _⟩
    · have q1 : ((sep.size : Int) != 1) = true := bne_iff_ne.2 (by omega)
      clear hno h1
      go_enter Try.func17, Try.ntmps17
      go_wp2_with fail
      go_ret2
      exact ⟨_, rfl, HL.out, (Below.refl _ _).alloc (Nat.le_refl _) _⟩

theorem implSplit_calls (s sep : ByteArray) (zs : List ByteArray) (b : Bool) (w : World) (hs : s.size ≤ maxLen) (hp : sep.size ≤ maxLen) (h : SplitOf s sep zs b) :
    Calls Try.prog 10 #[.string s, .string sep] w fun e w' => ∃ v, e = .returned (.tuple #[v, .bool b]) ∧ w'.ownsRow w.heap.size 9 1 v zs.length (strV zs) ∧ Below w.heap.size w w' := by
  unfold maxLen at hs hp
  have HL := Lib.hid (own_lit w 9)
  rcases h with ⟨c, rfl, h4, rfl, rfl⟩ | ⟨hno, rfl, rfl⟩
  · exact (callsIn_wide (n := 3)).1 (implSplit_in 3 (Nat.le_refl _) s c h4 w)
  · by_cases h4 : 4000 < s.size
    · clear hno
      go_enter Try.func10, Try.ntmps10
      go_wp2_with fail
      go_ret2
      exact ⟨_, rfl, HL.out, (Below.refl _ _).alloc (Nat.le_refl _) _⟩
    · have q1 : ((sep.size : Int) != 1) = true := bne_iff_ne.2 (by omega)
      clear hno
      go_enter Try.func10, Try.ntmps10
      go_wp2_with fail
      go_ret2
      exact ⟨_, rfl, HL.out, (Below.refl _ _).alloc (Nat.le_refl _) _⟩
end Go.Proofs.Ytnkbpoenncgcnaa
