/-
  JoinStrings in plain mathematics: what it computes; nothing of the program is named here.
-/
import Derived.Test.YtbdaaeffbhcflacBase
import Derived.Lib.Join
import Derived.Lib.IndexAny
namespace Go.Proofs.Ytbdaaeffbhcflac
open Go.RowKit

/-- The sizes of some strings together. -/
def sizes (zs : List ByteArray) : Nat := (zs.map ByteArray.size).sum
theorem sizes_snoc (zs : List ByteArray) (k : Nat) (h : k < zs.length) : sizes (zs.take (k + 1)) = sizes (zs.take k) + zs[k].size := by
  unfold sizes; rw [List.take_succ_eq_append_getElem h, List.map_append, List.sum_append]; simp
theorem sizes_le (zs : List ByteArray) (k : Nat) : sizes (zs.take k) ≤ sizes zs := by
  have h := List.take_append_drop k zs
  have : sizes zs = sizes (zs.take k) + sizes (zs.drop k) := by
    conv => lhs; rw [← h]
    unfold sizes; rw [List.map_append, List.sum_append]
  omega

/-- The strings one behind the other, with the byte c between them. -/
def jl (c : UInt8) (zs : List ByteArray) : List UInt8 := Lib.join (zs.map (·.data.toList)) [c]
theorem size_eq (z : ByteArray) : z.data.toList.length = z.size := by simp
theorem lens_eq (zs : List ByteArray) : Lib.lens (zs.map (·.data.toList)) = sizes zs := by
  unfold Lib.lens sizes; rw [List.map_map]; congr 1
theorem jl_one (c : UInt8) (z : ByteArray) : jl c [z] = z.data.toList := by simp [jl, Lib.join_one]
theorem jl_len (c : UInt8) (zs : List ByteArray) (h : zs ≠ []) : (jl c zs).length + 1 = sizes zs + zs.length := by
  cases zs with
  | nil => exact absurd rfl h
  | cons z r =>
    unfold jl
    rw [List.map_cons, Lib.join_length, ← List.map_cons (f := fun x : ByteArray => x.data.toList), lens_eq]
    simp; omega
theorem jl_snoc (c : UInt8) (zs : List ByteArray) (k : Nat) (h : k < zs.length) (hk : 0 < k) : jl c (zs.take (k + 1)) = jl c (zs.take k) ++ [c] ++ zs[k].data.toList := by
  cases zs with
  | nil => simp at h
  | cons z r =>
    obtain ⟨j, rfl⟩ : ∃ j, k = j + 1 := ⟨k - 1, by omega⟩
    have hj : j < r.length := by simpa using h
    unfold jl
    rw [List.take_succ_cons, List.take_succ_cons, List.map_cons, List.map_cons, Lib.join_cons, Lib.join_cons, List.map_take, List.map_take,
      Lib.joinTail_take_succ [c] (r.map (·.data.toList)) j r[j].data.toList (by rw [List.getElem?_map, List.getElem?_eq_getElem hj]; rfl)]
    simp only [List.append_assoc]; rfl
theorem jl_take_le (c : UInt8) (zs : List ByteArray) (k : Nat) (hk : k ≤ zs.length) : (jl c (zs.take k)).length ≤ (jl c zs).length := by
  rcases Nat.eq_zero_or_pos k with rfl | h
  · simp [jl, Lib.join_nil]
  · have h1 : zs.take k ≠ [] := by intro e; have := congrArg List.length e; simp at this; rcases this with h' | h'; exact absurd h' (by omega); rw [h'] at hk; simp at hk; omega
    have h2 : zs ≠ [] := by rintro rfl; simp at hk; omega
    have a := jl_len c _ h1
    have b := jl_len c _ h2
    have d := sizes_le zs k
    rw [List.length_take] at a
    omega

/-- Whether the byte c stands in the string s. -/
def stands (s : ByteArray) (c : UInt8) : Bool := s.data.toList.contains c
/-- Whether the strings can be joined. -/
def joinOk (zs : List ByteArray) (c : UInt8) : Bool := zs.all (fun z => !stands z c) && decide (zs ≠ []) && decide ((jl c zs).length ≤ 4000)
/-- What JoinStrings answers. -/
def joinV (zs : List ByteArray) (sep : ByteArray) : Value :=
  match sep.data.toList with
  | [c] => if joinOk zs c then .tuple #[.string ⟨(jl c zs).toArray⟩, .bool true] else .tuple #[.string ByteArray.empty, .bool false]
  | _ => .tuple #[.string ByteArray.empty, .bool false]
theorem bytes_of_list {o : ByteArray} {l : List UInt8} (h : o.data.toList = l) : o = ⟨l.toArray⟩ := by subst h; rfl
theorem joinOk_no_stands {zs : List ByteArray} {c : UInt8} {k : Nat} (h : k < zs.length) (hs : stands zs[k] c = true) : joinOk zs c = false := by
  unfold joinOk
  have : zs.all (fun z => !stands z c) = false := by
    rw [List.all_eq_false]
    exact ⟨zs[k], List.getElem_mem h, by simp [hs]⟩
  rw [this]; rfl
theorem joinOk_no_len {zs : List ByteArray} {c : UInt8} (h : 4000 < (jl c zs).length) : joinOk zs c = false := by
  unfold joinOk
  rw [show decide ((jl c zs).length ≤ 4000) = false from decide_eq_false (by omega), Bool.and_false]
theorem joinOk_yes {zs : List ByteArray} {c : UInt8} (hs : ∀ i (h : i < zs.length), stands zs[i] c = false) (h0 : 0 < zs.length) (h : (jl c zs).length ≤ 4000) : joinOk zs c = true := by
  unfold joinOk
  rw [show decide ((jl c zs).length ≤ 4000) = true from decide_eq_true h, show decide (zs ≠ []) = true from decide_eq_true (by rintro rfl; simp at h0), Bool.and_true, Bool.and_true, List.all_eq_true]
  intro z hz
  obtain ⟨i, hi, rfl⟩ := List.getElem_of_mem hz
  simp [hs i hi]
end Go.Proofs.Ytbdaaeffbhcflac
