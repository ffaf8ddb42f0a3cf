/-
  Splitting a string at a byte, in plain mathematics.
-/
import Derived.Test.YtnkbpoenncgcnaaDoorBase
import Derived.Test.YtnkbpoenncgcnaaDoorJoinM
import Derived.Lib.IndexLaws
namespace Go.Proofs.YtnkbpoenncgcnaaDoor
open Go.RowKit

/-- What lies behind k bytes: the parts that are complete, and where the next one begins. -/
def stp (s : ByteArray) (c : UInt8) : Nat → List ByteArray × Nat
  | 0 => ([], 0)
  | k + 1 => if h : k < s.size then (if s[k] = c then ((stp s c k).1 ++ [s.extract (stp s c k).2 k], k + 1) else stp s c k) else stp s c k
theorem stp_hit {s : ByteArray} {c : UInt8} {k : Nat} (h : k < s.size) (he : s[k] = c) : stp s c (k + 1) = ((stp s c k).1 ++ [s.extract (stp s c k).2 k], k + 1) := by
  rw [stp, dif_pos h, if_pos he]
theorem stp_miss {s : ByteArray} {c : UInt8} {k : Nat} (h : k < s.size) (he : s[k] ≠ c) : stp s c (k + 1) = stp s c k := by
  rw [stp, dif_pos h, if_neg he]
theorem stp_le (s : ByteArray) (c : UInt8) (k : Nat) : (stp s c k).2 ≤ k ∧ (stp s c k).1.length ≤ k := by
  induction k with
  | zero => exact ⟨Nat.le_refl _, Nat.le_refl _⟩
  | succ k ih =>
    rw [stp]
    split
    · split
      · simp; omega
      · omega
    · omega
/-- The parts of s between the bytes c. -/
def splitF (s : ByteArray) (c : UInt8) : List ByteArray := (stp s c s.size).1 ++ [s.extract (stp s c s.size).2 s.size]
theorem splitF_len (s : ByteArray) (c : UInt8) : (splitF s c).length = (stp s c s.size).1.length + 1 := by unfold splitF; simp
theorem splitF_len_le (s : ByteArray) (c : UInt8) : (splitF s c).length ≤ s.size + 1 := by rw [splitF_len]; have := (stp_le s c s.size).2; omega

theorem joinTail_snoc (sep : List UInt8) (r : List (List UInt8)) (y : List UInt8) : Lib.joinTail sep (r ++ [y]) = Lib.joinTail sep r ++ sep ++ y := by
  simp [Lib.joinTail]
theorem jl_one_more (c : UInt8) (xs : List ByteArray) (y : ByteArray) (h : xs ≠ []) : jl c (xs ++ [y]) = jl c xs ++ [c] ++ y.data.toList := by
  cases xs with
  | nil => exact absurd rfl h
  | cons x r =>
    unfold jl
    rw [List.cons_append, List.map_cons, List.map_cons, Lib.join_cons, Lib.join_cons, List.map_append]
    simp only [List.map_cons, List.map_nil]
    rw [joinTail_snoc]
    simp only [List.append_assoc]
theorem jl_last_longer (c : UInt8) (xs : List ByteArray) (y z : ByteArray) (d : List UInt8) (h : z.data.toList = y.data.toList ++ d) : jl c (xs ++ [z]) = jl c (xs ++ [y]) ++ d := by
  by_cases hx : xs = []
  · subst hx
    rw [List.nil_append, List.nil_append, jl_one, jl_one, h]
  · rw [jl_one_more c xs z hx, jl_one_more c xs y hx, h]
    simp only [List.append_assoc]
theorem extract_list (s : ByteArray) (a b : Nat) (hb : b ≤ s.size) : (s.extract a b).data.toList = (s.data.toList.take b).drop a := by
  simp [List.drop_take]
theorem size_extract_le (s : ByteArray) (a b : Nat) : (s.extract a b).size ≤ s.size := by rw [ByteArray.size_extract]; omega

/-- Behind k bytes the parts, with what has begun, are these k bytes; and none of them holds the byte. -/
theorem stp_inv (s : ByteArray) (c : UInt8) (k : Nat) (hk : k ≤ s.size) :
    jl c ((stp s c k).1 ++ [s.extract (stp s c k).2 k]) = s.data.toList.take k ∧ (∀ z ∈ (stp s c k).1, stands z c = false) ∧ stands (s.extract (stp s c k).2 k) c = false ∧ (∀ z ∈ (stp s c k).1, z.size ≤ s.size) := by
  induction k with
  | zero =>
    refine ⟨?_, fun z h => (by cases h), ?_, fun z h => (by cases h)⟩
    · show jl c ([] ++ [s.extract 0 0]) = _
      rw [List.nil_append, jl_one]; simp
    · show stands (s.extract 0 0) c = false
      unfold stands; simp
  | succ k ih =>
    obtain ⟨h1, h2, h3, h4⟩ := ih (by omega)
    have hlt : k < s.size := hk
    have hle := (stp_le s c k).1
    have hs : s.data.toList.take (k + 1) = s.data.toList.take k ++ [s[k]] := bytes_take_snoc s k hlt
    by_cases he : s[k] = c
    · rw [stp_hit hlt he]
      refine ⟨?_, ?_, ?_, ?_⟩
      · show jl c (((stp s c k).1 ++ [s.extract (stp s c k).2 k]) ++ [s.extract (k + 1) (k + 1)]) = _
        rw [jl_one_more _ _ _ (by simp), h1, hs, he]; simp
      · intro z hz
        rw [List.mem_append] at hz
        rcases hz with hz | hz
        · exact h2 z hz
        · simp at hz; subst hz; exact h3
      · show stands (s.extract (k + 1) (k + 1)) c = false
        unfold stands; simp
      · intro z hz
        rw [List.mem_append] at hz
        rcases hz with hz | hz
        · exact h4 z hz
        · simp at hz; subst hz; exact size_extract_le _ _ _
    · rw [stp_miss hlt he]
      have hx : (s.extract (stp s c k).2 (k + 1)).data.toList = (s.extract (stp s c k).2 k).data.toList ++ [s[k]] := by
        rw [extract_list _ _ _ (by omega), extract_list _ _ _ (by omega), hs, List.drop_append_of_le_length (by simp; omega)]
      refine ⟨?_, h2, ?_, h4⟩
      · rw [jl_last_longer c _ _ _ _ hx, h1, hs]
      · unfold stands at h3 ⊢
        rw [hx]
        rw [Bool.eq_false_iff] at h3 ⊢
        intro h
        have h := List.contains_iff_mem.1 h
        rw [List.mem_append] at h
        rcases h with h | h
        · exact h3 (List.contains_iff_mem.2 h)
        · simp at h; exact he h.symm
/-- Split and joined again. -/
theorem split_join (s : ByteArray) (c : UInt8) (h : s.size ≤ 4000) : joinOk (splitF s c) c = true ∧ jl c (splitF s c) = s.data.toList ∧ ∀ z ∈ splitF s c, z.size ≤ s.size := by
  obtain ⟨h1, h2, h3, h4⟩ := stp_inv s c s.size (Nat.le_refl _)
  have hj : jl c (splitF s c) = s.data.toList := by
    unfold splitF; rw [h1, List.take_of_length_le (by simp)]
  have hm : ∀ z ∈ splitF s c, stands z c = false ∧ z.size ≤ s.size := by
    intro z hz
    unfold splitF at hz
    rw [List.mem_append] at hz
    rcases hz with hz | hz
    · exact ⟨h2 z hz, h4 z hz⟩
    · simp at hz; subst hz; exact ⟨h3, size_extract_le _ _ _⟩
  exact ⟨joinOk_yes (fun i hi => (hm _ (List.getElem_mem hi)).1) (by rw [splitF_len]; omega) (by rw [hj, size_eq]; exact h), hj, fun z hz => (hm z hz).2⟩

/-- What stands ahead of the first byte c. -/
def preF (s : ByteArray) (c : UInt8) : ByteArray := (splitF s c).headD ByteArray.empty
theorem preF_head (s : ByteArray) (c : UInt8) : (splitF s c)[0]? = some (preF s c) := by
  unfold preF
  have h : 0 < (splitF s c).length := by rw [splitF_len]; omega
  rw [List.headD_eq_head?_getD, List.head?_eq_getElem?, List.getElem?_eq_getElem h]; rfl
/-- While the byte has not come, nothing is complete. -/
theorem stp_none {s : ByteArray} {c : UInt8} (k : Nat) (hk : k ≤ s.size) (h : ∀ j (hj : j < s.size), j < k → s[j] ≠ c) : stp s c k = ([], 0) := by
  induction k with
  | zero => rfl
  | succ k ih => rw [stp_miss hk (h k hk (by omega))]; exact ih (by omega) fun j hj hjk => h j hj (by omega)
theorem stp_some {s : ByteArray} {c : UInt8} {i : Nat} (hi : i < s.size) (he : s[i] = c) (h : ∀ j (hj : j < s.size), j < i → s[j] ≠ c) (k : Nat) (hk : k ≤ s.size) (hik : i < k) : (stp s c k).1[0]? = some (s.extract 0 i) := by
  induction k with
  | zero => omega
  | succ k ih =>
    by_cases hk2 : i = k
    · subst hk2
      rw [stp_hit hi he, stp_none i (by omega) h]; rfl
    · have hr := ih (by omega) (by omega)
      have hpos : 0 < (stp s c k).1.length := by
        rcases Nat.eq_zero_or_pos (stp s c k).1.length with h0 | h0
        · rw [List.getElem?_eq_none (by omega)] at hr; cases hr
        · exact h0
      by_cases hc : s[k] = c
      · rw [stp_hit hk hc]
        show ((stp s c k).1 ++ _)[0]? = _
        rw [List.getElem?_append_left hpos]; exact hr
      · rw [stp_miss hk hc]; exact hr
theorem preF_some {s : ByteArray} {c : UInt8} {i : Nat} (hi : i < s.size) (he : s[i] = c) (h : ∀ j (hj : j < s.size), j < i → s[j] ≠ c) : preF s c = s.extract 0 i := by
  have h1 := stp_some hi he h s.size (Nat.le_refl _) hi
  have h2 := preF_head s c
  unfold splitF at h2
  have hpos : 0 < (stp s c s.size).1.length := by
    rcases Nat.eq_zero_or_pos (stp s c s.size).1.length with h0 | h0
    · rw [List.getElem?_eq_none (by omega)] at h1; cases h1
    · exact h0
  rw [List.getElem?_append_left hpos, h1] at h2
  injection h2 with h2
  exact h2.symm
theorem preF_none {s : ByteArray} {c : UInt8} (h : ∀ j (hj : j < s.size), s[j] ≠ c) : preF s c = s := by
  have h2 := preF_head s c
  unfold splitF at h2
  rw [stp_none s.size (Nat.le_refl _) fun j hj _ => h j hj] at h2
  simp at h2
  exact h2.symm
theorem preF_no (s : ByteArray) (c : UInt8) : stands (preF s c) c = false ∧ (preF s c).size ≤ s.size := by
  obtain ⟨h1, h2, h3, h4⟩ := stp_inv s c s.size (Nat.le_refl _)
  have hm : preF s c ∈ splitF s c := List.mem_of_getElem? (preF_head s c)
  unfold splitF at hm
  rw [List.mem_append] at hm
  rcases hm with hz | hz
  · exact ⟨h2 _ hz, h4 _ hz⟩
  · simp at hz; rw [hz]; exact ⟨h3, size_extract_le _ _ _⟩
theorem stp_mono (s : ByteArray) (c : UInt8) (k d : Nat) : (stp s c k).1 <+: (stp s c (k + d)).1 := by
  induction d with
  | zero => exact List.prefix_refl _
  | succ d ih =>
    refine ih.trans ?_
    rw [← Nat.add_assoc, stp]
    split
    · split
      · exact List.prefix_append _ _
      · exact List.prefix_refl _
    · exact List.prefix_refl _
theorem stp_pre (s : ByteArray) (c : UInt8) (k : Nat) (hk : k ≤ s.size) : (stp s c k).1 <+: splitF s c := by
  have h := stp_mono s c k (s.size - k)
  rw [show k + (s.size - k) = s.size by omega] at h
  exact h.trans (List.prefix_append _ _)
theorem stp_lt (s : ByteArray) (c : UInt8) (k : Nat) (hk : k ≤ s.size) : (stp s c k).1.length < (splitF s c).length := by
  have h := stp_mono s c k (s.size - k)
  rw [show k + (s.size - k) = s.size by omega] at h
  have := h.length_le
  rw [splitF_len]
  omega
end Go.Proofs.YtnkbpoenncgcnaaDoor
