/-
  The frames of a list of bytes, as mathematics.
-/
import Derived.Test.YtoelagfcapdfpaaFrE
import Derived.Laws.BitsAllLaws
namespace Go.Proofs.Ytoelagfcapdfpaa
open Go.RowKit

/-- The number of bytes of the frame with which a list begins, or 0. -/
def frm (L : List Int) : Nat :=
  if L.length < 3 then 0
  else if 30 < (L.getD 1 0).toNat ∨ L.length < (L.getD 1 0).toNat + 3 then 0
  else if xorL (L.take ((L.getD 1 0).toNat + 3)) ≠ 0 then 0
  else (L.getD 1 0).toNat + 3
theorem frm_le (L : List Int) : frm L ≤ L.length := by
  unfold frm
  split
  · exact Nat.zero_le _
  split
  · exact Nat.zero_le _
  split
  · exact Nat.zero_le _
  · omega
theorem frm_ge {L : List Int} (h : frm L ≠ 0) : 3 ≤ frm L ∧ frm L ≤ 33 := by
  unfold frm at h ⊢
  split at h
  · exact absurd rfl h
  split at h
  · exact absurd rfl h
  split at h
  · exact absurd rfl h
  · rename_i h1 h2 h3
    rw [if_neg h1, if_neg h2, if_neg h3]
    omega
/-- The places at which frames begin, from at on, and where reading stops. -/
def walk9 : Nat → List Int → Nat → List Nat × Nat
  | 0, _, at_ => ([], at_)
  | k + 1, B, at_ => if frm (B.drop at_) = 0 then ([], at_) else (at_ :: (walk9 k B (at_ + frm (B.drop at_))).1, (walk9 k B (at_ + frm (B.drop at_))).2)
theorem walk9_stop {B : List Int} {at_ : Nat} (h : frm (B.drop at_) = 0) : ∀ k, walk9 k B at_ = ([], at_)
  | 0 => rfl
  | k + 1 => by rw [walk9, if_pos h]
theorem walk9_go {B : List Int} {at_ k : Nat} (h : frm (B.drop at_) ≠ 0) : walk9 (k + 1) B at_ = (at_ :: (walk9 k B (at_ + frm (B.drop at_))).1, (walk9 k B (at_ + frm (B.drop at_))).2) := by
  rw [walk9, if_neg h]
theorem walk9_mem : ∀ (k : Nat) (B : List Int) (at_ : Nat), at_ ≤ B.length → (∀ a ∈ (walk9 k B at_).1, frm (B.drop a) ≠ 0 ∧ a + frm (B.drop a) ≤ B.length) ∧ (walk9 k B at_).2 ≤ B.length ∧ (walk9 k B at_).1.length ≤ k
  | 0, B, at_, h => ⟨fun a ha => (by cases ha), h, Nat.le_refl _⟩
  | k + 1, B, at_, h => by
    by_cases hz : frm (B.drop at_) = 0
    · rw [walk9_stop hz]
      exact ⟨fun a ha => (by cases ha), h, Nat.zero_le _⟩
    · have hle := frm_le (B.drop at_)
      rw [List.length_drop] at hle
      have ih := walk9_mem k B (at_ + frm (B.drop at_)) (by omega)
      rw [walk9_go hz]
      refine ⟨fun a ha => ?_, ih.2.1, by simpa using ih.2.2⟩
      rcases List.mem_cons.1 ha with rfl | ha
      · exact ⟨hz, by omega⟩
      · exact ih.1 a ha
/-- The frames of a list. -/
def frames (B : List Int) : List Nat × Nat := walk9 64 B 0
theorem frames_mem (B : List Int) : (∀ a ∈ (frames B).1, frm (B.drop a) ≠ 0 ∧ a + frm (B.drop a) ≤ B.length) ∧ (frames B).2 ≤ B.length ∧ (frames B).1.length ≤ 64 := walk9_mem 64 B 0 (Nat.zero_le _)
/-- Reading is at a place, with some frames behind it. -/
def At9 (B : List Int) (ds : List Nat) (at_ : Nat) : Prop := at_ ≤ B.length ∧ ∃ k, B.length - at_ < 3 * k ∧ ds ++ (walk9 k B at_).1 = (frames B).1 ∧ (walk9 k B at_).2 = (frames B).2
theorem At9.start {B : List Int} (h : B.length ≤ 64) : At9 B [] 0 := ⟨Nat.zero_le _, 64, by omega, rfl, rfl⟩
theorem At9.stop {B : List Int} {ds : List Nat} {at_ : Nat} (h : At9 B ds at_) (hz : frm (B.drop at_) = 0) : ds = (frames B).1 ∧ at_ = (frames B).2 := by
  obtain ⟨_, k, _, h1, h2⟩ := h
  rw [walk9_stop hz] at h1 h2
  exact ⟨by simpa using h1, h2⟩
theorem At9.go {B : List Int} {ds : List Nat} {at_ : Nat} (h : At9 B ds at_) (hz : frm (B.drop at_) ≠ 0) : At9 B (ds ++ [at_]) (at_ + frm (B.drop at_)) ∧ at_ + frm (B.drop at_) ≤ B.length := by
  obtain ⟨h0, k, hk, h1, h2⟩ := h
  have hle := frm_le (B.drop at_)
  rw [List.length_drop] at hle
  have hge := frm_ge hz
  cases k with
  | zero => omega
  | succ k =>
    rw [walk9_go hz] at h1 h2
    exact ⟨⟨by omega, k, by omega, by rw [List.append_assoc]; exact h1, h2⟩, by omega⟩

/-- The payload of the frame at a place. -/
def payW (x : Win) (B : List Int) (a : Nat) : Win := ⟨x.arr, x.start + (a + 2), (frm (B.drop a) : Int) - 3, (frm (B.drop a) : Int) - 3⟩
/-- The bytes that a window sees. -/
def seenL (m : List (List Int)) (x : Win) : List Int := wb m x.arr.toNat x.start.toNat x.len.toNat
/-- What ParseFrames answers. -/
def parseR (m : List (List Int)) (x : Win) : List Win × Int × Bool :=
  if WinOK m x then ((frames (seenL m x)).1.map (payW x (seenL m x)), ((frames (seenL m x)).2 : Int), true) else ([], 0, false)
/-- What TagsOf answers. -/
def tagsR (m : List (List Int)) (x : Win) : List Int × Bool :=
  if WinOK m x then ((frames (seenL m x)).1.map (fun a => (seenL m x).getD a 0), true) else ([], false)
theorem parseR_small (m : List (List Int)) (x : Win) : (parseR m x).1.length ≤ 64 := by
  unfold parseR
  split
  · simp only [List.length_map]
    exact (frames_mem _).2.2
  · exact Nat.zero_le _
theorem tagsR_small (m : List (List Int)) (x : Win) : (tagsR m x).1.length ≤ 2097152 := by
  unfold tagsR
  split
  · simp only [List.length_map]
    exact Nat.le_trans (frames_mem _).2.2 (by decide)
  · exact Nat.zero_le _

theorem xor_z {p q : Int} (hp : IsB p) (hq : IsB q) : IsB (bits .xor .u8 p q) ∧ (bits .xor .u8 p q = 0 ↔ p = q) := by
  obtain ⟨h1, h2⟩ := hp
  obtain ⟨h3, h4⟩ := hq
  rw [u8_xor p q h1 (by omega) h3 (by omega)]
  have hlt : p.toNat ^^^ q.toNat < 2 ^ 8 := Nat.xor_lt_two_pow (by omega) (by omega)
  refine ⟨⟨by omega, by omega⟩, ⟨fun h => ?_, fun h => ?_⟩⟩
  · have : p.toNat ^^^ q.toNat = 0 := by omega
    have h5 := congrArg (fun x => x ^^^ q.toNat) this
    simp only [Nat.xor_assoc, Nat.xor_self, Nat.xor_zero, Nat.zero_xor] at h5
    omega
  · subst h; simp
theorem xorL_isB {xs : List Int} (h : ∀ z ∈ xs, IsB z) : ∀ k, k ≤ xs.length → IsB (xorL (xs.take k))
  | 0, _ => by rw [List.take_zero]; exact ⟨by decide, by decide⟩
  | k + 1, hk => by
    rw [xorL_snoc (by omega)]
    exact (xor_z (xorL_isB h k (by omega)) (h _ (List.getElem_mem _))).1
/-- A list begins with what is written as a frame, or with none. -/
theorem frm_first {L : List Int} (hL : ∀ z ∈ L, IsB z) (h2 : 2 ≤ L.length) (hn : (L.getD 1 0).toNat ≤ L.length - 2) (h30 : (L.getD 1 0).toNat ≤ 30) :
    bodyL (L.getD 0 0) ((L.drop 2).take (L.getD 1 0).toNat) = L.take ((L.getD 1 0).toNat + 2) ∧
    ((frameL (L.getD 0 0) ((L.drop 2).take (L.getD 1 0).toNat)).isPrefixOf L = decide (frm L ≠ 0)) ∧ (frm L ≠ 0 → frm L = (L.getD 1 0).toNat + 3) := by
  match L, h2 with
  | a :: b :: r, _ =>
    have hb : IsB b := hL b (by simp)
    obtain ⟨hb1, hb2⟩ := hb
    simp only [List.getD_cons_zero, List.getD_cons_succ, List.drop_succ_cons, List.drop_zero, List.length_cons] at *
    have hlen : (r.take b.toNat).length = b.toNat := by rw [List.length_take]; omega
    have hbn : ((r.take b.toNat).length : Int) = b := by rw [hlen]; omega
    have e1 : bodyL a (r.take b.toNat) = (a :: b :: r).take (b.toNat + 2) := by
      unfold bodyL
      rw [hbn, List.take_succ_cons, List.take_succ_cons]
    refine ⟨e1, ?_, ?_⟩
    · unfold frameL
      rw [e1]
      by_cases hl : b.toNat + 2 < (a :: b :: r).length
      · have hx := xorL_snoc hl
        have hz := xor_z (xorL_isB hL (b.toNat + 2) (by omega)) (hL _ (List.getElem_mem hl))
        have hp : ((a :: b :: r).take (b.toNat + 2) ++ [xorL ((a :: b :: r).take (b.toNat + 2))]).isPrefixOf (a :: b :: r) = decide (xorL ((a :: b :: r).take (b.toNat + 2)) = (a :: b :: r)[b.toNat + 2]) := by
          rw [Bool.eq_iff_iff, List.isPrefixOf_iff_prefix, decide_eq_true_iff, List.prefix_iff_eq_take]
          have e3 : ((a :: b :: r).take (b.toNat + 2) ++ [xorL ((a :: b :: r).take (b.toNat + 2))]).length = b.toNat + 2 + 1 := by
            rw [List.length_append, List.length_take]
            simp only [List.length_cons, List.length_nil] at hl ⊢
            omega
          rw [e3, List.take_succ_eq_append_getElem hl]
          constructor
          · intro h
            have := List.append_cancel_left h
            simpa using this
          · intro h
            rw [h]
        rw [hp]
        have hf : frm (a :: b :: r) = if xorL ((a :: b :: r).take (b.toNat + 3)) ≠ 0 then 0 else b.toNat + 3 := by
          unfold frm
          simp only [List.length_cons] at hl
          rw [if_neg (by simp only [List.length_cons]; omega)]
          simp only [List.getD_cons_zero, List.getD_cons_succ, List.length_cons]
          rw [if_neg (by omega)]
        rw [hf, show b.toNat + 3 = b.toNat + 2 + 1 from rfl, hx]
        by_cases hq : xorL ((a :: b :: r).take (b.toNat + 2)) = (a :: b :: r)[b.toNat + 2]
        · rw [if_neg (fun hne => hne (hz.2.2 hq)), decide_eq_true hq]
          exact (decide_eq_true (by omega)).symm
        · rw [if_pos (fun h0 => hq (hz.2.1 h0)), decide_eq_false hq]
          exact (decide_eq_false (fun h => h rfl)).symm
      · have hf : frm (a :: b :: r) = 0 := by
          unfold frm
          split
          · rfl
          · rw [if_pos (by simp only [List.getD_cons_zero, List.getD_cons_succ, List.length_cons] at *; omega)]
        rw [hf]
        rw [Bool.eq_iff_iff, List.isPrefixOf_iff_prefix]
        simp only [ne_eq, not_true_eq_false, decide_false, Bool.false_eq_true, iff_false]
        intro h
        have := h.length_le
        rw [List.length_append, List.length_take] at this
        simp only [List.length_cons, List.length_nil] at this hl
        omega
    · intro hne
      unfold frm at hne ⊢
      split at hne
      · exact absurd rfl hne
      split at hne
      · exact absurd rfl hne
      split at hne
      · exact absurd rfl hne
      · rename_i h1 h2 h3
        rw [if_neg h1, if_neg h2, if_neg h3]
        simp
end Go.Proofs.Ytoelagfcapdfpaa
