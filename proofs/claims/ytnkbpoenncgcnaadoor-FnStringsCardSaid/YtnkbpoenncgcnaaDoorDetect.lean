/-
  Any single changed byte of a checksummed string is detected: plain mathematics.
-/
import Derived.Test.YtnkbpoenncgcnaaDoorVer
namespace Go.Proofs.YtnkbpoenncgcnaaDoor
open Go.RowKit

def stepS (h : Int) (c : UInt8) : Int := (41 * h + (c.toNat : Int) + 1) % 999979
theorem sumL_eq (l : List UInt8) : sumL l = l.foldl stepS 7 := rfl
theorem stepS_bd (h : Int) (c : UInt8) : 0 ≤ stepS h c ∧ stepS h c < 999979 := ⟨Int.emod_nonneg _ (by omega), Int.emod_lt_of_pos _ (by omega)⟩
theorem stepS_inj_h {h h' : Int} {c : UInt8} (a0 : 0 ≤ h) (a1 : h < 999979) (b0 : 0 ≤ h') (b1 : h' < 999979) (e : stepS h c = stepS h' c) : h = h' := by
  unfold stepS at e
  have : (c.toNat : Int) < 256 := by have := c.toNat_lt; omega
  omega
theorem stepS_inj_c {h : Int} {c d : UInt8} (e : stepS h c = stepS h d) : c = d := by
  unfold stepS at e
  have h1 := c.toNat_lt
  have h2 := d.toNat_lt
  apply UInt8.toNat_inj.1
  omega
theorem fold_inj : ∀ (l : List UInt8) (h h' : Int), 0 ≤ h → h < 999979 → 0 ≤ h' → h' < 999979 → l.foldl stepS h = l.foldl stepS h' → h = h'
  | [], _, _, _, _, _, _, e => e
  | c :: r, h, h', a0, a1, b0, b1, e => stepS_inj_h a0 a1 b0 b1 (fold_inj r _ _ (stepS_bd h c).1 (stepS_bd h c).2 (stepS_bd h' c).1 (stepS_bd h' c).2 e)
theorem fold_set : ∀ (l : List UInt8) (k : Nat) (d : UInt8) (h : Int) (hk : k < l.length), d ≠ l[k] → (l.set k d).foldl stepS h ≠ l.foldl stepS h
  | c :: r, 0, d, h, _, hne, e => by
    have e : r.foldl stepS (stepS h d) = r.foldl stepS (stepS h c) := e
    exact hne (stepS_inj_c (fold_inj r _ _ (stepS_bd _ _).1 (stepS_bd _ _).2 (stepS_bd _ _).1 (stepS_bd _ _).2 e))
  | c :: r, k + 1, d, h, hk, hne, e => fold_set r k d (stepS h c) (by simpa using hk) (by simpa using hne) e
/-- Where the mark stands. -/
theorem mark_at {A B : List UInt8} (hA : (35 : UInt8) ∉ A) (hB : (35 : UInt8) ∉ B) (i : Nat) : (A ++ 35 :: B)[i]? = some 35 ↔ i = A.length := by
  constructor
  · intro h
    rcases Nat.lt_trichotomy i A.length with hlt | he | hgt
    · rw [List.getElem?_append_left hlt] at h
      exact absurd (List.mem_of_getElem? h) hA
    · exact he
    · rw [List.getElem?_append_right (by omega), show i - A.length = (i - A.length - 1) + 1 by omega, List.getElem?_cons_succ] at h
      exact absurd (List.mem_of_getElem? h) hB
  · rintro rfl
    rw [List.getElem?_append_right (Nat.le_refl _), Nat.sub_self]; rfl
theorem sealB_list (x : ByteArray) : (sealB x).data.toList = x.data.toList ++ 35 :: (numB (sumL x.data.toList)).data.toList := by
  unfold sealB; simp
theorem not_stands {s : ByteArray} {c : UInt8} (h : stands s c = false) : c ∉ s.data.toList := by
  intro hm
  unfold stands at h
  rw [List.contains_iff_mem.2 hm] at h
  cases h
theorem numB_sum_inj {a b : ByteArray} (h : numB (sumL a.data.toList) = numB (sumL b.data.toList)) : sumL a.data.toList = sumL b.data.toList := by
  rw [numB_pos (sumL_bd _).1, numB_pos (sumL_bd _).1] at h
  exact digs_inj (sumL_bd _).1 (sumL_bd _).1 h
theorem bytes_list_inj {a b : ByteArray} (h : a.data.toList = b.data.toList) : a = b := ByteArray.ext (Array.toList_inj.1 h)

/-- One byte turned: no checksum fits. -/
theorem detect {x y : ByteArray} (hx : SealOk x) {k : Nat} {d : UInt8} (hk : k < (sealB x).data.toList.length) (hd : d ≠ (sealB x).data.toList[k]) (hy : y.data.toList = (sealB x).data.toList.set k d) : ¬ VerOk y := by
  rintro ⟨_, hv⟩
  obtain ⟨hp, _⟩ := preF_no y 35
  generalize preF y 35 = p at *
  have h1 := congrArg (fun s : ByteArray => s.data.toList) hv
  simp only [hy, sealB_list p] at h1
  have nx := not_stands hx.2.1
  have ndx := not_stands (sum_no_mark x)
  have np := not_stands hp
  have ndp := not_stands (sum_no_mark p)
  have hL := sealB_list x
  generalize (sealB x).data.toList = L at *
  by_cases hkx : k = x.data.toList.length
  · -- the mark itself is gone
    have hm := (mark_at np ndp p.data.toList.length).2 rfl
    rw [h1, List.getElem?_set] at hm
    have hLk : L[k]? = some 35 := by rw [hL]; exact (mark_at nx ndx k).2 hkx
    split at hm
    · rename_i e
      injection hm with hm
      rw [List.getElem?_eq_getElem hk] at hLk
      injection hLk with hLk
      exact hd (hm.trans hLk.symm)
    · rename_i e
      rw [hL] at hm
      exact e (((mark_at nx ndx _).1 hm).trans hkx.symm).symm
  · have hm : (L.set k d)[x.data.toList.length]? = some 35 := by
      rw [List.getElem?_set, if_neg (by omega), hL]
      exact (mark_at nx ndx _).2 rfl
    rw [← h1] at hm
    have hlen := (mark_at np ndp _).1 hm
    rw [hL] at h1
    by_cases hlt : k < x.data.toList.length
    · rw [List.set_append_left _ _ hlt] at h1
      obtain ⟨e1, e2⟩ := List.append_inj h1 (by rw [List.length_set]; exact hlen.symm)
      have e2 := (List.cons.inj e2).2
      have e3 := numB_sum_inj (bytes_list_inj e2)
      rw [e1, sumL_eq, sumL_eq] at e3
      refine fold_set x.data.toList k d 7 hlt ?_ e3
      have : L[k] = x.data.toList[k] := by simp only [hL]; rw [List.getElem_append_left hlt]
      rw [← this]; exact hd
    · have e4 : p.data.toList = x.data.toList := by
        have := congrArg (List.take x.data.toList.length) h1
        rw [List.take_left' hlen.symm] at this
        rw [this, List.set_append_right _ _ (by omega), List.take_left' rfl]
      have e5 : p = x := bytes_list_inj e4
      subst e5
      have h2 : L.set k d = L := by rw [hL]; exact h1.symm
      have h3 := congrArg (fun l : List UInt8 => l[k]?) h2
      simp only [List.getElem?_set, if_true] at h3
      rw [if_pos hk, List.getElem?_eq_getElem hk] at h3
      injection h3 with h3
      exact hd h3
/-- What is sealed verifies. -/
theorem seal_verifies {x : ByteArray} (hx : SealOk x) : VerOf (sealB x) x true := by
  have hp : preF (sealB x) 35 = x := by
    have hi : x.size < (sealB x).size := by rw [sealB_size]; omega
    have hL := sealB_list x
    have hsz : x.data.toList.length = x.size := by simp
    have h1 : preF (sealB x) 35 = (sealB x).extract 0 x.size := by
      refine preF_some (i := x.size) hi ?_ ?_
      · have := (mark_at (not_stands hx.2.1) (not_stands (sum_no_mark x)) x.data.toList.length).2 rfl
        rw [← hL, hsz] at this
        exact (byte_at this).2
      · intro j hj hjx he
        have h2 : (sealB x).data.toList[j]? = some 35 := by
          rw [List.getElem?_eq_getElem (by simpa using hj)]
          exact congrArg some he
        rw [hL] at h2
        have := (mark_at (not_stands hx.2.1) (not_stands (sum_no_mark x)) j).1 h2
        omega
    rw [h1]
    apply bytes_list_inj
    rw [extract_list _ _ _ (Nat.le_of_lt hi), hL, List.drop_zero, List.take_left' hsz]
  exact .inl ⟨rfl, ⟨hx.2.2, by rw [hp]⟩, hp.symm⟩
end Go.Proofs.YtnkbpoenncgcnaaDoor
