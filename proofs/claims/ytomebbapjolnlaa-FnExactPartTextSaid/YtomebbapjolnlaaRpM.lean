/-
  Ropes as mathematics: the text of a list of windows, its length, the part of a byte, what is cut, merged, shared.
-/
import Derived.Test.YtomebbapjolnlaaWatch
import Derived.Test.YtomebbapjolnlaaWin
namespace Go.Proofs.Ytomebbapjolnlaa
open Go.RowKit

/-- The number of bytes of the text. -/
def rpLen : List Win → Int
  | [] => 0
  | x :: xs => x.len + rpLen xs
theorem rpLen_append (a b : List Win) : rpLen (a ++ b) = rpLen a + rpLen b := by
  induction a with
  | nil => simp [rpLen]
  | cons x xs ih => simp only [List.cons_append, rpLen, ih]; omega
theorem rpLen_take (L : List Win) (k : Nat) (h : k < L.length) : rpLen (L.take (k + 1)) = rpLen (L.take k) + L[k].len := by
  rw [List.take_succ_eq_append_getElem h, rpLen_append]; simp [rpLen]
theorem rpLen_bounds {L : List Win} (h : ∀ x ∈ L, 0 ≤ x.len ∧ x.len ≤ 64) : 0 ≤ rpLen L ∧ rpLen L ≤ 64 * L.length := by
  induction L with
  | nil => simp [rpLen]
  | cons x xs ih =>
    have h1 := h x (by simp)
    have h2 := ih fun y hy => h y (by simp [hy])
    simp only [rpLen, List.length_cons]
    omega
theorem WinOK.len64 {m : List (List Int)} {x : Win} (h : WinOK m x) : 0 ≤ x.len ∧ x.len ≤ 64 := by
  obtain ⟨n, s, l, c, rfl, hn, hl, hc, h1, h64, h16⟩ := h.nat
  exact ⟨by simp, by simp only []; omega⟩
theorem Watched.len64 {m : List (List Int)} {L : List Win} (h : Watched m L) : ∀ x ∈ L, 0 ≤ x.len ∧ x.len ≤ 64 := fun x hx => (h.2.2 x hx).len64
theorem rpLen_ok {m : List (List Int)} {L : List Win} (h : Watched m L) : 0 ≤ rpLen L ∧ rpLen L ≤ 768 := by
  have := rpLen_bounds h.len64
  have := h.2.1
  omega
theorem rpLen_take_ok {m : List (List Int)} {L : List Win} (h : Watched m L) (k : Nat) : 0 ≤ rpLen (L.take k) ∧ rpLen (L.take k) ≤ 768 := by
  have h1 := rpLen_bounds (L := L.take k) fun x hx => h.len64 x (List.mem_of_mem_take hx)
  have h2 := h.2.1
  have h3 : (L.take k).length ≤ L.length := List.length_take_le' _ _
  omega
/-- What RopeLength answers. -/
def lengthR (m : List (List Int)) (L : List Win) : Int × Bool := if Watched m L then (rpLen L, true) else (0, false)
/-- What IsRope answers. -/
def isRopeR (m : List (List Int)) (L : List Win) : Bool × Bool := if MemOK m then (decide (Watched m L), true) else (false, false)

/-- The part of the byte i, and its number there. -/
def findP : List Win → Int → Int × Int
  | [], i => (0, i)
  | x :: xs, i => if i < x.len then (0, i) else ((findP xs (i - x.len)).1 + 1, (findP xs (i - x.len)).2)
/-- What FindPart answers. -/
def findPartR (m : List (List Int)) (L : List Win) (i : Int) : Int × Int × Bool :=
  if Watched m L ∧ 0 ≤ i ∧ i < rpLen L then ((findP L i).1, (findP L i).2, true) else (0, 0, false)
/-- Ahead of the part k: nothing found. -/
def skipP (L : List Win) (i : Int) (k : Nat) : Int := i - rpLen (L.take k)
theorem findP_skip : ∀ (L : List Win) (i : Int) (k : Nat), k ≤ L.length → (∀ j, j < k → rpLen (L.take (j + 1)) ≤ i) → findP L i = ((findP (L.drop k) (skipP L i k)).1 + k, (findP (L.drop k) (skipP L i k)).2) := by
  intro L
  induction L with
  | nil =>
    intro i k hk _
    obtain rfl : k = 0 := by simpa using hk
    simp [skipP, findP, rpLen]
  | cons x xs ih =>
    intro i k hk h
    cases k with
    | zero => simp [skipP, rpLen]
    | succ k =>
      have h0 := h 0 (by omega)
      simp only [List.take_succ_cons, List.take_zero, rpLen] at h0
      have hlt : ¬ i < x.len := by omega
      have := ih (i - x.len) k (by simpa using hk) fun j hj => by
        have := h (j + 1) (by omega)
        simp only [List.take_succ_cons, rpLen] at this
        omega
      rw [findP, if_neg hlt, this]
      simp only [skipP, List.take_succ_cons, rpLen, List.drop_succ_cons]
      rw [show i - (x.len + rpLen (xs.take k)) = i - x.len - rpLen (xs.take k) by omega]
      refine Prod.ext ?_ rfl
      simp only []
      omega
theorem findP_here {L : List Win} {i : Int} {k : Nat} (hk : k < L.length) (h : ∀ j, j < k → rpLen (L.take (j + 1)) ≤ i) (hlt : skipP L i k < L[k].len) : findP L i = ((k : Int), skipP L i k) := by
  rw [findP_skip L i k (by omega) h, List.drop_eq_getElem_cons hk, findP, if_pos hlt]
  simp
/-- The text. -/
def ropeT (m : List (List Int)) : List Win → List Int
  | [] => []
  | x :: xs => wb m x.arr.toNat x.start.toNat x.len.toNat ++ ropeT m xs
theorem ropeT_append (m : List (List Int)) (a b : List Win) : ropeT m (a ++ b) = ropeT m a ++ ropeT m b := by
  induction a with
  | nil => rfl
  | cons x xs ih => simp [ropeT, ih]
theorem ropeT_take (m : List (List Int)) (L : List Win) (k : Nat) (h : k < L.length) : ropeT m (L.take (k + 1)) = ropeT m (L.take k) ++ wb m L[k].arr.toNat L[k].start.toNat L[k].len.toNat := by
  rw [List.take_succ_eq_append_getElem h, ropeT_append]; simp [ropeT]
theorem ropeT_len {m : List (List Int)} {L : List Win} (h : ∀ x ∈ L, WinOK m x) : ((ropeT m L).length : Int) = rpLen L := by
  induction L with
  | nil => rfl
  | cons x xs ih =>
    obtain ⟨n, s, l, c, rfl, hn, hl, hc, h1, h64, h16⟩ := (h x (by simp)).nat
    have := ih fun y hy => h y (by simp [hy])
    simp only [ropeT, rpLen, List.length_append]
    rw [wb_len (by simpa using hn) (by simp; omega)]
    simp
    omega
theorem ropeT_ok {m : List (List Int)} {L : List Win} (h : Watched m L) : (ropeT m L).length ≤ 768 := by
  have h1 := ropeT_len h.2.2
  have h2 := rpLen_ok h
  omega
/-- What RopeText answers. -/
def textR (m : List (List Int)) (L : List Win) : List Int × Bool := if Watched m L then (ropeT m L, true) else ([], false)
theorem textR_small (m : List (List Int)) (L : List Win) : (textR m L).1.length ≤ 2097152 := by
  unfold textR
  split
  · rename_i h
    have := ropeT_ok h
    simp only []
    omega
  · simp
/-- What JoinRopes answers. -/
def keptR (L : List Win) : List Win × Bool := if L.length ≤ 12 then (L, true) else ([], false)
def joinR (m : List (List Int)) (L Q : List Win) : List Win × Bool := if Watched m L ∧ Watched m Q then keptR (L ++ Q) else ([], false)
/-- Where a window of a rope comes to, cut at i; d bytes are ahead of it, t is the length of the whole text. -/
def cutOne (i t d : Int) (x : Win) : List Win × List Win :=
  if d + x.len ≤ i ∧ (0 < x.len ∨ d < i ∨ i = t) then ([x], []) else if i ≤ d then ([], [x])
  else ([⟨x.arr, x.start, i - d, i - d⟩], [⟨x.arr, x.start + (i - d), x.len - (i - d), x.cap - (i - d)⟩])
/-- Both parts of the first k windows. -/
def splitTo (i t : Int) (L : List Win) : Nat → List Win × List Win
  | 0 => ([], [])
  | k + 1 => ((splitTo i t L k).1 ++ (cutOne i t (rpLen (L.take k)) (L.getD k ⟨0, 0, 0, 0⟩)).1, (splitTo i t L k).2 ++ (cutOne i t (rpLen (L.take k)) (L.getD k ⟨0, 0, 0, 0⟩)).2)
def splitR (L : List Win) (i : Int) : List Win × List Win := splitTo i (rpLen L) L L.length
theorem cutOne_len (i t d : Int) (x : Win) : (cutOne i t d x).1.length ≤ 1 ∧ (cutOne i t d x).2.length ≤ 1 := by
  unfold cutOne
  split
  · simp
  · split <;> simp
theorem splitTo_len (i t : Int) (L : List Win) (k : Nat) : (splitTo i t L k).1.length ≤ k ∧ (splitTo i t L k).2.length ≤ k := by
  induction k with
  | zero => simp [splitTo]
  | succ k ih =>
    have := cutOne_len i t (rpLen (L.take k)) (L.getD k ⟨0, 0, 0, 0⟩)
    simp only [splitTo, List.length_append]
    omega
theorem splitR_len (L : List Win) (i : Int) : (splitR L i).1.length ≤ L.length ∧ (splitR L i).2.length ≤ L.length := splitTo_len _ _ _ _
/-- A window cut, as the program cuts it. -/
def cutW (i : Int) (x : Win) : List Win × List Win :=
  if i ≤ 0 then ([], [x]) else if x.len ≤ i then ([x], []) else ([⟨x.arr, x.start, i, i⟩], [⟨x.arr, x.start + i, x.len - i, x.cap - i⟩])
theorem cutOne_W {i t d : Int} {x : Win} (_h0 : 0 ≤ x.len) (hne : i ≠ t) : cutOne i t d x = cutW (i - d) x := by
  unfold cutOne cutW
  by_cases h1 : i - d ≤ 0
  · rw [if_pos h1, if_neg (by omega), if_pos (by omega)]
  · rw [if_neg h1]
    by_cases h2 : x.len ≤ i - d
    · rw [if_pos h2, if_pos (by omega)]
    · rw [if_neg h2, if_neg (by omega), if_neg (by omega)]
theorem splitTo_all {L : List Win} (h : ∀ x ∈ L, 0 ≤ x.len) (k : Nat) (hk : k ≤ L.length) : splitTo (rpLen L) (rpLen L) L k = (L.take k, []) := by
  induction k with
  | zero => simp [splitTo]
  | succ k ih =>
    have hlt : k < L.length := by omega
    have e := rpLen_take L k hlt
    have hle : ∀ (Q : List Win), (∀ x ∈ Q, 0 ≤ x.len) → 0 ≤ rpLen Q := fun Q hQ => by
      induction Q with
      | nil => simp [rpLen]
      | cons y ys ihq =>
        have := hQ y (by simp)
        have := ihq fun z hz => hQ z (by simp [hz])
        simp only [rpLen]; omega
    have hs : rpLen L = rpLen (L.take (k + 1)) + rpLen (L.drop (k + 1)) := by rw [← rpLen_append, List.take_append_drop]
    have hd := hle (L.drop (k + 1)) fun x hx => h x (List.mem_of_mem_drop hx)
    have hg : L.getD k ⟨0, 0, 0, 0⟩ = L[k] := by simp [List.getElem?_eq_getElem hlt]
    rw [splitTo, ih (by omega), hg, cutOne, if_pos ⟨by omega, .inr (.inr rfl)⟩, List.take_succ_eq_append_getElem hlt]
    rfl
theorem splitR_all {L : List Win} (h : ∀ x ∈ L, 0 ≤ x.len) : splitR L (rpLen L) = (L, []) := by
  unfold splitR
  rw [splitTo_all h _ (Nat.le_refl _), List.take_length]
/-- Whether a rope can be cut there. -/
def CutOK (m : List (List Int)) (L : List Win) (i : Int) : Prop := Watched m L ∧ 0 ≤ i ∧ i ≤ rpLen L
instance (m : List (List Int)) (L : List Win) (i : Int) : Decidable (CutOK m L i) := by unfold CutOK; exact inferInstance
def splitRopeR (m : List (List Int)) (L : List Win) (i : Int) : List Win × List Win × Bool := if CutOK m L i then ((splitR L i).1, (splitR L i).2, true) else ([], [], false)
def RangeOK (m : List (List Int)) (L : List Win) (i j : Int) : Prop := CutOK m L j ∧ 0 ≤ i ∧ i ≤ j
instance (m : List (List Int)) (L : List Win) (i j : Int) : Decidable (RangeOK m L i j) := by unfold RangeOK; exact inferInstance
def deleteR (m : List (List Int)) (L : List Win) (i j : Int) : List Win × Bool := if RangeOK m L i j then keptR ((splitR L i).1 ++ (splitR L j).2) else ([], false)
def partR (m : List (List Int)) (L : List Win) (i j : Int) : List Win × Bool := if RangeOK m L i j then keptR (splitR (splitR L j).1 i).2 else ([], false)
end Go.Proofs.Ytomebbapjolnlaa
