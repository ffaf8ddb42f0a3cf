/-
  Facts for FnSlices: what slices of drawn windows have to do with each other.
-/
import Derived.Test.YtmcabnbmjbepjaaDoorWin3
import Derived.Test.YtmcabnbmjbepjaaDoorClip
import Derived.Test.YtmcabnbmjbepjaaDoorWhole
import Derived.Test.YtmcabnbmjbepjaaDoorWinB
namespace Go.Proofs.YtmcabnbmjbepjaaDoor
open Go.RowKit

/-- A window as an answer. -/
def winA (x : Win) : Value := .agg #[.int .i64 x.arr, .int .i64 x.start, .int .i64 x.len, .int .i64 x.cap]
def zeroW : Win := ⟨0, 0, 0, 0⟩
/-- What can be sliced. -/
def SlOK (m : List (List Int)) (x : Win) (i j k : Int) : Prop := WinOK m x ∧ 0 ≤ i ∧ i ≤ j ∧ j ≤ k ∧ k ≤ x.cap
instance (m : List (List Int)) (x : Win) (i j k : Int) : Decidable (SlOK m x i j k) := by unfold SlOK; exact inferInstance
theorem sliceV_parts (m : List (List Int)) (x : Win) (i j k : Int) : ∃ (T : Win) (p : Bool), sliceV m x i j k = .tuple #[.agg #[.int .i64 T.arr, .int .i64 T.start, .int .i64 T.len, .int .i64 T.cap], .bool p] ∧
    ((p = true ∧ SlOK m x i j k ∧ T = ⟨x.arr, x.start + i, j - i, k - i⟩) ∨ (p = false ∧ ¬ SlOK m x i j k ∧ T = zeroW)) := by
  by_cases h : SlOK m x i j k
  · exact ⟨⟨x.arr, x.start + i, j - i, k - i⟩, true, by rw [sliceV]; exact if_pos h, .inl ⟨rfl, h, rfl⟩⟩
  · exact ⟨zeroW, false, by rw [sliceV]; exact if_neg h, .inr ⟨rfl, h, rfl⟩⟩
theorem wholeV_parts (m : List (List Int)) (a : Int) : ∃ (T : Win) (p : Bool), wholeV m a = .tuple #[.agg #[.int .i64 T.arr, .int .i64 T.start, .int .i64 T.len, .int .i64 T.cap], .bool p] ∧
    ((p = true ∧ MemOK m ∧ 0 ≤ a ∧ a < m.length ∧ T = ⟨a, 0, (m.getD a.toNat []).length, (m.getD a.toNat []).length⟩) ∨ (p = false ∧ T = zeroW)) := by
  by_cases h : MemOK m ∧ 0 ≤ a ∧ a < m.length
  · exact ⟨_, true, by rw [wholeV, if_pos h], .inl ⟨rfl, h.1, h.2.1, h.2.2, rfl⟩⟩
  · exact ⟨zeroW, false, by rw [wholeV, if_neg h]; rfl, .inr ⟨rfl, rfl⟩⟩
theorem SlOK.win {m : List (List Int)} {x : Win} {i j k : Int} (h : SlOK m x i j k) : WinOK m ⟨x.arr, x.start + i, j - i, k - i⟩ := by
  obtain ⟨⟨h0, h1, h2, h3, h4, h5, h6⟩, g1, g2, g3, g4⟩ := h
  refine ⟨h0, h1, h2, ?_, ?_, ?_, ?_⟩ <;> simp only <;> omega
/-- A fact on a block stays. -/
theorem keepB {w w' : World} {g : Nat} {o : Obj} (h : w.heap[g]? = some o) (hb : Below w.heap.size w w') : w'.heap[g]? = some o :=
  (hb.block _ (Array.getElem?_eq_some_iff.1 h).1).trans h
theorem bytesR_ok (m : List (List Int)) (x : Win) : (bytesR m x).2 = decide (WinOK m x) := by
  unfold bytesR
  by_cases h : WinOK m x
  · simp [h]
  · simp [h]
theorem bytesR_one {m : List (List Int)} {x : Win} (h : WinOK m x) : (bytesR m x).1 = wb m x.arr.toNat x.start.toNat x.len.toNat := by
  unfold bytesR
  rw [if_pos h]
/-- A clipped window's facts. -/
theorem clip_facts {m : List (List Int)} {x T : Win} {p : Bool} (h : (p = true ∧ SlOK m x 0 x.len x.len ∧ T = ⟨x.arr, x.start + 0, x.len - 0, x.len - 0⟩) ∨ (p = false ∧ ¬ SlOK m x 0 x.len x.len ∧ T = zeroW)) :
    p = decide (WinOK m x) ∧ (p = true → T.len = x.len ∧ T.cap = x.len) := by
  rcases h with ⟨rfl, h, rfl⟩ | ⟨rfl, h, rfl⟩
  · refine ⟨(decide_eq_true h.1).symm, fun _ => ⟨?_, ?_⟩⟩ <;> simp only <;> omega
  · refine ⟨(decide_eq_false fun hw => h ⟨hw, ?_, ?_, ?_, ?_⟩).symm, fun h => by cases h⟩
    all_goals (obtain ⟨_, _, _, _, h4, h5, _⟩ := hw; omega)
/-- What two indexes give. -/
structure TwoF (m : List (List Int)) (x T : Win) (i j : Int) (L S : List Int) : Prop where
  ok : WinOK m T
  arg : WArg T
  sl : S = (bytesR m T).1
  i0 : 0 ≤ i
  ij : i ≤ j
  jc : j ≤ x.cap
  c64 : x.cap ≤ 64
  cap : T.cap = x.cap - i
  len : T.len = j - i
  many : (S.length : Int) = j - i
  same : ∀ (y : Nat) (h1 : y < S.length) (h2 : i.toNat + y < L.length), S[y] = L[i.toNat + y]
theorem small_wf {z : Int} (h1 : 0 ≤ z) (h2 : z ≤ 100) : (Lit.int .i64 z).wf = true := by
  simp [Lit.wf, IntKind.min, IntKind.max, IntKind.signed, IntKind.bits]
  omega
theorem two_facts {m : List (List Int)} {x T : Win} {i j : Int} {L S : List Int} (h : SlOK m x i j x.cap) (hT : T = ⟨x.arr, x.start + i, j - i, x.cap - i⟩) (hL : L = (bytesR m x).1) (hS : S = (bytesR m T).1) : TwoF m x T i j L S := by
  have hw := h.win
  rw [← hT] at hw
  obtain ⟨hx, g1, g2, g3, _⟩ := h
  have hL2 := hL
  rw [bytesR_one hx] at hL2
  have hS2 := hS
  rw [bytesR_one hw] at hS2
  obtain ⟨n, s, l, c, rfl, hn, hlc, hsc, h1, h64, h16⟩ := hx.nat
  subst hT
  simp only at *
  obtain ⟨i', rfl⟩ : ∃ i' : Nat, i = i' := ⟨i.toNat, by omega⟩
  obtain ⟨j', rfl⟩ : ∃ j' : Nat, j = j' := ⟨j.toNat, by omega⟩
  have e1 : ((s : Int) + i').toNat = s + i' := by omega
  have e2 : ((j' : Int) - i').toNat = j' - i' := by omega
  rw [e1, e2] at hS2
  simp only [Int.toNat_natCast] at hS2 hL2
  have hl : S.length = j' - i' := by rw [hS2]; exact wb_len hn (by omega)
  have hl2 : L.length = l := by rw [hL2]; exact wb_len hn (by omega)
  refine ⟨hw, ⟨small_wf (by simp only; omega) (by simp only; omega), small_wf (by simp only; omega) (by simp only; omega), small_wf (by simp only; omega) (by simp only; omega), small_wf (by simp only; omega) (by simp only; omega)⟩, hS, g1, g2, by simp only; omega, by simp only; omega, rfl, rfl, by omega, ?_⟩
  intro y h1 h2
  simp only [Int.toNat_natCast] at h2 ⊢
  subst hS2 hL2
  rw [wb_get hn h1 (by omega), wb_get hn h2 (by omega)]
  congr 1
  omega
/-- The whole of an array. -/
structure WhF (m : List (List Int)) (a : Int) (T : Win) (S : List Int) : Prop where
  ok : WinOK m T
  arg : WArg T
  a0 : 0 ≤ a
  al : a.toNat < m.length
  all : S = m[a.toNat]
theorem whole_facts {m : List (List Int)} {a : Int} {T : Win} {S : List Int} (h0 : MemOK m) (h1 : 0 ≤ a) (h2 : a < m.length) (hT : T = ⟨a, 0, (m.getD a.toNat []).length, (m.getD a.toNat []).length⟩) (hS : S = (bytesR m T).1) : WhF m a T S := by
  have hw : WinOK m T := by subst hT; exact ⟨h0, h1, h2, by simp only; omega, by simp only; omega, by simp only; omega, by simp only; omega⟩
  rw [bytesR_one hw] at hS
  subst hT
  have ha : a.toNat < m.length := by omega
  have e := getD_eq (m := m) ha
  have hl := (h0.2 m[a.toNat] (List.getElem_mem _)).2
  simp only at hS
  rw [e] at hw hS ⊢
  refine ⟨hw, ⟨small_wf (show 0 ≤ a from h1) (show a ≤ 100 by have := h0.1; omega), small_wf (by simp only; omega) (by simp only; omega), small_wf (by simp only; omega) (by simp only; omega), small_wf (by simp only; omega) (by simp only; omega)⟩, h1, ha, ?_⟩
  rw [hS, wb_eq ha]
  simp
end Go.Proofs.YtmcabnbmjbepjaaDoor
