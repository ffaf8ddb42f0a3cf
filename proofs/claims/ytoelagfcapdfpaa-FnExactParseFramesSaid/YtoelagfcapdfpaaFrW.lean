/-
  Marks on lists of windows, and whether they are held: the law's markWindowS, heldWindowS.
-/
import Derived.Test.YtoelagfcapdfpaaWinsL
namespace Go.Proofs.Ytoelagfcapdfpaa
open Go.RowKit Go.ChangeShapes Go.WideShapes Go.Joins Go.Deep

def markW (k i : Nat) : Win := ⟨((k + 4 * i : Nat) : Int), ((k + 4 * i : Nat) : Int) + 1, ((k + 4 * i : Nat) : Int) + 1 + 1, ((k + 4 * i : Nat) : Int) + 1 + 1 + 1⟩
def marksW (k n : Nat) : List Win := (List.range n).map (markW k)
theorem marksW_len (k n : Nat) : (marksW k n).length = n := by simp [marksW]
theorem marksW_get (k n i : Nat) (h : i < (marksW k n).length) : (marksW k n)[i] = markW k i := by simp [marksW]
theorem marksW_succ (k n : Nat) : marksW k (n + 1) = marksW k n ++ [markW k n] := by simp [marksW, List.range_succ]
theorem marksW_step (k i : Nat) (xs : List Win) (hi : i < xs.length) : (marksW k i ++ xs.drop i).set i (markW k i) = marksW k (i + 1) ++ xs.drop (i + 1) := by
  rw [List.set_append_right _ _ (by rw [marksW_len]; exact Nat.le_refl _), marksW_len, Nat.sub_self, List.drop_eq_getElem_cons hi, List.set_cons_zero, marksW_succ]
  simp
theorem WC.put {cs : List Value} {xs : List Win} {n : Nat} (h : WC cs xs n) {j : Nat} (hj : j < xs.length) (hl : xs.length * 4 ≤ cs.length) (x : Win) :
    WC ((((cs.set (j * 4) (.int .i64 x.arr)).set (j * 4 + 1) (.int .i64 x.start)).set (j * 4 + 2) (.int .i64 x.len)).set (j * 4 + 3) (.int .i64 x.cap)) (xs.set j x) n := fun i y hi hy => by
  simp only [List.getElem?_set, List.length_set]
  rcases Nat.decEq j i with hne | rfl
  · rw [List.getElem?_set_ne hne] at hy
    obtain ⟨h0, h1, h2, h3⟩ := h i y hi hy
    refine ⟨?_, ?_, ?_, ?_⟩
    · rw [if_neg (by omega), if_neg (by omega), if_neg (by omega), if_neg (by omega)]; exact h0
    · rw [if_neg (by omega), if_neg (by omega), if_neg (by omega), if_neg (by omega)]; exact h1
    · rw [if_neg (by omega), if_neg (by omega), if_neg (by omega), if_neg (by omega)]; exact h2
    · rw [if_neg (by omega), if_neg (by omega), if_neg (by omega), if_neg (by omega)]; exact h3
  · rw [List.getElem?_set_self hj] at hy
    injection hy with hy
    subst hy
    refine ⟨?_, ?_, ?_, ?_⟩
    all_goals (repeat (first | rw [if_pos trivial] | rw [if_neg (by omega)] | rw [if_pos (by omega)]))

/-- markWindowS, with what the list becomes. -/
theorem markWindowSF_calls (A : Option Addr) (c lo hi : Nat) (xs : List Win) (k : Nat) (w : World) (ho : OwnW w lo hi (.slice A xs.length c) xs) (hn : xs.length ≤ 2097152) (hk : k ≤ 1073741824) :
    Calls Try.prog 60 #[.slice A xs.length c, .int .i64 k] w fun e w' => e = .returned (.int .i64 (k + 4 * xs.length)) ∧ OwnW w' lo hi (.slice A xs.length c) (marksW k xs.length) ∧ Span lo hi w w' := by
  obtain ⟨cs0, ho0, hwc0⟩ := ho
  have HO := Lib.hid ho0
  have HW0 := Lib.hid hwc0
  clear ho0 hwc0
  go_enter Try.func60, Try.ntmps60
  go_wp2_with fail
  go_loopw [1, 5] (fun a i wr => ∃ (j : Nat) (cs : List Value), j ≤ xs.length ∧ i = .int .i64 j ∧ a = .int .i64 (k + 4 * j) ∧ wr.ownsRow lo 33 4 (.slice A xs.length c) xs.length cs ∧ WC cs (marksW k j ++ xs.drop j) xs.length ∧ Span lo hi w wr) (fun _ i _ => xs.length - (intOf i).toNat)
  case atStart => exact ⟨0, _, Nat.zero_le _, rfl, by go_num, HO.out.1, by simpa [marksW] using HW0.out, Span.refl _ _ _⟩
  case round =>
    obtain ⟨j, cs, hj, rfl, rfl, hown, hwc, hsp⟩ := hrel
    by_cases hlt : j < xs.length
    · rcases hown.2 with ⟨hv, hn0⟩ | ⟨g, cap, cur, hv, hbg, hh, hnc, hcm, hcs, htk⟩
      · omega
      injection hv with hA _ hcap
      subst hA
      subst hcap
      have hcl := hown.1
      have hf0 := hown.frozenAt (j * 4)
      have hf1 := hown.frozenAt (j * 4 + 1)
      have hf2 := hown.frozenAt (j * 4 + 2)
      have hf3 := hown.frozenAt (j * 4 + 3)
      obtain ⟨u0, hc0⟩ : ∃ u, wr.cell? ⟨g, j * 4, none⟩ = some u := ⟨_, by rw [hown.cellAt _ (by omega), List.getElem?_eq_getElem (by omega)]⟩
      obtain ⟨u1, hc1⟩ : ∃ u, wr.cell? ⟨g, j * 4 + 1, none⟩ = some u := ⟨_, by rw [hown.cellAt _ (by omega), List.getElem?_eq_getElem (by omega)]⟩
      obtain ⟨u2, hc2⟩ : ∃ u, wr.cell? ⟨g, j * 4 + 2, none⟩ = some u := ⟨_, by rw [hown.cellAt _ (by omega), List.getElem?_eq_getElem (by omega)]⟩
      obtain ⟨u3, hc3⟩ : ∃ u, wr.cell? ⟨g, j * 4 + 3, none⟩ = some u := ⟨_, by rw [hown.cellAt _ (by omega), List.getElem?_eq_getElem (by omega)]⟩
      have hgh : g < hi := HO.out.2 g rfl
      have hml : (marksW k j ++ xs.drop j).length = xs.length := by rw [List.length_append, marksW_len, List.length_drop]; omega
      have hput := hwc.put (j := j) (by omega) (by omega) (markW k j)
      rw [marksW_step k j xs hlt] at hput
      have HWS := Lib.hid (show ∀ v0 v1 v2 v3 : Value, v0 = .int .i64 (markW k j).arr → v1 = .int .i64 (markW k j).start → v2 = .int .i64 (markW k j).len → v3 = .int .i64 (markW k j).cap → WC ((((cs.set (j * 4) v0).set (j * 4 + 1) v1).set (j * 4 + 2) v2).set (j * 4 + 3) v3) (marksW k (j + 1) ++ xs.drop (j + 1)) xs.length from fun v0 v1 v2 v3 e0 e1 e2 e3 => by rw [e0, e1, e2, e3]; exact hput)
      have HST := Lib.hid (fun u0 u1 u2 u3 => stored4 hown (j * 4) u0 u1 u2 u3)
      have HSP := Lib.hid (fun (a b d f : Nat) u0 u1 u2 u3 => (((hsp.setCell (p := ⟨g, a, none⟩) hbg hgh u0).setCell (p := ⟨g, b, none⟩) hbg hgh u1).setCell (p := ⟨g, d, none⟩) hbg hgh u2).setCell (p := ⟨g, f, none⟩) hbg hgh u3)
      clear hown hsp hh hcs htk hcl hwc hput hml
      go_wp2_with fail
      go_roundw
      case rel => exact ⟨j + 1, _, by omega, by go_num, by go_num, HST.out _ _ _ _, HWS.out _ _ _ _ (by simp only [markW]; go_num) (by simp only [markW]; go_num) (by simp only [markW]; go_num) (by simp only [markW]; go_num), HSP.out _ _ _ _ _ _ _ _⟩
      case measure => simp [intOf]; omega
    · obtain rfl : j = xs.length := by omega
      have HSP := Lib.hid hsp
      have HOW : Hid (OwnW wr lo hi (.slice A xs.length c) (marksW k xs.length)) := Lib.hid (by
        rw [List.drop_length, List.append_nil] at hwc
        refine ⟨cs, ⟨by rw [marksW_len]; exact hown, HO.out.2⟩, by rw [marksW_len]; exact hwc⟩)
      clear hown hsp hwc
      go_wp2_with fail
      go_ret
      exact ⟨rfl, HOW.out, HSP.out⟩

/-- heldWindowS, where the marks are there. -/
theorem heldWindowS_calls (A : Option Addr) (c n k : Nat) (w : World) (hr : RdW w w.heap.size A (marksW k n)) (hn : n ≤ 2097152) (hk : k ≤ 4194304) :
    Calls Try.prog 61 #[.slice A n c, .int .i64 k] w fun e w' => e = .returned (.int .i64 (k + 4 * n)) ∧ w = w' := by
  have HR := Lib.hid hr
  clear hr
  go_enter Try.func61, Try.ntmps61
  go_wp2_with fail
  go_loop [1, 5] (fun a i => ∃ j : Nat, j ≤ n ∧ i = .int .i64 j ∧ a = .int .i64 (k + 4 * j : Nat)) (fun _ i => n - (intOf i).toNat)
  case atStart => exact ⟨0, Nat.zero_le _, rfl, by go_num⟩
  case round =>
    obtain ⟨j, hj, rfl, rfl⟩ := hrel
    by_cases hlt : j < n
    · obtain ⟨b, off, rfl, hbb, e0, e1, e2, e3⟩ := HR.out.at_ (i := j) (by rw [marksW_len]; exact hlt)
      rw [marksW_get] at e0 e1 e2 e3
      simp only [markW] at e0 e1 e2 e3
      obtain ⟨q, hq⟩ : ∃ q : Nat, k + 4 * j = q := ⟨_, rfl⟩
      have hq2 : q ≤ 12582916 := by omega
      have HE := Lib.hid (show ((k + 4 * (j + 1) : Nat) : Int) = (q : Int) + 1 + 1 + 1 + 1 by omega)
      rw [hq] at e0 e1 e2 e3 ⊢
      have n0 : ((q : Int) != (q : Int)) = false := by simp
      have n1 : ((q : Int) + 1 != (q : Int) + 1) = false := by simp
      have n2 : ((q : Int) + 1 + 1 != (q : Int) + 1 + 1) = false := by simp
      have n3 : ((q : Int) + 1 + 1 + 1 != (q : Int) + 1 + 1 + 1) = false := by simp
      clear hq
      go_wp2_with fail
      go_round
      case rel => exact ⟨j + 1, by omega, by go_num, by rw [HE.out]⟩
      case measure => simp [intOf]; omega
    · obtain rfl : j = n := by omega
      go_wp2_with fail
      go_ret
      exact ⟨ret_int (by omega), rfl⟩
theorem markWS1_calls {A : Option Addr} {c lo hi : Nat} {R : List Win} (w : World) (ho : OwnW w lo hi (.slice A R.length c) R) (hR : R.length ≤ 2097152) :
    Calls Try.prog 60 #[.slice A R.length c, .int .i64 1] w fun e w' => e = .returned (.int .i64 (1 + 4 * (R.length : Nat))) ∧ OwnW w' lo hi (.slice A R.length c) (marksW 1 R.length) ∧ Span lo hi w w' := markWindowSF_calls A c lo hi R 1 w ho hR (by decide)
theorem heldWS1_calls {A : Option Addr} {c lo hi n : Nat} (w : World) (ho : OwnW w lo hi (.slice A n c) (marksW 1 n)) (hn : n ≤ 2097152) :
    Calls Try.prog 61 #[.slice A n c, .int .i64 1] w fun e w' => e = .returned (.int .i64 (1 + 4 * (n : Nat))) ∧ Below w.heap.size w w' := by
  have hr := ho
  rw [show n = (marksW 1 n).length from (marksW_len 1 n).symm] at hr
  have h2 := heldWindowS_calls A c n 1 w (by have := hr; rw [marksW_len] at this; exact (show OwnW w lo hi (.slice A (marksW 1 n).length c) (marksW 1 n) by rw [marksW_len]; exact ho).rd) hn (by decide)
  refine h2.mono ?_
  rintro e w' ⟨rfl, rfl⟩
  exact ⟨rfl, Below.refl _ _⟩
end Go.Proofs.Ytoelagfcapdfpaa
