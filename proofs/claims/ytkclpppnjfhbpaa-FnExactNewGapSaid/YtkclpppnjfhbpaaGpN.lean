/-
  NewGap of spec and impl.
-/
import Derived.Test.YtkclpppnjfhbpaaGpO
import Derived.Test.YtkclpppnjfhbpaaNewS
namespace Go.Proofs.Ytkclpppnjfhbpaa
open Go.RowKit

/-- What NewGap answers. -/
def newGapR (m : List (List Int)) (i : Int) : List (List Int) × Gp × Bool := ((newR m i).1, ⟨(newR m i).2.1, 0, (newR m i).2.1.len⟩, (newR m i).2.2)
theorem newGapR_small (m : List (List Int)) (i : Int) : Small (newGapR m i).1 := newR_small m i
/-- Blocks b and b + 1 are a memory that came in, and the answer's, a gap that is zero as yet. -/
structure MG (W : World) (b : Nat) (A : Option Addr) (n c : Nat) : Prop where
  par : W.heap[b]? = some (.cells #[.slice A n c] 31)
  res : W.heap[b + 1]? = some (.cells #[.slice none 0 0, .int .i64 0, .int .i64 0, .int .i64 0, .int .i64 0, .int .i64 0, .int .i64 0] 34)
theorem MG.below {W W' : World} {b : Nat} {A : Option Addr} {n c : Nat} (h : MG W b A n c) (hb : Below W.heap.size W W') : MG W' b A n c :=
  ⟨(hb.block _ (Array.getElem?_eq_some_iff.1 h.par).1).trans h.par, (hb.block _ (Array.getElem?_eq_some_iff.1 h.res).1).trans h.res⟩
theorem enterMG (A : Option Addr) (n c : Nat) (w : World) :
    ∃ w0, (w.alloc (.cells #[.slice A n c] 31)).alloc (.cells #[.slice none 0 0, .int .i64 0, .int .i64 0, .int .i64 0, .int .i64 0, .int .i64 0, .int .i64 0] 34) = w0 ∧ Below w.heap.size w w0 ∧ w0.heap.size = w.heap.size + 2 ∧ MG w0 w.heap.size A n c := by
  obtain ⟨h1, h2, h3, h4⟩ := enter2 w (.cells #[.slice A n c] 31) (.cells #[.slice none 0 0, .int .i64 0, .int .i64 0, .int .i64 0, .int .i64 0, .int .i64 0, .int .i64 0] 34)
  exact ⟨_, rfl, h1, h4, h2, h3⟩

set_option maxRecDepth 100000 in
set_option maxHeartbeats 1600000 in
theorem implNewGap_calls (A : Option Addr) (cm : Nat) (m : List (List Int)) (i : Int) (w : World) (hr : Rd2 w w.heap.size A m) (hn : m.length ≤ maxLen) :
    Calls Try.prog 26 #[.agg #[.slice A m.length cm], .int .i64 i] w fun e w' => ∃ v, e = .returned (.tuple #[.agg #[v, .int .i64 (newGapR m i).2.1.w.arr, .int .i64 (newGapR m i).2.1.w.start, .int .i64 (newGapR m i).2.1.w.len, .int .i64 (newGapR m i).2.1.w.cap, .int .i64 (newGapR m i).2.1.fr, .int .i64 (newGapR m i).2.1.up], .bool (newGapR m i).2.2]) ∧ OwnM w' w.heap.size w'.heap.size v (newGapR m i).1 ∧ Below w.heap.size w w' := by
  obtain ⟨w0, hw0, hb0, hz0, hmg⟩ := enterMG A m.length cm w
  have HC := Lib.hid (implNewArray_calls A cm m i w0 ((hr.below hb0).more hb0.size) hn)
  unfold newGapR
  generalize newR m i = R at *
  obtain ⟨M, x, p⟩ := R
  dsimp only at *
  have HB := Lib.hid hb0
  have HW := Lib.hid hw0
  have HMG := Lib.hid hmg
  have c0 := one_cell hmg.par
  clear hr hb0 hw0 hmg
  go_enter Try.func26, Try.ntmps26
  go_wp2_with fail
  rw [HW.out]
  refine HC.out.mono ?_
  rintro e w2 ⟨v, rfl, hv, hb2⟩
  obtain ⟨Av, cv, rfl, hcv⟩ := hv.form
  have HB2 := Lib.hid (HB.out.trans (hb2.mono HB.out.size))
  have hs2 := hb2.size
  obtain ⟨hb3, g1, g2, gz⟩ := enter2 w2 (.cells #[.slice Av M.length cv] 31) (.cells #[.int .i64 x.arr, .int .i64 x.start, .int .i64 x.len, .int .i64 x.cap] 32)
  obtain ⟨w3, hw3⟩ : ∃ w3, (w2.alloc (.cells #[.slice Av M.length cv] 31)).alloc (.cells #[.int .i64 x.arr, .int .i64 x.start, .int .i64 x.len, .int .i64 x.cap] 32) = w3 := ⟨_, rfl⟩
  rw [hw3] at hb3 g1 g2 gz
  have HM3 := Lib.hid ((HMG.out.below hb2).below hb3)
  have HB3 := Lib.hid (HB2.out.trans (hb3.mono HB2.out.size))
  have HO := Lib.hid (hv.below hb3)
  have HW3 := Lib.hid hw3
  have hs3 := hb3.size
  obtain ⟨k0, k1, k2, k3⟩ := four_cells g2
  have q0 := one_cell g1
  clear hb2 hb3 hw3 hv c0 g1 g2 gz
  obtain ⟨r0, r1, r2, r3, r4, r5, r6⟩ := gap_cells HM3.out.res
  obtain ⟨f0, f1, f2, f3, f4, f5, f6⟩ := gap_frozen HM3.out.res
  go_upto_region 2 with fail
  rw [HW3.out]
  go_wp2_with fail
  refine bodyPost_ret (v := .tuple #[.agg #[.slice Av M.length cv, .int .i64 x.arr, .int .i64 x.start, .int .i64 x.len, .int .i64 x.cap, .int .i64 0, .int .i64 x.len], .bool p]) (by simp [results, Try.results26, go_sem, r0, r1, r2, r3, r4, r5, r6]) rfl ⟨_, rfl, ?_, by (repeat (first | (with_reducible exact Below.refl _ _) | (with_reducible refine Below.drew ?_) | ((with_reducible refine Below.alloc ?_ ?hB _); case hB => (first | (with_reducible exact Nat.le_refl _) | omega | (simp; done) | (simp; omega))) | ((with_reducible refine Below.setCell ?_ ?hB _); case hB => (first | (with_reducible exact Nat.le_refl _) | omega | (simp; done) | (simp; omega))))); exact HB3.out⟩
  rw [size_seven]
  exact (own_seven HO.out (.inl (by omega))).mono (by omega) (by omega)

set_option maxRecDepth 100000 in
set_option maxHeartbeats 1600000 in
theorem specNewGap_calls (A : Option Addr) (cm : Nat) (m : List (List Int)) (i : Int) (w : World) (hr : Rd2 w w.heap.size A m) (hn : m.length ≤ maxLen) :
    Calls Try.prog 24 #[.agg #[.slice A m.length cm], .int .i64 i] w fun e w' => ∃ v, e = .returned (.tuple #[.agg #[v, .int .i64 (newGapR m i).2.1.w.arr, .int .i64 (newGapR m i).2.1.w.start, .int .i64 (newGapR m i).2.1.w.len, .int .i64 (newGapR m i).2.1.w.cap, .int .i64 (newGapR m i).2.1.fr, .int .i64 (newGapR m i).2.1.up], .bool (newGapR m i).2.2]) ∧ OwnM w' w.heap.size w'.heap.size v (newGapR m i).1 ∧ Below w.heap.size w w' := by
  obtain ⟨w0, hw0, hb0, hz0, hmg⟩ := enterMG A m.length cm w
  have HC := Lib.hid (specNewArray_calls A cm m i w0 ((hr.below hb0).more hb0.size) hn)
  have HNR : Hid (((newR m i).2.2 = true ∧ (newR m i).2.1.len = i) ∨ ((newR m i).2.2 = false ∧ newR m i = ([], ⟨0, 0, 0, 0⟩, false))) := Lib.hid (by
    unfold newR
    split
    · exact .inl ⟨rfl, rfl⟩
    · exact .inr ⟨rfl, rfl⟩)
  unfold newGapR
  generalize newR m i = R at *
  obtain ⟨M, x, p⟩ := R
  dsimp only at *
  have HB := Lib.hid hb0
  have HW := Lib.hid hw0
  have HMG := Lib.hid hmg
  have c0 := one_cell hmg.par
  clear hr hb0 hw0 hmg
  go_enter Try.func24, Try.ntmps24
  go_wp2_with fail
  rw [HW.out]
  refine HC.out.mono ?_
  rintro e w2 ⟨v, rfl, hv, hb2⟩
  obtain ⟨Av, cv, rfl, hcv⟩ := hv.form
  have HB2 := Lib.hid (HB.out.trans (hb2.mono HB.out.size))
  have hs2 := hb2.size
  obtain ⟨hb3, g1, g2, gz⟩ := enter2 w2 (.cells #[.slice Av M.length cv] 31) (.cells #[.int .i64 x.arr, .int .i64 x.start, .int .i64 x.len, .int .i64 x.cap] 32)
  obtain ⟨w3, hw3⟩ : ∃ w3, (w2.alloc (.cells #[.slice Av M.length cv] 31)).alloc (.cells #[.int .i64 x.arr, .int .i64 x.start, .int .i64 x.len, .int .i64 x.cap] 32) = w3 := ⟨_, rfl⟩
  rw [hw3] at hb3 g1 g2 gz
  have HM3 := Lib.hid ((HMG.out.below hb2).below hb3)
  have HB3 := Lib.hid (HB2.out.trans (hb3.mono HB2.out.size))
  have HO := Lib.hid (hv.below hb3)
  have HW3 := Lib.hid hw3
  have hs3 := hb3.size
  obtain ⟨k0, k1, k2, k3⟩ := four_cells g2
  have q0 := one_cell g1
  clear hb2 hb3 hw3 hv c0 g1 g2 gz
  obtain ⟨r0, r1, r2, r3, r4, r5, r6⟩ := gap_cells HM3.out.res
  obtain ⟨f0, f1, f2, f3, f4, f5, f6⟩ := gap_frozen HM3.out.res
  go_upto_region 2 with fail
  rw [HW3.out]
  rcases HNR.out with ⟨hp, hi⟩ | ⟨hp, hi⟩
  · subst hp
    subst hi
    go_wp2_with fail
    refine bodyPost_ret (v := .tuple #[.agg #[.slice Av M.length cv, .int .i64 x.arr, .int .i64 x.start, .int .i64 x.len, .int .i64 x.cap, .int .i64 0, .int .i64 x.len], .bool true]) (by simp [results, Try.results24, go_sem, r0, r1, r2, r3, r4, r5, r6]) rfl ⟨_, rfl, ?_, by (repeat (first | (with_reducible exact Below.refl _ _) | (with_reducible refine Below.drew ?_) | ((with_reducible refine Below.alloc ?_ ?hB _); case hB => (first | (with_reducible exact Nat.le_refl _) | omega | (simp; done) | (simp; omega))) | ((with_reducible refine Below.setCell ?_ ?hB _); case hB => (first | (with_reducible exact Nat.le_refl _) | omega | (simp; done) | (simp; omega))))); exact HB3.out⟩
    rw [size_seven]
    exact (own_seven HO.out (.inl (by omega))).mono (by omega) (by omega)
  · injection hi with h1 h2
    injection h2 with h2 h3
    subst h1 h2 h3
    go_wp2_with fail
    refine bodyPost_ret (v := .tuple #[.agg #[.slice none 0 0, .int .i64 0, .int .i64 0, .int .i64 0, .int .i64 0, .int .i64 0, .int .i64 0], .bool false]) (by simp [results, Try.results24, go_sem, r0, r1, r2, r3, r4, r5, r6]) rfl ⟨_, rfl, own_none _ _ _, by (repeat (first | (with_reducible exact Below.refl _ _) | (with_reducible refine Below.drew ?_) | ((with_reducible refine Below.alloc ?_ ?hB _); case hB => (first | (with_reducible exact Nat.le_refl _) | omega | (simp; done) | (simp; omega))) | ((with_reducible refine Below.setCell ?_ ?hB _); case hB => (first | (with_reducible exact Nat.le_refl _) | omega | (simp; done) | (simp; omega))))); exact HB3.out⟩
end Go.Proofs.Ytkclpppnjfhbpaa
