/-
  Keys in the program: arrays of sixteen bytes by value; the law's own helpers on them.
-/
import Derived.Test.YtoelagfcapdfpaaKyM
import Derived.Test.YtoelagfcapdfpaaLawW
import Derived.Deep.WholeRow
namespace Go.Proofs.Ytoelagfcapdfpaa
open Go.RowKit Go.ChangeShapes Go.WideShapes Go.Joins Go.Deep

/-- A key's cells. -/
abbrev keyA (k : List Int) : Array Value := (intV .u8 k).toArray
theorem keyA_size (k : List Int) : (keyA k).size = k.length := by simp [keyA, intV]
theorem keyA_at {k : List Int} {i : Nat} (h : i < k.length) : (keyA k)[i]? = some (.int .u8 k[i]) := by simp [keyA, intV, h]
theorem keyA_set (k : List Int) (i : Nat) (z : Int) : (keyA k).setIfInBounds i (.int .u8 z) = keyA (k.set i z) := by
  unfold keyA
  apply Array.ext_getElem?
  intro j
  simp [intV]
theorem take_set_snoc {z k : List Int} {j : Nat} (h : z.take j = k.take j) (hz : j < z.length) (hk : j < k.length) : (z.set j k[j]).take (j + 1) = k.take (j + 1) := by
  rw [List.take_succ_eq_append_getElem hk, List.take_succ_eq_append_getElem (by rw [List.length_set]; exact hz), List.take_set_of_le (Nat.le_refl _), h]
  simp
theorem info_key : (Try.prog.info? 28).map (fun i => (i.zero, i.size, i.bytes)) = some (some (.agg (keyA zeroK)), 16, 16) := by kernel_rfl

theorem keep_setA {w : World} {g : Nat} {p : Addr} {o : Obj} {u : Value} (z : w.heap[g]? = some o) (hn : p.block ≠ g) : (w.setCell p u).heap[g]? = some o :=
  (heap_setCell_other w p g u hn.symm).trans z
/-- A block that is a key. -/
def KeyBox (w : World) (g : Nat) (k : List Int) : Prop := w.heap[g]? = some (.cells (keyA k) 28) ∧ k.length = 16
section
variable {w w' : World} {g : Nat} {k : List Int}
theorem KeyBox.cell (h : KeyBox w g k) {i : Nat} (hi : i < k.length) : w.cell? ⟨g, i, none⟩ = some (.int .u8 k[i]) := by
  rw [cell_of_row w g i (keyA k) _ _ h.1, keyA_at hi]
theorem KeyBox.frozen (h : KeyBox w g k) (i : Nat) : w.frozen? ⟨g, i, none⟩ = false := by simp [World.frozen?, h.1]
theorem KeyBox.lt (h : KeyBox w g k) : g < w.heap.size := (Array.getElem?_eq_some_iff.1 h.1).1
theorem KeyBox.below (h : KeyBox w g k) (hb : Below w.heap.size w w') : KeyBox w' g k := ⟨(hb.block _ h.lt).trans h.1, h.2⟩
theorem KeyBox.other (h : KeyBox w g k) {p : Addr} (hp : p.block ≠ g) (v : Value) : KeyBox (w.setCell p v) g k := ⟨keep_setA h.1 hp, h.2⟩
theorem KeyBox.put (h : KeyBox w g k) (i : Nat) (z : Int) : KeyBox (w.setCell ⟨g, i, none⟩ (.int .u8 z)) g (k.set i z) := ⟨by rw [← keyA_set]; exact heap_setCell_same _ _ _ _ _ _ h.1, by rw [List.length_set]; exact h.2⟩
theorem KeyBox.cells {a0 a1 a2 a3 a4 a5 a6 a7 a8 a9 a10 a11 a12 a13 a14 a15 : Int} (h : KeyBox w g [a0, a1, a2, a3, a4, a5, a6, a7, a8, a9, a10, a11, a12, a13, a14, a15]) : w.cell? ⟨g, 0, none⟩ = some (.int .u8 a0) ∧ w.cell? ⟨g, 1, none⟩ = some (.int .u8 a1) ∧ w.cell? ⟨g, 2, none⟩ = some (.int .u8 a2) ∧ w.cell? ⟨g, 3, none⟩ = some (.int .u8 a3) ∧ w.cell? ⟨g, 4, none⟩ = some (.int .u8 a4) ∧ w.cell? ⟨g, 5, none⟩ = some (.int .u8 a5) ∧ w.cell? ⟨g, 6, none⟩ = some (.int .u8 a6) ∧ w.cell? ⟨g, 7, none⟩ = some (.int .u8 a7) ∧ w.cell? ⟨g, 8, none⟩ = some (.int .u8 a8) ∧ w.cell? ⟨g, 9, none⟩ = some (.int .u8 a9) ∧ w.cell? ⟨g, 10, none⟩ = some (.int .u8 a10) ∧ w.cell? ⟨g, 11, none⟩ = some (.int .u8 a11) ∧ w.cell? ⟨g, 12, none⟩ = some (.int .u8 a12) ∧ w.cell? ⟨g, 13, none⟩ = some (.int .u8 a13) ∧ w.cell? ⟨g, 14, none⟩ = some (.int .u8 a14) ∧ w.cell? ⟨g, 15, none⟩ = some (.int .u8 a15) := by
  have H := h.1
  simp [World.cell?, H, keyA, intV]
theorem KeyBox.froz (h : KeyBox w g k) : w.frozen? ⟨g, 0, none⟩ = false ∧ w.frozen? ⟨g, 1, none⟩ = false ∧ w.frozen? ⟨g, 2, none⟩ = false ∧ w.frozen? ⟨g, 3, none⟩ = false ∧ w.frozen? ⟨g, 4, none⟩ = false ∧ w.frozen? ⟨g, 5, none⟩ = false ∧ w.frozen? ⟨g, 6, none⟩ = false ∧ w.frozen? ⟨g, 7, none⟩ = false ∧ w.frozen? ⟨g, 8, none⟩ = false ∧ w.frozen? ⟨g, 9, none⟩ = false ∧ w.frozen? ⟨g, 10, none⟩ = false ∧ w.frozen? ⟨g, 11, none⟩ = false ∧ w.frozen? ⟨g, 12, none⟩ = false ∧ w.frozen? ⟨g, 13, none⟩ = false ∧ w.frozen? ⟨g, 14, none⟩ = false ∧ w.frozen? ⟨g, 15, none⟩ = false := by
  have H := h.1
  simp [World.frozen?, H]
theorem KeyBox.stored {a0 a1 a2 a3 a4 a5 a6 a7 a8 a9 a10 a11 a12 a13 a14 a15 : Int} (h : KeyBox w g k) : KeyBox ((((((((((((((((w.setCell ⟨g, 0, none⟩ (.int .u8 a0)).setCell ⟨g, 1, none⟩ (.int .u8 a1)).setCell ⟨g, 2, none⟩ (.int .u8 a2)).setCell ⟨g, 3, none⟩ (.int .u8 a3)).setCell ⟨g, 4, none⟩ (.int .u8 a4)).setCell ⟨g, 5, none⟩ (.int .u8 a5)).setCell ⟨g, 6, none⟩ (.int .u8 a6)).setCell ⟨g, 7, none⟩ (.int .u8 a7)).setCell ⟨g, 8, none⟩ (.int .u8 a8)).setCell ⟨g, 9, none⟩ (.int .u8 a9)).setCell ⟨g, 10, none⟩ (.int .u8 a10)).setCell ⟨g, 11, none⟩ (.int .u8 a11)).setCell ⟨g, 12, none⟩ (.int .u8 a12)).setCell ⟨g, 13, none⟩ (.int .u8 a13)).setCell ⟨g, 14, none⟩ (.int .u8 a14)).setCell ⟨g, 15, none⟩ (.int .u8 a15)) g [a0, a1, a2, a3, a4, a5, a6, a7, a8, a9, a10, a11, a12, a13, a14, a15] := by
  obtain ⟨u0, u1, u2, u3, u4, u5, u6, u7, u8, u9, u10, u11, u12, u13, u14, u15, rfl⟩ : ∃ u0 u1 u2 u3 u4 u5 u6 u7 u8 u9 u10 u11 u12 u13 u14 u15, k = [u0, u1, u2, u3, u4, u5, u6, u7, u8, u9, u10, u11, u12, u13, u14, u15] := by
    match k, h.2 with
    | [u0, u1, u2, u3, u4, u5, u6, u7, u8, u9, u10, u11, u12, u13, u14, u15], _ => exact ⟨u0, u1, u2, u3, u4, u5, u6, u7, u8, u9, u10, u11, u12, u13, u14, u15, rfl⟩
  exact (((((((((((((((h.put 0 a0).put 1 a1).put 2 a2).put 3 a3).put 4 a4).put 5 a5).put 6 a6).put 7 a7).put 8 a8).put 9 a9).put 10 a10).put 11 a11).put 12 a12).put 13 a13).put 14 a14).put 15 a15
end
theorem Below.setK {B : Nat} {v w : World} (h : Below B v w) {g : Nat} (hg : B ≤ g) (a0 a1 a2 a3 a4 a5 a6 a7 a8 a9 a10 a11 a12 a13 a14 a15 : Int) : Below B v ((((((((((((((((w.setCell ⟨g, 0, none⟩ (.int .u8 a0)).setCell ⟨g, 1, none⟩ (.int .u8 a1)).setCell ⟨g, 2, none⟩ (.int .u8 a2)).setCell ⟨g, 3, none⟩ (.int .u8 a3)).setCell ⟨g, 4, none⟩ (.int .u8 a4)).setCell ⟨g, 5, none⟩ (.int .u8 a5)).setCell ⟨g, 6, none⟩ (.int .u8 a6)).setCell ⟨g, 7, none⟩ (.int .u8 a7)).setCell ⟨g, 8, none⟩ (.int .u8 a8)).setCell ⟨g, 9, none⟩ (.int .u8 a9)).setCell ⟨g, 10, none⟩ (.int .u8 a10)).setCell ⟨g, 11, none⟩ (.int .u8 a11)).setCell ⟨g, 12, none⟩ (.int .u8 a12)).setCell ⟨g, 13, none⟩ (.int .u8 a13)).setCell ⟨g, 14, none⟩ (.int .u8 a14)).setCell ⟨g, 15, none⟩ (.int .u8 a15)) :=
  (((((((((((((((h.setCell (p := ⟨g, 0, none⟩) hg _).setCell (p := ⟨g, 1, none⟩) hg _).setCell (p := ⟨g, 2, none⟩) hg _).setCell (p := ⟨g, 3, none⟩) hg _).setCell (p := ⟨g, 4, none⟩) hg _).setCell (p := ⟨g, 5, none⟩) hg _).setCell (p := ⟨g, 6, none⟩) hg _).setCell (p := ⟨g, 7, none⟩) hg _).setCell (p := ⟨g, 8, none⟩) hg _).setCell (p := ⟨g, 9, none⟩) hg _).setCell (p := ⟨g, 10, none⟩) hg _).setCell (p := ⟨g, 11, none⟩) hg _).setCell (p := ⟨g, 12, none⟩) hg _).setCell (p := ⟨g, 13, none⟩) hg _).setCell (p := ⟨g, 14, none⟩) hg _).setCell (p := ⟨g, 15, none⟩) hg _
theorem list16 {k : List Int} (h : k.length = 16) : ∃ a0 a1 a2 a3 a4 a5 a6 a7 a8 a9 a10 a11 a12 a13 a14 a15, k = [a0, a1, a2, a3, a4, a5, a6, a7, a8, a9, a10, a11, a12, a13, a14, a15] := by
  match k, h with
  | [a0, a1, a2, a3, a4, a5, a6, a7, a8, a9, a10, a11, a12, a13, a14, a15], _ => exact ⟨a0, a1, a2, a3, a4, a5, a6, a7, a8, a9, a10, a11, a12, a13, a14, a15, rfl⟩

set_option maxRecDepth 100000 in
theorem toByteA16_calls (k : List Int) (w : World) (hk : k.length = 16) :
    Calls Try.prog 26 #[.agg (keyA k)] w fun e w' => e = .returned (.agg (keyA k)) ∧ Below w.heap.size w w' := by
  have hs := keyA_size k
  obtain ⟨hb, g1, g2, g3, gz⟩ := enter3 w (.cells (keyA k) 28) (.cells (keyA zeroK) 28) (.cells (keyA zeroK) 28)
  obtain ⟨w0, hw0⟩ : ∃ w0, ((w.alloc (.cells (keyA k) 28)).alloc (.cells (keyA zeroK) 28)).alloc (.cells (keyA zeroK) 28) = w0 := ⟨_, rfl⟩
  rw [hw0] at hb g1 g2 g3 gz
  have HB := Lib.hid hb
  have HG := Lib.hid (show KeyBox w0 w.heap.size k ∧ KeyBox w0 (w.heap.size + 1) zeroK ∧ KeyBox w0 (w.heap.size + 1 + 1) zeroK from ⟨⟨g1, hk⟩, ⟨g2, by decide⟩, ⟨g3, by decide⟩⟩)
  have HW := Lib.hid (show (((w.alloc (.cells (keyA k) 28)).alloc (.cells #[.int .u8 0, .int .u8 0, .int .u8 0, .int .u8 0, .int .u8 0, .int .u8 0, .int .u8 0, .int .u8 0, .int .u8 0, .int .u8 0, .int .u8 0, .int .u8 0, .int .u8 0, .int .u8 0, .int .u8 0, .int .u8 0] 28)).alloc (.cells #[.int .u8 0, .int .u8 0, .int .u8 0, .int .u8 0, .int .u8 0, .int .u8 0, .int .u8 0, .int .u8 0, .int .u8 0, .int .u8 0, .int .u8 0, .int .u8 0, .int .u8 0, .int .u8 0, .int .u8 0, .int .u8 0] 28)) = w0 from hw0)
  clear hb g1 g2 g3 gz hw0
  go_enter Try.func26, Try.ntmps26
  go_wp2_with fail
  rw [HW.out]
  go_loopw [4] (fun i wr => ∃ (j : Nat) (z : List Int), j ≤ 16 ∧ i = .int .i64 j ∧ z.take j = k.take j ∧ KeyBox wr w.heap.size k ∧ KeyBox wr (w.heap.size + 1) zeroK ∧ KeyBox wr (w.heap.size + 1 + 1) z ∧ Below w.heap.size w wr) (fun i _ => 16 - (intOf i).toNat)
  case atStart => exact ⟨0, zeroK, Nat.zero_le _, rfl, by rw [List.take_zero, List.take_zero], HG.out.1, HG.out.2.1, HG.out.2.2, HB.out⟩
  case round =>
    obtain ⟨j, z, hj, rfl, ht, k1, k2, k3, hb⟩ := hrel
    have HB2 := Lib.hid hb
    have HK1 := Lib.hid k1
    have HK2 := Lib.hid k2
    have HK3 := Lib.hid k3
    have HT := Lib.hid ht
    have hzl := k3.2
    by_cases hlt : j < 16
    · have c1 := k1.cell (i := j) (by omega)
      have c2 := k3.cell (i := j) (by omega)
      have cf := k3.frozen j
      have HN := Lib.hid (k3.put j k[j])
      have HTN := Lib.hid (show (z.set j k[j]).take (j + 1) = k.take (j + 1) from take_set_snoc ht (by omega) (by omega))
      clear hb k1 k2 k3 ht
      go_wp2_with fail
      go_roundw
      case rel => exact ⟨j + 1, _, by omega, by go_num, HTN.out, HK1.out.other (show w.heap.size + 1 + 1 ≠ w.heap.size by omega) _, HK2.out.other (show w.heap.size + 1 + 1 ≠ w.heap.size + 1 by omega) _, HN.out, by (repeat (first | (with_reducible exact Below.refl _ _) | (with_reducible refine Below.drew ?_) | ((with_reducible refine Below.alloc ?_ ?hB _); case hB => (first | (with_reducible exact Nat.le_refl _) | omega | (simp; done) | (simp; omega))) | ((with_reducible refine Below.setCell ?_ ?hB _); case hB => (first | (with_reducible exact Nat.le_refl _) | omega | (simp; done) | (simp; omega))))); first | done | exact HB2.out⟩
      case measure => simp [intOf]; omega
    · obtain rfl : j = 16 := by omega
      obtain rfl : z = k := by
        have hl := hzl
        have h := ht
        rw [List.take_of_length_le (by omega), List.take_of_length_le (by omega)] at h
        exact h
      obtain ⟨a0, a1, a2, a3, a4, a5, a6, a7, a8, a9, a10, a11, a12, a13, a14, a15, rfl⟩ := list16 hk
      obtain ⟨c0, c1, c2, c3, c4, c5, c6, c7, c8, c9, c10, c11, c12, c13, c14, c15⟩ := k3.cells
      obtain ⟨d0, d1, d2, d3, d4, d5, d6, d7, d8, d9, d10, d11, d12, d13, d14, d15⟩ := (show KeyBox wr (w.heap.size + 1) [0, 0, 0, 0, 0, 0, 0, 0, 0, 0, 0, 0, 0, 0, 0, 0] from k2).cells
      obtain ⟨f0, f1, f2, f3, f4, f5, f6, f7, f8, f9, f10, f11, f12, f13, f14, f15⟩ := k2.froz
      clear hb k1 k2 k3 ht
      go_wp2_with fail
      have HS := (KeyBox.stored (a0 := a0) (a1 := a1) (a2 := a2) (a3 := a3) (a4 := a4) (a5 := a5) (a6 := a6) (a7 := a7) (a8 := a8) (a9 := a9) (a10 := a10) (a11 := a11) (a12 := a12) (a13 := a13) (a14 := a14) (a15 := a15) HK2.out).cells
      have HBS := Below.setK HB2.out (show w.heap.size ≤ w.heap.size + 1 by omega) a0 a1 a2 a3 a4 a5 a6 a7 a8 a9 a10 a11 a12 a13 a14 a15
      generalize ((((((((((((((((wr.setCell ⟨w.heap.size + 1, 0, none⟩ (.int .u8 a0)).setCell ⟨w.heap.size + 1, 1, none⟩ (.int .u8 a1)).setCell ⟨w.heap.size + 1, 2, none⟩ (.int .u8 a2)).setCell ⟨w.heap.size + 1, 3, none⟩ (.int .u8 a3)).setCell ⟨w.heap.size + 1, 4, none⟩ (.int .u8 a4)).setCell ⟨w.heap.size + 1, 5, none⟩ (.int .u8 a5)).setCell ⟨w.heap.size + 1, 6, none⟩ (.int .u8 a6)).setCell ⟨w.heap.size + 1, 7, none⟩ (.int .u8 a7)).setCell ⟨w.heap.size + 1, 8, none⟩ (.int .u8 a8)).setCell ⟨w.heap.size + 1, 9, none⟩ (.int .u8 a9)).setCell ⟨w.heap.size + 1, 10, none⟩ (.int .u8 a10)).setCell ⟨w.heap.size + 1, 11, none⟩ (.int .u8 a11)).setCell ⟨w.heap.size + 1, 12, none⟩ (.int .u8 a12)).setCell ⟨w.heap.size + 1, 13, none⟩ (.int .u8 a13)).setCell ⟨w.heap.size + 1, 14, none⟩ (.int .u8 a14)).setCell ⟨w.heap.size + 1, 15, none⟩ (.int .u8 a15)) = wz at *
      obtain ⟨e0, e1, e2, e3, e4, e5, e6, e7, e8, e9, e10, e11, e12, e13, e14, e15⟩ := HS
      exact bodyPost_ret (v := .agg #[.int .u8 a0, .int .u8 a1, .int .u8 a2, .int .u8 a3, .int .u8 a4, .int .u8 a5, .int .u8 a6, .int .u8 a7, .int .u8 a8, .int .u8 a9, .int .u8 a10, .int .u8 a11, .int .u8 a12, .int .u8 a13, .int .u8 a14, .int .u8 a15]) (by simp [results, Try.results26, go_sem, e0, e1, e2, e3, e4, e5, e6, e7, e8, e9, e10, e11, e12, e13, e14, e15]) rfl ⟨rfl, HBS⟩
end Go.Proofs.Ytoelagfcapdfpaa
