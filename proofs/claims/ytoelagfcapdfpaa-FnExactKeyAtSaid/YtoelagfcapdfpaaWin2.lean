/-
  Windows that are answered: SliceThree of spec and impl, l2Slice of spec.
-/
import Derived.Test.YtoelagfcapdfpaaImplC
namespace Go.Proofs.Ytoelagfcapdfpaa
open Go.RowKit

/-- A memory, a window and the answer's block, zero as yet, as a function has them. -/
structure MWR (W : World) (g : Nat) (A : Option Addr) (n c : Nat) (a s l k : Int) : Prop where
  mw : MW W g A n c a s l k
  res : W.heap[g + 1 + 1]? = some (.cells #[.int .i64 0, .int .i64 0, .int .i64 0, .int .i64 0] 33)
theorem MWR.below {W W' : World} {g : Nat} {A : Option Addr} {n c : Nat} {a s l k : Int} (h : MWR W g A n c a s l k) (hb : Below W.heap.size W W') : MWR W' g A n c a s l k :=
  ⟨h.mw.below hb, (hb.block _ (Array.getElem?_eq_some_iff.1 h.res).1).trans h.res⟩
theorem enterMWR (A : Option Addr) (n c : Nat) (a s l k : Int) (w : World) :
    ∃ w0, ((w.alloc (.cells #[.slice A n c] 31)).alloc (.cells #[.int .i64 a, .int .i64 s, .int .i64 l, .int .i64 k] 33)).alloc (.cells #[.int .i64 0, .int .i64 0, .int .i64 0, .int .i64 0] 33) = w0 ∧ Below w.heap.size w w0 ∧ w0.heap.size = w.heap.size + 3 ∧ MWR w0 w.heap.size A n c a s l k := by
  obtain ⟨h1, h2, h3, h4, h5⟩ := enter3 w (.cells #[.slice A n c] 31) (.cells #[.int .i64 a, .int .i64 s, .int .i64 l, .int .i64 k] 33) (.cells #[.int .i64 0, .int .i64 0, .int .i64 0, .int .i64 0] 33)
  exact ⟨_, rfl, h1, h5, ⟨h2, h3⟩, h4⟩
theorem four_frozen {w : World} {g : Nat} {u0 u1 u2 u3 : Value} {t : TypeId} (h : w.heap[g]? = some (.cells #[u0, u1, u2, u3] t)) :
    w.frozen? ⟨g, 0, none⟩ = false ∧ w.frozen? ⟨g, 1, none⟩ = false ∧ w.frozen? ⟨g, 2, none⟩ = false ∧ w.frozen? ⟨g, 3, none⟩ = false := by simp [World.frozen?, h]

/-- What SliceThree answers. -/
def sliceV (m : List (List Int)) (x : Win) (i j k : Int) : Value :=
  if WinOK m x ∧ 0 ≤ i ∧ i ≤ j ∧ j ≤ k ∧ k ≤ x.cap then .tuple #[.agg #[.int .i64 x.arr, .int .i64 (x.start + i), .int .i64 (j - i), .int .i64 (k - i)], .bool true]
  else .tuple #[.agg #[.int .i64 0, .int .i64 0, .int .i64 0, .int .i64 0], .bool false]

set_option maxRecDepth 100000 in
set_option maxHeartbeats 800000 in
theorem implSliceThree_calls (A : Option Addr) (cm : Nat) (m : List (List Int)) (x : Win) (i j k : Int) (w : World) (hr : Rd2 w w.heap.size A m) (hn : m.length ≤ maxLen) (hx : WArg x) :
    Calls Try.prog 96 #[.agg #[.slice A m.length cm], .agg #[.int .i64 x.arr, .int .i64 x.start, .int .i64 x.len, .int .i64 x.cap], .int .i64 i, .int .i64 j, .int .i64 k] w fun e w' => e = .returned (sliceV m x i j k) ∧ Below w.heap.size w w' := by
  obtain ⟨w0, hw0, hb0, hz0, hmw⟩ := enterMWR A m.length cm x.arr x.start x.len x.cap w
  have HC := Lib.hid (areOne_calls A cm m x w0 ((hr.below hb0).more hb0.size) hn hx (w.heap.size + 1 + 1 + 1) (by omega))
  have HB := Lib.hid hb0
  have HW := Lib.hid hw0
  have HMW := Lib.hid hmw
  have hrb := run_win1
  clear hr hb0 hmw hw0
  go_enter Try.func96, Try.ntmps96
  go_wp2_with fail
  rw [HW.out]
  clear hrb
  refine HC.out.mono ?_
  rintro e w2 ⟨rfl, hb2⟩
  have HB2 := Lib.hid (HB.out.trans (hb2.mono HB.out.size))
  have hmw2 := HMW.out.below hb2
  have HR2 := Lib.hid hmw2.res
  obtain ⟨d0, d1, d2, d3⟩ := four_cells hmw2.mw.win
  obtain ⟨r0, r1, r2, r3⟩ := four_cells hmw2.res
  obtain ⟨f0, f1, f2, f3⟩ := four_frozen hmw2.res
  clear hb2 hmw2
  by_cases hm : WinOK m x
  · have hd : decide (WinOK m x) = true := decide_eq_true hm
    have HM := Lib.hid hm
    obtain ⟨n, s, l, c, rfl, hnl, hlc, hsc, h1, h64, h16⟩ := hm.nat
    clear hm
    dsimp only at *
    by_cases h0 : 0 ≤ i
    · by_cases h2 : i ≤ j
      · by_cases h3 : j ≤ k
        · by_cases h4 : k ≤ c
          · have HV : Hid (sliceV m ⟨n, s, l, c⟩ i j k = .tuple #[.agg #[.int .i64 n, .int .i64 (s + i), .int .i64 (j - i), .int .i64 (k - i)], .bool true]) := Lib.hid (by rw [sliceV, if_pos ⟨HM.out, h0, h2, h3, h4⟩])
            go_wp2_with fail
            refine bodyPost_ret (v := .tuple #[.agg #[.int .i64 n, .int .i64 (s + i), .int .i64 (j - i), .int .i64 (k - i)], .bool true]) (by simp [results, Try.results96, go_sem, r0, r1, r2, r3]) rfl ⟨by rw [HV.out], by (repeat (first | (with_reducible exact Below.refl _ _) | (with_reducible refine Below.drew ?_) | ((with_reducible refine Below.alloc ?_ ?hB _); case hB => (first | (with_reducible exact Nat.le_refl _) | omega | (simp; done) | (simp; omega))) | ((with_reducible refine Below.setCell ?_ ?hB _); case hB => (first | (with_reducible exact Nat.le_refl _) | omega | (simp; done) | (simp; omega))))); exact HB2.out⟩
          · have HV : Hid (sliceV m ⟨n, s, l, c⟩ i j k = .tuple #[.agg #[.int .i64 0, .int .i64 0, .int .i64 0, .int .i64 0], .bool false]) := Lib.hid (by rw [sliceV, if_neg (fun h => h4 h.2.2.2.2)])
            go_wp2_with fail
            refine bodyPost_ret (v := .tuple #[.agg #[.int .i64 0, .int .i64 0, .int .i64 0, .int .i64 0], .bool false]) (by simp [results, Try.results96, go_sem, r0, r1, r2, r3]) rfl ⟨by rw [HV.out], by (repeat (first | (with_reducible exact Below.refl _ _) | (with_reducible refine Below.drew ?_) | ((with_reducible refine Below.alloc ?_ ?hB _); case hB => (first | (with_reducible exact Nat.le_refl _) | omega | (simp; done) | (simp; omega))) | ((with_reducible refine Below.setCell ?_ ?hB _); case hB => (first | (with_reducible exact Nat.le_refl _) | omega | (simp; done) | (simp; omega))))); exact HB2.out⟩
        · have HV : Hid (sliceV m ⟨n, s, l, c⟩ i j k = .tuple #[.agg #[.int .i64 0, .int .i64 0, .int .i64 0, .int .i64 0], .bool false]) := Lib.hid (by rw [sliceV, if_neg (fun h => h3 h.2.2.2.1)])
          go_wp2_with fail
          refine bodyPost_ret (v := .tuple #[.agg #[.int .i64 0, .int .i64 0, .int .i64 0, .int .i64 0], .bool false]) (by simp [results, Try.results96, go_sem, r0, r1, r2, r3]) rfl ⟨by rw [HV.out], by (repeat (first | (with_reducible exact Below.refl _ _) | (with_reducible refine Below.drew ?_) | ((with_reducible refine Below.alloc ?_ ?hB _); case hB => (first | (with_reducible exact Nat.le_refl _) | omega | (simp; done) | (simp; omega))) | ((with_reducible refine Below.setCell ?_ ?hB _); case hB => (first | (with_reducible exact Nat.le_refl _) | omega | (simp; done) | (simp; omega))))); exact HB2.out⟩
      · have HV : Hid (sliceV m ⟨n, s, l, c⟩ i j k = .tuple #[.agg #[.int .i64 0, .int .i64 0, .int .i64 0, .int .i64 0], .bool false]) := Lib.hid (by rw [sliceV, if_neg (fun h => h2 h.2.2.1)])
        go_wp2_with fail
        refine bodyPost_ret (v := .tuple #[.agg #[.int .i64 0, .int .i64 0, .int .i64 0, .int .i64 0], .bool false]) (by simp [results, Try.results96, go_sem, r0, r1, r2, r3]) rfl ⟨by rw [HV.out], by (repeat (first | (with_reducible exact Below.refl _ _) | (with_reducible refine Below.drew ?_) | ((with_reducible refine Below.alloc ?_ ?hB _); case hB => (first | (with_reducible exact Nat.le_refl _) | omega | (simp; done) | (simp; omega))) | ((with_reducible refine Below.setCell ?_ ?hB _); case hB => (first | (with_reducible exact Nat.le_refl _) | omega | (simp; done) | (simp; omega))))); exact HB2.out⟩
    · have HV : Hid (sliceV m ⟨n, s, l, c⟩ i j k = .tuple #[.agg #[.int .i64 0, .int .i64 0, .int .i64 0, .int .i64 0], .bool false]) := Lib.hid (by rw [sliceV, if_neg (fun h => h0 h.2.1)])
      go_wp2_with fail
      refine bodyPost_ret (v := .tuple #[.agg #[.int .i64 0, .int .i64 0, .int .i64 0, .int .i64 0], .bool false]) (by simp [results, Try.results96, go_sem, r0, r1, r2, r3]) rfl ⟨by rw [HV.out], by (repeat (first | (with_reducible exact Below.refl _ _) | (with_reducible refine Below.drew ?_) | ((with_reducible refine Below.alloc ?_ ?hB _); case hB => (first | (with_reducible exact Nat.le_refl _) | omega | (simp; done) | (simp; omega))) | ((with_reducible refine Below.setCell ?_ ?hB _); case hB => (first | (with_reducible exact Nat.le_refl _) | omega | (simp; done) | (simp; omega))))); exact HB2.out⟩
  · have hd : decide (WinOK m x) = false := decide_eq_false hm
    have HV : Hid (sliceV m x i j k = .tuple #[.agg #[.int .i64 0, .int .i64 0, .int .i64 0, .int .i64 0], .bool false]) := Lib.hid (by rw [sliceV, if_neg (fun h => hm h.1)])
    clear hm
    go_wp2_with fail
    refine bodyPost_ret (v := .tuple #[.agg #[.int .i64 0, .int .i64 0, .int .i64 0, .int .i64 0], .bool false]) (by simp [results, Try.results96, go_sem, r0, r1, r2, r3]) rfl ⟨by rw [HV.out], by (repeat (first | (with_reducible exact Below.refl _ _) | (with_reducible refine Below.drew ?_) | ((with_reducible refine Below.alloc ?_ ?hB _); case hB => (first | (with_reducible exact Nat.le_refl _) | omega | (simp; done) | (simp; omega))) | ((with_reducible refine Below.setCell ?_ ?hB _); case hB => (first | (with_reducible exact Nat.le_refl _) | omega | (simp; done) | (simp; omega))))); exact HB2.out⟩

set_option maxRecDepth 100000 in
theorem specSlice_calls (a s l c i j k : Int) (w : World) (h1 : -1000 ≤ s ∧ s ≤ 1000) (h2 : 0 ≤ i ∧ i ≤ 1000) (h3 : 0 ≤ j ∧ j ≤ 1000) (h4 : 0 ≤ k ∧ k ≤ 1000) :
    Calls Try.prog 98 #[.agg #[.int .i64 a, .int .i64 s, .int .i64 l, .int .i64 c], .int .i64 i, .int .i64 j, .int .i64 k] w fun e w' => e = .returned (.agg #[.int .i64 a, .int .i64 (s + i), .int .i64 (j - i), .int .i64 (k - i)]) ∧ Below w.heap.size w w' := by
  obtain ⟨h11, h12⟩ := h1
  obtain ⟨h21, h22⟩ := h2
  obtain ⟨h31, h32⟩ := h3
  obtain ⟨h41, h42⟩ := h4
  go_enter Try.func98, Try.ntmps98
  go_wp2_with fail
  refine bodyPost_ret (v := .agg #[.int .i64 a, .int .i64 (s + i), .int .i64 (j - i), .int .i64 (k - i)]) (by simp [results, Try.results98, go_sem]) rfl ⟨rfl, ?_⟩
  (repeat (first | (with_reducible exact Below.refl _ _) | (with_reducible refine Below.drew ?_) | ((with_reducible refine Below.alloc ?_ ?hB _); case hB => (first | (with_reducible exact Nat.le_refl _) | omega | (simp; done) | (simp; omega))) | ((with_reducible refine Below.setCell ?_ ?hB _); case hB => (first | (with_reducible exact Nat.le_refl _) | omega | (simp; done) | (simp; omega)))))

end Go.Proofs.Ytoelagfcapdfpaa
