/-
  WholeWindow of spec and impl.
-/
import Derived.Test.YtmcabnbmjbepjaaDoorWin2
namespace Go.Proofs.YtmcabnbmjbepjaaDoor
open Go.RowKit

/-- What WholeWindow answers. -/
def wholeV (m : List (List Int)) (a : Int) : Value :=
  if MemOK m ∧ 0 ≤ a ∧ a < m.length then .tuple #[.agg #[.int .i64 a, .int .i64 0, .int .i64 (m.getD a.toNat []).length, .int .i64 (m.getD a.toNat []).length], .bool true]
  else .tuple #[.agg #[.int .i64 0, .int .i64 0, .int .i64 0, .int .i64 0], .bool false]
/-- A memory and the answer's block, zero as yet, as a function has them. -/
structure MR (W : World) (g : Nat) (A : Option Addr) (n c : Nat) : Prop where
  mem : W.heap[g]? = some (.cells #[.slice A n c] 26)
  res : W.heap[g + 1]? = some (.cells #[.int .i64 0, .int .i64 0, .int .i64 0, .int .i64 0] 28)
theorem MR.below {W W' : World} {g : Nat} {A : Option Addr} {n c : Nat} (h : MR W g A n c) (hb : Below W.heap.size W W') : MR W' g A n c :=
  ⟨(hb.block _ (Array.getElem?_eq_some_iff.1 h.mem).1).trans h.mem, (hb.block _ (Array.getElem?_eq_some_iff.1 h.res).1).trans h.res⟩
theorem enterMR (A : Option Addr) (n c : Nat) (w : World) :
    ∃ w0, (w.alloc (.cells #[.slice A n c] 26)).alloc (.cells #[.int .i64 0, .int .i64 0, .int .i64 0, .int .i64 0] 28) = w0 ∧ Below w.heap.size w w0 ∧ w0.heap.size = w.heap.size + 2 ∧ MR w0 w.heap.size A n c := by
  obtain ⟨h1, h2, h3, h4⟩ := enter2 w (.cells #[.slice A n c] 26) (.cells #[.int .i64 0, .int .i64 0, .int .i64 0, .int .i64 0] 28)
  exact ⟨_, rfl, h1, h4, h2, h3⟩

set_option maxRecDepth 100000 in
set_option maxHeartbeats 800000 in
theorem implWholeWindow_calls (A : Option Addr) (cm : Nat) (m : List (List Int)) (a : Int) (w : World) (hr : Rd2 w w.heap.size A m) (hn : m.length ≤ maxLen) :
    Calls Tryd.prog 19 #[.agg #[.slice A m.length cm], .int .i64 a] w fun e w' => e = .returned (wholeV m a) ∧ Below w.heap.size w w' := by
  obtain ⟨w0, hw0, hb0, hz0, hmw⟩ := enterMR A m.length cm w
  have HC := Lib.hid (implIsMemory_calls A cm m w0 ((hr.below hb0).more hb0.size) hn)
  have HB := Lib.hid hb0
  have HR := Lib.hid hr
  have HW := Lib.hid hw0
  have HMW := Lib.hid hmw
  clear hr hb0 hmw hw0
  go_enter Tryd.func19, Tryd.ntmps19
  go_wp2_with fail
  rw [HW.out]
  refine HC.out.mono ?_
  rintro e w2 ⟨rfl, hb2⟩
  have HB2 := Lib.hid (HB.out.trans (hb2.mono HB.out.size))
  have HR2 := Lib.hid (HR.out.below HB2.out)
  have hmw2 := HMW.out.below hb2
  have c1 := one_cell hmw2.mem
  obtain ⟨r0, r1, r2, r3⟩ := four_cells hmw2.res
  obtain ⟨f0, f1, f2, f3⟩ := four_frozen hmw2.res
  clear hb2 hmw2
  by_cases hm : MemOK m
  · have hd : decide (MemOK m) = true := decide_eq_true hm
    have HM := Lib.hid hm
    have h16 := hm.1
    clear hm
    by_cases h0 : 0 ≤ a
    · by_cases h1 : a < m.length
      · obtain ⟨n, rfl⟩ : ∃ n : Nat, a = n := ⟨a.toNat, by omega⟩
        have hlt : n < m.length := by omega
        have hn1 : ¬ m.length ≤ n := by omega
        obtain ⟨b, off, Ai, ci, rfl, hbb, hc, hci, hcm, hri⟩ := HR2.out.at_ hlt
        have HV : Hid (wholeV m n = .tuple #[.agg #[.int .i64 n, .int .i64 0, .int .i64 m[n].length, .int .i64 m[n].length], .bool true]) := Lib.hid (by rw [wholeV, if_pos ⟨HM.out, h0, h1⟩]; simp only [Int.toNat_natCast, getD_eq hlt])
        clear hri
        go_wp2_with fail
        refine bodyPost_ret (v := .tuple #[.agg #[.int .i64 n, .int .i64 0, .int .i64 m[n].length, .int .i64 m[n].length], .bool true]) (by simp [results, Tryd.results19, go_sem, r0, r1, r2, r3]) rfl ⟨by rw [HV.out], by (repeat (first | (with_reducible exact Below.refl _ _) | (with_reducible refine Below.drew ?_) | ((with_reducible refine Below.alloc ?_ ?hB _); case hB => (first | (with_reducible exact Nat.le_refl _) | omega | (simp; done) | (simp; omega))) | ((with_reducible refine Below.setCell ?_ ?hB _); case hB => (first | (with_reducible exact Nat.le_refl _) | omega | (simp; done) | (simp; omega))))); exact HB2.out⟩
      · have HV : Hid (wholeV m a = .tuple #[.agg #[.int .i64 0, .int .i64 0, .int .i64 0, .int .i64 0], .bool false]) := Lib.hid (by rw [wholeV, if_neg (fun h => h1 h.2.2)])
        go_wp2_with fail
        refine bodyPost_ret (v := .tuple #[.agg #[.int .i64 0, .int .i64 0, .int .i64 0, .int .i64 0], .bool false]) (by simp [results, Tryd.results19, go_sem, r0, r1, r2, r3]) rfl ⟨by rw [HV.out], by (repeat (first | (with_reducible exact Below.refl _ _) | (with_reducible refine Below.drew ?_) | ((with_reducible refine Below.alloc ?_ ?hB _); case hB => (first | (with_reducible exact Nat.le_refl _) | omega | (simp; done) | (simp; omega))) | ((with_reducible refine Below.setCell ?_ ?hB _); case hB => (first | (with_reducible exact Nat.le_refl _) | omega | (simp; done) | (simp; omega))))); exact HB2.out⟩
    · have HV : Hid (wholeV m a = .tuple #[.agg #[.int .i64 0, .int .i64 0, .int .i64 0, .int .i64 0], .bool false]) := Lib.hid (by rw [wholeV, if_neg (fun h => h0 h.2.1)])
      go_wp2_with fail
      refine bodyPost_ret (v := .tuple #[.agg #[.int .i64 0, .int .i64 0, .int .i64 0, .int .i64 0], .bool false]) (by simp [results, Tryd.results19, go_sem, r0, r1, r2, r3]) rfl ⟨by rw [HV.out], by (repeat (first | (with_reducible exact Below.refl _ _) | (with_reducible refine Below.drew ?_) | ((with_reducible refine Below.alloc ?_ ?hB _); case hB => (first | (with_reducible exact Nat.le_refl _) | omega | (simp; done) | (simp; omega))) | ((with_reducible refine Below.setCell ?_ ?hB _); case hB => (first | (with_reducible exact Nat.le_refl _) | omega | (simp; done) | (simp; omega))))); exact HB2.out⟩
  · have hd : decide (MemOK m) = false := decide_eq_false hm
    have HV : Hid (wholeV m a = .tuple #[.agg #[.int .i64 0, .int .i64 0, .int .i64 0, .int .i64 0], .bool false]) := Lib.hid (by rw [wholeV, if_neg (fun h => hm h.1)])
    clear hm
    go_wp2_with fail
    refine bodyPost_ret (v := .tuple #[.agg #[.int .i64 0, .int .i64 0, .int .i64 0, .int .i64 0], .bool false]) (by simp [results, Tryd.results19, go_sem, r0, r1, r2, r3]) rfl ⟨by rw [HV.out], by (repeat (first | (with_reducible exact Below.refl _ _) | (with_reducible refine Below.drew ?_) | ((with_reducible refine Below.alloc ?_ ?hB _); case hB => (first | (with_reducible exact Nat.le_refl _) | omega | (simp; done) | (simp; omega))) | ((with_reducible refine Below.setCell ?_ ?hB _); case hB => (first | (with_reducible exact Nat.le_refl _) | omega | (simp; done) | (simp; omega))))); exact HB2.out⟩

set_option maxRecDepth 100000 in
set_option maxHeartbeats 800000 in
theorem specWholeWindow_calls (A : Option Addr) (cm : Nat) (m : List (List Int)) (a : Int) (w : World) (hr : Rd2 w w.heap.size A m) (hn : m.length ≤ maxLen) :
    Calls Tryd.prog 20 #[.agg #[.slice A m.length cm], .int .i64 a] w fun e w' => e = .returned (wholeV m a) ∧ Below w.heap.size w w' := by
  obtain ⟨w0, hw0, hb0, hz0, hmw⟩ := enterMR A m.length cm w
  have HC := Lib.hid (specMemory_calls A cm m w0 ((hr.below hb0).more hb0.size) hn)
  have HB := Lib.hid hb0
  have HR := Lib.hid hr
  have HW := Lib.hid hw0
  have HMW := Lib.hid hmw
  clear hr hb0 hmw hw0
  go_enter Tryd.func20, Tryd.ntmps20
  go_wp2_with fail
  rw [HW.out]
  refine HC.out.mono ?_
  rintro e w2 ⟨rfl, hb2⟩
  have HB2 := Lib.hid (HB.out.trans (hb2.mono HB.out.size))
  have HR2 := Lib.hid (HR.out.below HB2.out)
  have hmw2 := HMW.out.below hb2
  have c1 := one_cell hmw2.mem
  obtain ⟨r0, r1, r2, r3⟩ := four_cells hmw2.res
  obtain ⟨f0, f1, f2, f3⟩ := four_frozen hmw2.res
  clear hb2 hmw2
  by_cases hm : MemOK m
  · have hd : decide (MemOK m) = true := decide_eq_true hm
    have HM := Lib.hid hm
    have h16 := hm.1
    clear hm
    have HL := Lib.hid (specIn_calls a 0 (m.length - 1) w2)
    by_cases h1 : 0 ≤ a ∧ a < m.length
    · obtain ⟨n, rfl⟩ : ∃ n : Nat, a = n := ⟨a.toNat, by omega⟩
      have hlt : n < m.length := by omega
      have hn1 : ¬ m.length ≤ n := by omega
      rw [show decide ((0 : Int) ≤ (n : Int) ∧ (n : Int) ≤ (m.length : Int) - 1) = true from decide_eq_true (by omega)] at HL
      obtain ⟨b, off, Ai, ci, rfl, hbb, hc, hci, hcm, hri⟩ := HR2.out.at_ hlt
      have HV : Hid (wholeV m n = .tuple #[.agg #[.int .i64 n, .int .i64 0, .int .i64 m[n].length, .int .i64 m[n].length], .bool true]) := Lib.hid (by rw [wholeV, if_pos ⟨HM.out, h1⟩]; simp only [Int.toNat_natCast, getD_eq hlt])
      clear hri
      go_wp2_with fail
      refine HL.out.mono ?_
      rintro e w3 ⟨rfl, rfl⟩
      go_wp2_with fail
      refine bodyPost_ret (v := .tuple #[.agg #[.int .i64 n, .int .i64 0, .int .i64 m[n].length, .int .i64 m[n].length], .bool true]) (by simp [results, Tryd.results20, go_sem, r0, r1, r2, r3]) rfl ⟨by rw [HV.out], by (repeat (first | (with_reducible exact Below.refl _ _) | (with_reducible refine Below.drew ?_) | ((with_reducible refine Below.alloc ?_ ?hB _); case hB => (first | (with_reducible exact Nat.le_refl _) | omega | (simp; done) | (simp; omega))) | ((with_reducible refine Below.setCell ?_ ?hB _); case hB => (first | (with_reducible exact Nat.le_refl _) | omega | (simp; done) | (simp; omega))))); exact HB2.out⟩
    · have HV : Hid (wholeV m a = .tuple #[.agg #[.int .i64 0, .int .i64 0, .int .i64 0, .int .i64 0], .bool false]) := Lib.hid (by rw [wholeV, if_neg (fun h => h1 h.2)])
      rw [show decide ((0 : Int) ≤ a ∧ a ≤ (m.length : Int) - 1) = false from decide_eq_false (by omega)] at HL
      go_wp2_with fail
      refine HL.out.mono ?_
      rintro e w3 ⟨rfl, rfl⟩
      go_wp2_with fail
      refine bodyPost_ret (v := .tuple #[.agg #[.int .i64 0, .int .i64 0, .int .i64 0, .int .i64 0], .bool false]) (by simp [results, Tryd.results20, go_sem, r0, r1, r2, r3]) rfl ⟨by rw [HV.out], by (repeat (first | (with_reducible exact Below.refl _ _) | (with_reducible refine Below.drew ?_) | ((with_reducible refine Below.alloc ?_ ?hB _); case hB => (first | (with_reducible exact Nat.le_refl _) | omega | (simp; done) | (simp; omega))) | ((with_reducible refine Below.setCell ?_ ?hB _); case hB => (first | (with_reducible exact Nat.le_refl _) | omega | (simp; done) | (simp; omega))))); exact HB2.out⟩
  · have hd : decide (MemOK m) = false := decide_eq_false hm
    have HV : Hid (wholeV m a = .tuple #[.agg #[.int .i64 0, .int .i64 0, .int .i64 0, .int .i64 0], .bool false]) := Lib.hid (by rw [wholeV, if_neg (fun h => hm h.1)])
    clear hm
    go_wp2_with fail
    refine bodyPost_ret (v := .tuple #[.agg #[.int .i64 0, .int .i64 0, .int .i64 0, .int .i64 0], .bool false]) (by simp [results, Tryd.results20, go_sem, r0, r1, r2, r3]) rfl ⟨by rw [HV.out], by (repeat (first | (with_reducible exact Below.refl _ _) | (with_reducible refine Below.drew ?_) | ((with_reducible refine Below.alloc ?_ ?hB _); case hB => (first | (with_reducible exact Nat.le_refl _) | omega | (simp; done) | (simp; omega))) | ((with_reducible refine Below.setCell ?_ ?hB _); case hB => (first | (with_reducible exact Nat.le_refl _) | omega | (simp; done) | (simp; omega))))); exact HB2.out⟩
end Go.Proofs.YtmcabnbmjbepjaaDoor
