/-
  TurnWindow of spec and impl.
-/
import Derived.Test.YtlioamjmkaaooaaRgV
import Derived.Test.YtlioamjmkaaooaaRgC
import Derived.Test.YtlioamjmkaaooaaOpen
import Derived.Deep.RegionLawGrows
namespace Go.Proofs.Ytlioamjmkaaooaa
open Go.RowKit

/-- What TurnWindow answers. -/
def turnR (m : List (List Int)) (x : Win) (i : Int) : List (List Int) × Bool := if WinOK m x ∧ 0 ≤ i ∧ i ≤ x.len then (turnM m x.arr.toNat x.start.toNat x.len.toNat i.toNat, true) else ([], false)
theorem turnM_small {m : List (List Int)} {n s l k : Nat} (h : MemOK m) (hn : n < m.length) (hsl : s + l ≤ m[n].length) (hk : k ≤ l) : Small (turnM m n s l k) := by
  unfold turnM
  refine small_set h ?_
  rw [getD_eq hn, over_len (by rw [turnL_len hn hsl hk]; exact hsl)]
  exact (h.2 _ (List.getElem_mem hn)).2
theorem turnR_small (m : List (List Int)) (x : Win) (i : Int) : Small (turnR m x i).1 := by
  unfold turnR
  split
  · rename_i h
    obtain ⟨hx, h0, h1⟩ := h
    obtain ⟨n, s, l, c, rfl, hn, hlc, hsc, h1m, h64, h16⟩ := hx.nat
    simp only [Int.toNat_natCast]
    exact turnM_small hx.1 hn (by omega) (by dsimp only at h1; omega)
  · exact ⟨by simp, fun r hr => by simp at hr⟩

set_option maxRecDepth 100000 in
set_option maxHeartbeats 1600000 in
theorem specTurnWindow_calls (A : Option Addr) (cm : Nat) (m : List (List Int)) (x : Win) (i : Int) (w : World) (hr : Rd2 w w.heap.size A m) (hn : m.length ≤ maxLen) :
    Calls Try.prog 45 #[.agg #[.slice A m.length cm], .agg #[.int .i64 x.arr, .int .i64 x.start, .int .i64 x.len, .int .i64 x.cap], .int .i64 i] w fun e w' => ∃ v, e = .returned (.tuple #[.agg #[v], .bool (turnR m x i).2]) ∧ OwnM w' w.heap.size w'.heap.size v (turnR m x i).1 ∧ Below w.heap.size w w' := by
  obtain ⟨w0, hw0, hb0, hz0, hmw⟩ := enterMWM A m.length cm x.arr x.start x.len x.cap w
  have HC := Lib.hid (specWindow_calls A cm m x w0 ((hr.below hb0).more hb0.size) hn)
  have HB := Lib.hid hb0
  have HR := Lib.hid hr
  have HW := Lib.hid hw0
  have HMW := Lib.hid hmw
  have c0 := one_cell hmw.mw.mem
  obtain ⟨d0, d1, d2, d3⟩ := four_cells hmw.mw.win
  clear hr hb0 hmw hw0
  go_enter Try.func45, Try.ntmps45
  go_wp2_with fail
  rw [HW.out]
  refine HC.out.mono ?_
  rintro e w2 ⟨rfl, hb2⟩
  have HB2 := Lib.hid (HB.out.trans (hb2.mono HB.out.size))
  have hmw2 := HMW.out.below hb2
  have HMW2 := Lib.hid hmw2
  have hs02 := hb2.size
  clear hb2 c0 d0 d1 d2 d3
  have c0 := one_cell hmw2.mw.mem
  obtain ⟨d0, d1, d2, d3⟩ := four_cells hmw2.mw.win
  have r0 := one_cell hmw2.res
  have rf := one_frozen hmw2.res
  clear hmw2
  by_cases hm : WinOK m x
  · have hd : decide (WinOK m x) = true := decide_eq_true hm
    have HI := Lib.hid (specIn_calls i 0 x.len w2)
    by_cases hi : 0 ≤ i ∧ i ≤ x.len
    · rw [show decide ((0 : Int) ≤ i ∧ i ≤ x.len) = true from decide_eq_true hi] at HI
      have HV : Hid (turnR m x i = (turnM m x.arr.toNat x.start.toNat x.len.toNat i.toNat, true)) := Lib.hid (by rw [turnR, if_pos ⟨hm, hi⟩])
      have HT : Hid (Calls Try.prog 86 #[.agg #[.slice A m.length cm], .agg #[.int .i64 x.arr, .int .i64 x.start, .int .i64 x.len, .int .i64 x.cap], .int .i64 i] w2 fun e w' => ∃ v, e = .returned (.agg #[v]) ∧ OwnM w' w2.heap.size w'.heap.size v (turnM m x.arr.toNat x.start.toNat x.len.toNat i.toNat) ∧ Below w2.heap.size w2 w') := Lib.hid (by
        have hm2 := hm
        obtain ⟨n, s, l, c, rfl, _⟩ := hm.nat
        obtain ⟨k, rfl⟩ := Int.eq_ofNat_of_zero_le hi.1
        simp only [Int.toNat_natCast]
        exact specTurn_calls A cm m n s l c k w2 ((HR.out.below HB2.out).more HB2.out.size) hm2 (by have := hi.2; dsimp only at this; omega))
      generalize turnM m x.arr.toNat x.start.toNat x.len.toNat i.toNat = M at *
      clear hm hi
      rw [hd]
      clear hd
      go_wp2_with fail
      refine HI.out.mono ?_
      rintro e w3 ⟨rfl, rfl⟩
      go_wp2_with fail
      refine HT.out.mono ?_
      rintro e w4 ⟨v4, rfl, ho4, hb4⟩
      obtain ⟨Av, cv, rfl, hcv⟩ := ho4.form
      have HB4 := Lib.hid (HB2.out.trans (hb4.mono HB2.out.size))
      have HO4 := Lib.hid ho4
      have hs24 := hb4.size
      have hres4 := (HMW2.out.below hb4).res
      clear hb4 ho4 c0 d0 d1 d2 d3 r0 rf
      have r0 := one_cell hres4
      have rf := one_frozen hres4
      clear hres4
      go_wp2_with fail
      refine bodyPost_ret (v := .tuple #[.agg #[.slice Av M.length cv], .bool true]) (by simp [results, Try.results45, go_sem, r0]) rfl ⟨_, by rw [HV.out], ?_, by (repeat (first | (with_reducible exact Below.refl _ _) | (with_reducible refine Below.drew ?_) | ((with_reducible refine Below.alloc ?_ ?hB _); case hB => (first | (with_reducible exact Nat.le_refl _) | omega | (simp; done) | (simp; omega))) | ((with_reducible refine Below.setCell ?_ ?hB _); case hB => (first | (with_reducible exact Nat.le_refl _) | omega | (simp; done) | (simp; omega))))); exact HB4.out⟩
      rw [HV.out]
      refine (own_setC (i := 0) (g := w.heap.size + 1 + 1) (u := .slice Av M.length cv) HO4.out (.inl (by omega))).mono (by omega) ?_
      simp only [World.size_setCell]
      exact Nat.le_refl _
    · rw [show decide ((0 : Int) ≤ i ∧ i ≤ x.len) = false from decide_eq_false hi] at HI
      have HV : Hid (turnR m x i = ([], false)) := Lib.hid (by rw [turnR, if_neg (fun h => hi h.2)])
      clear hm hi
      rw [hd]
      clear hd
      go_wp2_with fail
      refine HI.out.mono ?_
      rintro e w3 ⟨rfl, rfl⟩
      go_wp2_with fail
      refine bodyPost_ret (v := .tuple #[.agg #[.slice none 0 0], .bool false]) (by simp [results, Try.results45, go_sem, r0]) rfl ⟨_, by rw [HV.out], by rw [HV.out]; exact own_none _ _ _, by (repeat (first | (with_reducible exact Below.refl _ _) | (with_reducible refine Below.drew ?_) | ((with_reducible refine Below.alloc ?_ ?hB _); case hB => (first | (with_reducible exact Nat.le_refl _) | omega | (simp; done) | (simp; omega))) | ((with_reducible refine Below.setCell ?_ ?hB _); case hB => (first | (with_reducible exact Nat.le_refl _) | omega | (simp; done) | (simp; omega))))); exact HB2.out⟩
  · have hd : decide (WinOK m x) = false := decide_eq_false hm
    have HV : Hid (turnR m x i = ([], false)) := Lib.hid (by rw [turnR, if_neg (fun h => hm h.1)])
    clear hm
    go_wp2_with fail
    refine bodyPost_ret (v := .tuple #[.agg #[.slice none 0 0], .bool false]) (by simp [results, Try.results45, go_sem, r0]) rfl ⟨_, by rw [HV.out], by rw [HV.out]; exact own_none _ _ _, by (repeat (first | (with_reducible exact Below.refl _ _) | (with_reducible refine Below.drew ?_) | ((with_reducible refine Below.alloc ?_ ?hB _); case hB => (first | (with_reducible exact Nat.le_refl _) | omega | (simp; done) | (simp; omega))) | ((with_reducible refine Below.setCell ?_ ?hB _); case hB => (first | (with_reducible exact Nat.le_refl _) | omega | (simp; done) | (simp; omega))))); exact HB2.out⟩
end Go.Proofs.Ytlioamjmkaaooaa
