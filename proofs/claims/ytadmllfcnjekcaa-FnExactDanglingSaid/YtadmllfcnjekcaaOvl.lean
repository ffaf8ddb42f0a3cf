/-
  How many places two windows see both: l2Overlap of spec, common and shares of impl's Window.
-/
import Derived.Test.YtadmllfcnjekcaaApart
import Derived.Test.YtadmllfcnjekcaaWin2
import Derived.Deep.DeepCutAuto
namespace Go.Proofs.Ytadmllfcnjekcaa
open Go.RowKit

/-- How many places two windows see both. -/
def ovl (x y : Win) : Int := if x.arr = y.arr then max 0 (min (x.start + x.len) (y.start + y.len) - max x.start y.start) else 0
theorem ovl_nonneg (x y : Win) : 0 ≤ ovl x y := by unfold ovl; split <;> omega
/-- What numbers of windows are like: none so great that a sum wraps. -/
structure Tame (x : Win) : Prop where
  s0 : 0 ≤ x.start
  s1 : x.start ≤ 1000
  l0 : 0 ≤ x.len
  l1 : x.len ≤ 1000
  c0 : 0 ≤ x.cap
  c1 : x.cap ≤ 1000
theorem WinOK.tame {m : List (List Int)} {x : Win} (h : WinOK m x) : Tame x := by
  obtain ⟨n, s, l, c, rfl, hnl, hlc, hsc, h1, h64, h16⟩ := h.nat
  constructor <;> simp only <;> omega
/-- The window that sees the places that both see. -/
def commonW (x y : Win) : Win :=
  if x.arr = y.arr ∧ max x.start y.start < min (x.start + x.len) (y.start + y.len) then ⟨x.arr, max x.start y.start, min (x.start + x.len) (y.start + y.len) - max x.start y.start, min (x.start + x.len) (y.start + y.len) - max x.start y.start⟩ else ⟨0, 0, 0, 0⟩
theorem commonW_zero (x y : Win) : commonW x y = ⟨0, 0, 0, 0⟩ ↔ ovl x y = 0 := by
  unfold commonW ovl
  split
  · rename_i h
    rw [if_pos h.1]
    have := h.2
    constructor
    · intro e
      injection e with _ _ e3 _
      omega
    · intro e; omega
  · rename_i h
    refine ⟨fun _ => ?_, fun _ => rfl⟩
    split
    · rename_i ha
      have : ¬ max x.start y.start < min (x.start + x.len) (y.start + y.len) := fun hl => h ⟨ha, hl⟩
      omega
    · rfl

set_option maxRecDepth 100000 in
set_option maxHeartbeats 1600000 in
theorem specOvl_calls (x y : Win) (w : World) (hx : Tame x) (hy : Tame y) :
    Calls Try.prog 107 #[.agg #[.int .i64 x.arr, .int .i64 x.start, .int .i64 x.len, .int .i64 x.cap], .agg #[.int .i64 y.arr, .int .i64 y.start, .int .i64 y.len, .int .i64 y.cap]] w fun e w' => e = .returned (.int .i64 (ovl x y)) ∧ Below w.heap.size w w' := by
  obtain ⟨n, s, l, c⟩ := x
  obtain ⟨n2, s2, l2, c2⟩ := y
  obtain ⟨x1, x2, x3, x4, _, _⟩ := hx
  obtain ⟨y1, y2, y3, y4, _, _⟩ := hy
  dsimp only at *
  obtain ⟨g1, g2, g3, g4⟩ := enter2 w (.cells #[.int .i64 n, .int .i64 s, .int .i64 l, .int .i64 c] 33) (.cells #[.int .i64 n2, .int .i64 s2, .int .i64 l2, .int .i64 c2] 33)
  obtain ⟨w0, hw0⟩ : ∃ w0, (w.alloc (.cells #[.int .i64 n, .int .i64 s, .int .i64 l, .int .i64 c] 33)).alloc (.cells #[.int .i64 n2, .int .i64 s2, .int .i64 l2, .int .i64 c2] 33) = w0 := ⟨_, rfl⟩
  rw [hw0] at g1 g2 g3 g4
  have HB := Lib.hid g1
  have HW := Lib.hid hw0
  obtain ⟨d0, d1, d2, d3⟩ := four_cells g2
  obtain ⟨e0, e1, e2, e3⟩ := four_cells g3
  obtain ⟨q1, hq1⟩ : ∃ q1, (if (s + l) < s2 + l2 then (s + l) else s2 + l2) = q1 := ⟨_, rfl⟩
  obtain ⟨q2, hq2⟩ : ∃ q2, (if s2 < s then s else s2) = q2 := ⟨_, rfl⟩
  obtain ⟨q3, hq3⟩ : ∃ q3, (if q1 - q2 < 0 then 0 else q1 - q2) = q3 := ⟨_, rfl⟩
  have HA := Lib.hid (show n = n2 → ovl ⟨n, s, l, c⟩ ⟨n2, s2, l2, c2⟩ = q3 from fun hn => by
    subst hn
    unfold ovl
    simp only [if_true]
    split at hq1 <;> split at hq2 <;> split at hq3 <;> omega)
  have hb1 : 0 ≤ q1 ∧ q1 ≤ 2000 := by split at hq1 <;> omega
  have hb2 : 0 ≤ q2 ∧ q2 ≤ 1000 := by split at hq2 <;> omega
  obtain ⟨hb11, hb12⟩ := hb1
  obtain ⟨hb21, hb22⟩ := hb2
  have H1 : Hid (∀ W, Calls Try.prog 132 #[.int .i64 (s + l), .int .i64 (s2 + l2)] W fun e w' => e = .returned (.int .i64 q1) ∧ W = w') := Lib.hid fun W => by have := specLeast_calls (s + l) (s2 + l2) W; rw [hq1] at this; exact this
  have H2 : Hid (∀ W, Calls Try.prog 131 #[.int .i64 s, .int .i64 s2] W fun e w' => e = .returned (.int .i64 q2) ∧ W = w') := Lib.hid fun W => by have := specMost_calls s s2 W; rw [hq2] at this; exact this
  have H3 : Hid (∀ W, Calls Try.prog 131 #[.int .i64 0, .int .i64 (q1 - q2)] W fun e w' => e = .returned (.int .i64 q3) ∧ W = w') := Lib.hid fun W => by have := specMost_calls 0 (q1 - q2) W; rw [hq3] at this; exact this
  have hw1 : IntKind.i64.wrap (s + l) = s + l := by simp [IntKind.wrap, IntKind.bits, IntKind.signed]; omega
  have hw2 : IntKind.i64.wrap (s2 + l2) = s2 + l2 := by simp [IntKind.wrap, IntKind.bits, IntKind.signed]; omega
  have hw3 : IntKind.i64.wrap (q1 - q2) = q1 - q2 := by simp [IntKind.wrap, IntKind.bits, IntKind.signed]; omega
  clear g1 g2 g3 g4 hw0 hq1 hq2 hq3
  by_cases ha : n = n2
  · have HN := Lib.hid ha
    subst ha
    go_enter Try.func107, Try.ntmps107
    go_wp2_with fail
    rw [HW.out]
    go_region_held3 (fun W => W.cell? ⟨w.heap.size, 1, none⟩ = some (.int .i64 s) ∧ W.cell? ⟨w.heap.size, 2, none⟩ = some (.int .i64 l) ∧ W.cell? ⟨w.heap.size + 1, 1, none⟩ = some (.int .i64 s2) ∧ W.cell? ⟨w.heap.size + 1, 2, none⟩ = some (.int .i64 l2)) (exact ⟨d1, d2, e1, e2⟩)
      (first | (go_at_call 132; refine (H1.out _).mono ?_; rintro e w3 ⟨rfl, rfl⟩) | (go_at_call 131; with_reducible refine (H2.out _).mono ?_; rintro e w3 ⟨rfl, rfl⟩) | (go_at_call 131; refine (H3.out _).mono ?_; rintro e w3 ⟨rfl, rfl⟩))
    go_wp2_with fail
    go_ret
    exact ⟨ret_int (HA.out HN.out).symm, HB.out.drew⟩
  · have hne : (n != n2) = true := by simp [ha]
    have HN : Hid (ovl ⟨n, s, l, c⟩ ⟨n2, s2, l2, c2⟩ = 0) := Lib.hid (by unfold ovl; rw [if_neg ha])
    clear ha
    go_enter Try.func107, Try.ntmps107
    go_wp2_with fail
    go_ret
    exact ⟨ret_int HN.out.symm, by rw [HW.out]; exact HB.out⟩

set_option maxRecDepth 100000 in
set_option maxHeartbeats 1600000 in
theorem common_calls (x y : Win) (w : World) (hx : Tame x) (hy : Tame y) :
    Calls Try.prog 134 #[.agg #[.int .i64 x.arr, .int .i64 x.start, .int .i64 x.len, .int .i64 x.cap], .agg #[.int .i64 y.arr, .int .i64 y.start, .int .i64 y.len, .int .i64 y.cap]] w fun e w' => e = .returned (.agg #[.int .i64 (commonW x y).arr, .int .i64 (commonW x y).start, .int .i64 (commonW x y).len, .int .i64 (commonW x y).cap]) ∧ Below w.heap.size w w' := by
  obtain ⟨n, s, l, c⟩ := x
  obtain ⟨n2, s2, l2, c2⟩ := y
  obtain ⟨x1, x2, x3, x4, _, _⟩ := hx
  obtain ⟨y1, y2, y3, y4, _, _⟩ := hy
  dsimp only at *
  obtain ⟨g1, g2, g3, g4, g5⟩ := enter3 w (.cells #[.int .i64 n, .int .i64 s, .int .i64 l, .int .i64 c] 33) (.cells #[.int .i64 n2, .int .i64 s2, .int .i64 l2, .int .i64 c2] 33) (.cells #[.int .i64 0, .int .i64 0, .int .i64 0, .int .i64 0] 33)
  obtain ⟨w0, hw0⟩ : ∃ w0, ((w.alloc (.cells #[.int .i64 n, .int .i64 s, .int .i64 l, .int .i64 c] 33)).alloc (.cells #[.int .i64 n2, .int .i64 s2, .int .i64 l2, .int .i64 c2] 33)).alloc (.cells #[.int .i64 0, .int .i64 0, .int .i64 0, .int .i64 0] 33) = w0 := ⟨_, rfl⟩
  rw [hw0] at g1 g2 g3 g4 g5
  have HB := Lib.hid g1
  have HW := Lib.hid hw0
  obtain ⟨d0, d1, d2, d3⟩ := four_cells g2
  obtain ⟨e0, e1, e2, e3⟩ := four_cells g3
  obtain ⟨r0, r1, r2, r3⟩ := four_cells g4
  obtain ⟨f0, f1, f2, f3⟩ := four_frozen g4
  clear g1 g2 g3 g4 g5 hw0
  by_cases ha : n = n2
  · subst ha
    rcases Int.lt_or_le s s2 with hm | hm <;> rcases Int.lt_or_le (s2 + l2) (s + l) with hk | hk
    · have HQ2 := Lib.hid (show max s s2 = s2 by omega)
      have HQ1 := Lib.hid (show min (s + l) (s2 + l2) = (s2 + l2) by omega)
      by_cases hlt : s2 < (s2 + l2)
      · have HV : Hid (commonW ⟨n, s, l, c⟩ ⟨n, s2, l2, c2⟩ = ⟨n, s2, (s2 + l2) - s2, (s2 + l2) - s2⟩) := Lib.hid (by rw [commonW]; simp only [HQ2.out, HQ1.out]; rw [if_pos ⟨trivial, hlt⟩])
        have hsb : IntKind.i64.wrap ((s2 + l2) - s2) = (s2 + l2) - s2 := by simp [IntKind.wrap, IntKind.bits, IntKind.signed]; omega
        go_enter Try.func134, Try.ntmps134
        go_upto_region 1 with fail
        rw [HW.out]
        go_wp2_with fail
        refine bodyPost_ret (v := .agg #[.int .i64 n, .int .i64 s2, .int .i64 ((s2 + l2) - s2), .int .i64 ((s2 + l2) - s2)]) (by simp [results, Try.results134, go_sem, r0, r1, r2, r3]) rfl ⟨by rw [HV.out], by (repeat (first | (with_reducible exact Below.refl _ _) | (with_reducible refine Below.drew ?_) | ((with_reducible refine Below.alloc ?_ ?hB _); case hB => (first | (with_reducible exact Nat.le_refl _) | omega | (simp; done) | (simp; omega))) | ((with_reducible refine Below.setCell ?_ ?hB _); case hB => (first | (with_reducible exact Nat.le_refl _) | omega | (simp; done) | (simp; omega))))); exact HB.out⟩
      · have HV : Hid (commonW ⟨n, s, l, c⟩ ⟨n, s2, l2, c2⟩ = ⟨0, 0, 0, 0⟩) := Lib.hid (by rw [commonW]; simp only [HQ2.out, HQ1.out]; rw [if_neg (fun h => hlt h.2)])
        go_enter Try.func134, Try.ntmps134
        go_upto_region 1 with fail
        rw [HW.out]
        go_wp2_with fail
        refine bodyPost_ret (v := .agg #[.int .i64 0, .int .i64 0, .int .i64 0, .int .i64 0]) (by simp [results, Try.results134, go_sem, r0, r1, r2, r3]) rfl ⟨by rw [HV.out], by (repeat (first | (with_reducible exact Below.refl _ _) | (with_reducible refine Below.drew ?_) | ((with_reducible refine Below.alloc ?_ ?hB _); case hB => (first | (with_reducible exact Nat.le_refl _) | omega | (simp; done) | (simp; omega))) | ((with_reducible refine Below.setCell ?_ ?hB _); case hB => (first | (with_reducible exact Nat.le_refl _) | omega | (simp; done) | (simp; omega))))); exact HB.out⟩
    · have HQ2 := Lib.hid (show max s s2 = s2 by omega)
      have HQ1 := Lib.hid (show min (s + l) (s2 + l2) = (s + l) by omega)
      by_cases hlt : s2 < (s + l)
      · have HV : Hid (commonW ⟨n, s, l, c⟩ ⟨n, s2, l2, c2⟩ = ⟨n, s2, (s + l) - s2, (s + l) - s2⟩) := Lib.hid (by rw [commonW]; simp only [HQ2.out, HQ1.out]; rw [if_pos ⟨trivial, hlt⟩])
        have hsb : IntKind.i64.wrap ((s + l) - s2) = (s + l) - s2 := by simp [IntKind.wrap, IntKind.bits, IntKind.signed]; omega
        go_enter Try.func134, Try.ntmps134
        go_upto_region 1 with fail
        rw [HW.out]
        go_wp2_with fail
        refine bodyPost_ret (v := .agg #[.int .i64 n, .int .i64 s2, .int .i64 ((s + l) - s2), .int .i64 ((s + l) - s2)]) (by simp [results, Try.results134, go_sem, r0, r1, r2, r3]) rfl ⟨by rw [HV.out], by (repeat (first | (with_reducible exact Below.refl _ _) | (with_reducible refine Below.drew ?_) | ((with_reducible refine Below.alloc ?_ ?hB _); case hB => (first | (with_reducible exact Nat.le_refl _) | omega | (simp; done) | (simp; omega))) | ((with_reducible refine Below.setCell ?_ ?hB _); case hB => (first | (with_reducible exact Nat.le_refl _) | omega | (simp; done) | (simp; omega))))); exact HB.out⟩
      · have HV : Hid (commonW ⟨n, s, l, c⟩ ⟨n, s2, l2, c2⟩ = ⟨0, 0, 0, 0⟩) := Lib.hid (by rw [commonW]; simp only [HQ2.out, HQ1.out]; rw [if_neg (fun h => hlt h.2)])
        go_enter Try.func134, Try.ntmps134
        go_upto_region 1 with fail
        rw [HW.out]
        go_wp2_with fail
        refine bodyPost_ret (v := .agg #[.int .i64 0, .int .i64 0, .int .i64 0, .int .i64 0]) (by simp [results, Try.results134, go_sem, r0, r1, r2, r3]) rfl ⟨by rw [HV.out], by (repeat (first | (with_reducible exact Below.refl _ _) | (with_reducible refine Below.drew ?_) | ((with_reducible refine Below.alloc ?_ ?hB _); case hB => (first | (with_reducible exact Nat.le_refl _) | omega | (simp; done) | (simp; omega))) | ((with_reducible refine Below.setCell ?_ ?hB _); case hB => (first | (with_reducible exact Nat.le_refl _) | omega | (simp; done) | (simp; omega))))); exact HB.out⟩
    · have HQ2 := Lib.hid (show max s s2 = s by omega)
      have HQ1 := Lib.hid (show min (s + l) (s2 + l2) = (s2 + l2) by omega)
      by_cases hlt : s < (s2 + l2)
      · have HV : Hid (commonW ⟨n, s, l, c⟩ ⟨n, s2, l2, c2⟩ = ⟨n, s, (s2 + l2) - s, (s2 + l2) - s⟩) := Lib.hid (by rw [commonW]; simp only [HQ2.out, HQ1.out]; rw [if_pos ⟨trivial, hlt⟩])
        have hsb : IntKind.i64.wrap ((s2 + l2) - s) = (s2 + l2) - s := by simp [IntKind.wrap, IntKind.bits, IntKind.signed]; omega
        go_enter Try.func134, Try.ntmps134
        go_upto_region 1 with fail
        rw [HW.out]
        go_wp2_with fail
        refine bodyPost_ret (v := .agg #[.int .i64 n, .int .i64 s, .int .i64 ((s2 + l2) - s), .int .i64 ((s2 + l2) - s)]) (by simp [results, Try.results134, go_sem, r0, r1, r2, r3]) rfl ⟨by rw [HV.out], by (repeat (first | (with_reducible exact Below.refl _ _) | (with_reducible refine Below.drew ?_) | ((with_reducible refine Below.alloc ?_ ?hB _); case hB => (first | (with_reducible exact Nat.le_refl _) | omega | (simp; done) | (simp; omega))) | ((with_reducible refine Below.setCell ?_ ?hB _); case hB => (first | (with_reducible exact Nat.le_refl _) | omega | (simp; done) | (simp; omega))))); exact HB.out⟩
      · have HV : Hid (commonW ⟨n, s, l, c⟩ ⟨n, s2, l2, c2⟩ = ⟨0, 0, 0, 0⟩) := Lib.hid (by rw [commonW]; simp only [HQ2.out, HQ1.out]; rw [if_neg (fun h => hlt h.2)])
        go_enter Try.func134, Try.ntmps134
        go_upto_region 1 with fail
        rw [HW.out]
        go_wp2_with fail
        refine bodyPost_ret (v := .agg #[.int .i64 0, .int .i64 0, .int .i64 0, .int .i64 0]) (by simp [results, Try.results134, go_sem, r0, r1, r2, r3]) rfl ⟨by rw [HV.out], by (repeat (first | (with_reducible exact Below.refl _ _) | (with_reducible refine Below.drew ?_) | ((with_reducible refine Below.alloc ?_ ?hB _); case hB => (first | (with_reducible exact Nat.le_refl _) | omega | (simp; done) | (simp; omega))) | ((with_reducible refine Below.setCell ?_ ?hB _); case hB => (first | (with_reducible exact Nat.le_refl _) | omega | (simp; done) | (simp; omega))))); exact HB.out⟩
    · have HQ2 := Lib.hid (show max s s2 = s by omega)
      have HQ1 := Lib.hid (show min (s + l) (s2 + l2) = (s + l) by omega)
      by_cases hlt : s < (s + l)
      · have HV : Hid (commonW ⟨n, s, l, c⟩ ⟨n, s2, l2, c2⟩ = ⟨n, s, (s + l) - s, (s + l) - s⟩) := Lib.hid (by rw [commonW]; simp only [HQ2.out, HQ1.out]; rw [if_pos ⟨trivial, hlt⟩])
        have hsb : IntKind.i64.wrap ((s + l) - s) = (s + l) - s := by simp [IntKind.wrap, IntKind.bits, IntKind.signed]; omega
        go_enter Try.func134, Try.ntmps134
        go_upto_region 1 with fail
        rw [HW.out]
        go_wp2_with fail
        refine bodyPost_ret (v := .agg #[.int .i64 n, .int .i64 s, .int .i64 ((s + l) - s), .int .i64 ((s + l) - s)]) (by simp [results, Try.results134, go_sem, r0, r1, r2, r3]) rfl ⟨by rw [HV.out], by (repeat (first | (with_reducible exact Below.refl _ _) | (with_reducible refine Below.drew ?_) | ((with_reducible refine Below.alloc ?_ ?hB _); case hB => (first | (with_reducible exact Nat.le_refl _) | omega | (simp; done) | (simp; omega))) | ((with_reducible refine Below.setCell ?_ ?hB _); case hB => (first | (with_reducible exact Nat.le_refl _) | omega | (simp; done) | (simp; omega))))); exact HB.out⟩
      · have HV : Hid (commonW ⟨n, s, l, c⟩ ⟨n, s2, l2, c2⟩ = ⟨0, 0, 0, 0⟩) := Lib.hid (by rw [commonW]; simp only [HQ2.out, HQ1.out]; rw [if_neg (fun h => hlt h.2)])
        go_enter Try.func134, Try.ntmps134
        go_upto_region 1 with fail
        rw [HW.out]
        go_wp2_with fail
        refine bodyPost_ret (v := .agg #[.int .i64 0, .int .i64 0, .int .i64 0, .int .i64 0]) (by simp [results, Try.results134, go_sem, r0, r1, r2, r3]) rfl ⟨by rw [HV.out], by (repeat (first | (with_reducible exact Below.refl _ _) | (with_reducible refine Below.drew ?_) | ((with_reducible refine Below.alloc ?_ ?hB _); case hB => (first | (with_reducible exact Nat.le_refl _) | omega | (simp; done) | (simp; omega))) | ((with_reducible refine Below.setCell ?_ ?hB _); case hB => (first | (with_reducible exact Nat.le_refl _) | omega | (simp; done) | (simp; omega))))); exact HB.out⟩
  · have hne : (n != n2) = true := by simp [ha]
    have HV : Hid (commonW ⟨n, s, l, c⟩ ⟨n2, s2, l2, c2⟩ = ⟨0, 0, 0, 0⟩) := Lib.hid (by rw [commonW, if_neg (fun h => ha h.1)])
    clear ha
    rcases Int.lt_or_le s s2 with hm | hm <;> rcases Int.lt_or_le (s2 + l2) (s + l) with hk | hk
    all_goals
      go_enter Try.func134, Try.ntmps134
      go_upto_region 1 with fail
      rw [HW.out]
      go_wp2_with fail
      refine bodyPost_ret (v := .agg #[.int .i64 0, .int .i64 0, .int .i64 0, .int .i64 0]) (by simp [results, Try.results134, go_sem, r0, r1, r2, r3]) rfl ⟨by rw [HV.out], by (repeat (first | (with_reducible exact Below.refl _ _) | (with_reducible refine Below.drew ?_) | ((with_reducible refine Below.alloc ?_ ?hB _); case hB => (first | (with_reducible exact Nat.le_refl _) | omega | (simp; done) | (simp; omega))) | ((with_reducible refine Below.setCell ?_ ?hB _); case hB => (first | (with_reducible exact Nat.le_refl _) | omega | (simp; done) | (simp; omega))))); exact HB.out⟩

end Go.Proofs.Ytadmllfcnjekcaa
