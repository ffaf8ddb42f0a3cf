/-
  Growth of spec: CapsOf, MovesOf, CostOf, WorstWaste, ShrinkCaps, ShrinkCost.
-/
import Derived.Test.YtiimbojcnmbebabGrF
import Derived.Test.YtiimbojcnmbebabGrQ
namespace Go.Proofs.Ytiimbojcnmbebab
open Go.RowKit

theorem capsR_A (g : GR) (s : Int) (xs : List Int) : capsR g s xs = ((allR g s xs).2.1, (allR g s xs).2.2) := by
  unfold capsR allR
  cases listG g s xs <;> rfl
theorem numR_A (f : RunG → Int) (hf : f runG0 = 0) (g : GR) (s : Int) (xs : List Int) : numR f g s xs = (f (allR g s xs).1, (allR g s xs).2.2) := by
  unfold numR allR
  cases listG g s xs with
  | none => simp [hf]
  | some p => rfl
/-- With shrinking: what all changes bring; the caps; the cost. -/
def shrR (g : GR) (s : Int) (xs : List Int) : RunG × List Int × Bool := if shrinkOK s then allR g s xs else (runG0, [], false)
def capsSR (g : GR) (s : Int) (xs : List Int) : List Int × Bool := if shrinkOK s then capsR g s xs else ([], false)
def costSR (g : GR) (s : Int) (xs : List Int) : Int × Bool := if shrinkOK s then numR RunG.cost g s xs else (0, false)
theorem capsSR_S (g : GR) (s : Int) (xs : List Int) : capsSR g s xs = ((shrR g s xs).2.1, (shrR g s xs).2.2) := by
  unfold capsSR shrR
  split
  · exact capsR_A g s xs
  · rfl
theorem costSR_S (g : GR) (s : Int) (xs : List Int) : costSR g s xs = ((shrR g s xs).1.cost, (shrR g s xs).2.2) := by
  unfold costSR shrR
  split
  · exact numR_A RunG.cost rfl g s xs
  · rfl
set_option maxRecDepth 20000 in
set_option maxHeartbeats 800000 in
theorem specCapsOf_calls (g : GR) (C : Option Addr) (cn : Nat) (xs : List Int) (w : World) (hx : Rd w w.heap.size C (intV .i64 xs)) (hn : xs.length ≤ maxLen) (hwf : ∀ x ∈ xs, (Lit.int .i64 x).wf = true) :
    Calls Try.prog 8 #[.agg #[.int .i64 g.num, .int .i64 g.den, .int .i64 g.add], .slice C xs.length cn] w fun e w' => ∃ v, e = .returned (.tuple #[v, .bool (capsR g 0 xs).2]) ∧ w'.ownsRow w.heap.size 3 1 v (capsR g 0 xs).1.length (intV .i64 (capsR g 0 xs).1) ∧ Below w.heap.size w w' := by
  obtain ⟨w0, hw0, hb0, hg0⟩ := enterG g w
  obtain ⟨a0, a1, a2⟩ := three_cells hg0
  have HW := Lib.hid hw0
  have HB1 := Lib.hid hb0
  have HC := Lib.hid (specAll_calls g 0 (.inl rfl) C cn xs w0 ((hx.below hb0).more hb0.size) hn hwf)
  have HV := Lib.hid (capsR_A g 0 xs)
  obtain ⟨R, hR⟩ : ∃ R, allR g 0 xs = R := ⟨_, rfl⟩
  rw [hR] at HC HV
  clear hw0 hb0 hg0 hx hwf hR
  go_enter Try.func8, Try.ntmps8
  go_wp2_with fail
  rw [HW.out]
  refine HC.out.mono ?_
  rintro e w1 ⟨C1, c1, rfl, ho1, hb1⟩
  have HB2 := Lib.hid (HB1.out.trans (hb1.mono HB1.out.size))
  have HO := Lib.hid (own_monoF ho1 HB1.out.size)
  clear hb1 ho1 a0 a1 a2
  go_wp2_with fail
  go_ret2
  exact ⟨_, by rw [HV.out]; rfl, by rw [HV.out]; exact (own_below HO.out ((Below.refl _ _).alloc (Nat.le_refl _) _)), by have hB := HB2.out; have hs := hB.size; (repeat (first | (with_reducible exact Below.refl _ _) | (with_reducible refine Below.drew ?_) | ((with_reducible refine Below.alloc ?_ ?hB _); case hB => (first | (with_reducible exact Nat.le_refl _) | omega | (simp; done) | (simp; omega))) | ((with_reducible refine Below.setCell ?_ ?hB _); case hB => (first | (with_reducible exact Nat.le_refl _) | omega | (simp; done) | (simp; omega))))); exact hB⟩
set_option maxRecDepth 20000 in
set_option maxHeartbeats 800000 in
theorem specMovesOf_calls (g : GR) (C : Option Addr) (cn : Nat) (xs : List Int) (w : World) (hx : Rd w w.heap.size C (intV .i64 xs)) (hn : xs.length ≤ maxLen) (hwf : ∀ x ∈ xs, (Lit.int .i64 x).wf = true) :
    Calls Try.prog 11 #[.agg #[.int .i64 g.num, .int .i64 g.den, .int .i64 g.add], .slice C xs.length cn] w fun e w' => e = .returned (.tuple #[.int .i64 (numR RunG.moves g 0 xs).1, .bool (numR RunG.moves g 0 xs).2]) ∧ Below w.heap.size w w' := by
  obtain ⟨w0, hw0, hb0, hg0⟩ := enterG g w
  obtain ⟨a0, a1, a2⟩ := three_cells hg0
  have HW := Lib.hid hw0
  have HB1 := Lib.hid hb0
  have HC := Lib.hid (specAll_calls g 0 (.inl rfl) C cn xs w0 ((hx.below hb0).more hb0.size) hn hwf)
  have HV := Lib.hid (numR_A RunG.moves rfl g 0 xs)
  obtain ⟨R, hR⟩ : ∃ R, allR g 0 xs = R := ⟨_, rfl⟩
  rw [hR] at HC HV
  clear hw0 hb0 hg0 hx hwf hR
  go_enter Try.func11, Try.ntmps11
  go_wp2_with fail
  rw [HW.out]
  refine HC.out.mono ?_
  rintro e w1 ⟨C1, c1, rfl, ho1, hb1⟩
  have HB2 := Lib.hid (HB1.out.trans (hb1.mono HB1.out.size))
  have HO := Lib.hid (own_monoF ho1 HB1.out.size)
  clear hb1 ho1 a0 a1 a2
  go_wp2_with fail
  go_ret2
  exact ⟨by rw [HV.out]; rfl, by have hB := HB2.out; have hs := hB.size; (repeat (first | (with_reducible exact Below.refl _ _) | (with_reducible refine Below.drew ?_) | ((with_reducible refine Below.alloc ?_ ?hB _); case hB => (first | (with_reducible exact Nat.le_refl _) | omega | (simp; done) | (simp; omega))) | ((with_reducible refine Below.setCell ?_ ?hB _); case hB => (first | (with_reducible exact Nat.le_refl _) | omega | (simp; done) | (simp; omega))))); exact hB⟩
set_option maxRecDepth 20000 in
set_option maxHeartbeats 800000 in
theorem specCostOf_calls (g : GR) (C : Option Addr) (cn : Nat) (xs : List Int) (w : World) (hx : Rd w w.heap.size C (intV .i64 xs)) (hn : xs.length ≤ maxLen) (hwf : ∀ x ∈ xs, (Lit.int .i64 x).wf = true) :
    Calls Try.prog 13 #[.agg #[.int .i64 g.num, .int .i64 g.den, .int .i64 g.add], .slice C xs.length cn] w fun e w' => e = .returned (.tuple #[.int .i64 (numR RunG.cost g 0 xs).1, .bool (numR RunG.cost g 0 xs).2]) ∧ Below w.heap.size w w' := by
  obtain ⟨w0, hw0, hb0, hg0⟩ := enterG g w
  obtain ⟨a0, a1, a2⟩ := three_cells hg0
  have HW := Lib.hid hw0
  have HB1 := Lib.hid hb0
  have HC := Lib.hid (specAll_calls g 0 (.inl rfl) C cn xs w0 ((hx.below hb0).more hb0.size) hn hwf)
  have HV := Lib.hid (numR_A RunG.cost rfl g 0 xs)
  obtain ⟨R, hR⟩ : ∃ R, allR g 0 xs = R := ⟨_, rfl⟩
  rw [hR] at HC HV
  clear hw0 hb0 hg0 hx hwf hR
  go_enter Try.func13, Try.ntmps13
  go_wp2_with fail
  rw [HW.out]
  refine HC.out.mono ?_
  rintro e w1 ⟨C1, c1, rfl, ho1, hb1⟩
  have HB2 := Lib.hid (HB1.out.trans (hb1.mono HB1.out.size))
  have HO := Lib.hid (own_monoF ho1 HB1.out.size)
  clear hb1 ho1 a0 a1 a2
  go_wp2_with fail
  go_ret2
  exact ⟨by rw [HV.out]; rfl, by have hB := HB2.out; have hs := hB.size; (repeat (first | (with_reducible exact Below.refl _ _) | (with_reducible refine Below.drew ?_) | ((with_reducible refine Below.alloc ?_ ?hB _); case hB => (first | (with_reducible exact Nat.le_refl _) | omega | (simp; done) | (simp; omega))) | ((with_reducible refine Below.setCell ?_ ?hB _); case hB => (first | (with_reducible exact Nat.le_refl _) | omega | (simp; done) | (simp; omega))))); exact hB⟩
set_option maxRecDepth 20000 in
set_option maxHeartbeats 800000 in
theorem specWorstWaste_calls (g : GR) (C : Option Addr) (cn : Nat) (xs : List Int) (w : World) (hx : Rd w w.heap.size C (intV .i64 xs)) (hn : xs.length ≤ maxLen) (hwf : ∀ x ∈ xs, (Lit.int .i64 x).wf = true) :
    Calls Try.prog 15 #[.agg #[.int .i64 g.num, .int .i64 g.den, .int .i64 g.add], .slice C xs.length cn] w fun e w' => e = .returned (.tuple #[.int .i64 (numR RunG.waste g 0 xs).1, .bool (numR RunG.waste g 0 xs).2]) ∧ Below w.heap.size w w' := by
  obtain ⟨w0, hw0, hb0, hg0⟩ := enterG g w
  obtain ⟨a0, a1, a2⟩ := three_cells hg0
  have HW := Lib.hid hw0
  have HB1 := Lib.hid hb0
  have HC := Lib.hid (specAll_calls g 0 (.inl rfl) C cn xs w0 ((hx.below hb0).more hb0.size) hn hwf)
  have HV := Lib.hid (numR_A RunG.waste rfl g 0 xs)
  obtain ⟨R, hR⟩ : ∃ R, allR g 0 xs = R := ⟨_, rfl⟩
  rw [hR] at HC HV
  clear hw0 hb0 hg0 hx hwf hR
  go_enter Try.func15, Try.ntmps15
  go_wp2_with fail
  rw [HW.out]
  refine HC.out.mono ?_
  rintro e w1 ⟨C1, c1, rfl, ho1, hb1⟩
  have HB2 := Lib.hid (HB1.out.trans (hb1.mono HB1.out.size))
  have HO := Lib.hid (own_monoF ho1 HB1.out.size)
  clear hb1 ho1 a0 a1 a2
  go_wp2_with fail
  go_ret2
  exact ⟨by rw [HV.out]; rfl, by have hB := HB2.out; have hs := hB.size; (repeat (first | (with_reducible exact Below.refl _ _) | (with_reducible refine Below.drew ?_) | ((with_reducible refine Below.alloc ?_ ?hB _); case hB => (first | (with_reducible exact Nat.le_refl _) | omega | (simp; done) | (simp; omega))) | ((with_reducible refine Below.setCell ?_ ?hB _); case hB => (first | (with_reducible exact Nat.le_refl _) | omega | (simp; done) | (simp; omega))))); exact hB⟩
set_option maxRecDepth 20000 in
set_option maxHeartbeats 1600000 in
theorem specShrink_calls (g : GR) (s : Int) (C : Option Addr) (cn : Nat) (xs : List Int) (w : World) (hx : Rd w w.heap.size C (intV .i64 xs)) (hn : xs.length ≤ maxLen) (hwf : ∀ x ∈ xs, (Lit.int .i64 x).wf = true) :
    Calls Try.prog 53 #[.agg #[.int .i64 g.num, .int .i64 g.den, .int .i64 g.add], .int .i64 s, .slice C xs.length cn] w
      fun e w' => ∃ C1 c1, e = .returned (.tuple #[.agg #[.slice C1 (shrR g s xs).2.1.length c1, .int .i64 (shrR g s xs).1.moves, .int .i64 (shrR g s xs).1.cost, .int .i64 (shrR g s xs).1.waste, .int .i64 (shrR g s xs).1.len, .int .i64 (shrR g s xs).1.cap], .bool (shrR g s xs).2.2]) ∧ w'.ownsRow w.heap.size 3 1 (.slice C1 (shrR g s xs).2.1.length c1) (shrR g s xs).2.1.length (intV .i64 (shrR g s xs).2.1) ∧ Below w.heap.size w w' := by
  obtain ⟨w0, hw0⟩ : ∃ w0, (w.alloc (.cells #[.int .i64 g.num, .int .i64 g.den, .int .i64 g.add] 25)).alloc (.cells #[.slice none 0 0, .int .i64 0, .int .i64 0, .int .i64 0, .int .i64 0, .int .i64 0] 71) = w0 := ⟨_, rfl⟩
  have hb0 : Below w.heap.size w w0 := by rw [← hw0]; exact ((Below.refl _ _).alloc (Nat.le_refl _) _).alloc (by simp) _
  have hg0 : w0.heap[w.heap.size]? = some (.cells #[.int .i64 g.num, .int .i64 g.den, .int .i64 g.add] 25) := by rw [← hw0]; exact alloc_old _ (heap_alloc_new _ _)
  have hz0 : w0.heap[w.heap.size + 1]? = some (.cells #[.slice none 0 0, .int .i64 0, .int .i64 0, .int .i64 0, .int .i64 0, .int .i64 0] 71) := by rw [← hw0]; exact (by simpa using heap_alloc_new (w.alloc (.cells #[.int .i64 g.num, .int .i64 g.den, .int .i64 g.add] 25)) (.cells #[.slice none 0 0, .int .i64 0, .int .i64 0, .int .i64 0, .int .i64 0, .int .i64 0] 71))
  obtain ⟨a0, a1, a2⟩ := three_cells hg0
  have HI := Lib.hid (fun W => specIn_calls s 2 8 W)
  have HW := Lib.hid hw0
  have HB1 := Lib.hid hb0
  have HZ := Lib.hid hz0
  have HC := Lib.hid (fun h => specAll_calls g s (.inr h) C cn xs w0 ((hx.below hb0).more hb0.size) hn hwf)
  have hs1 := (Array.getElem?_eq_some_iff.1 hz0).1
  clear hw0 hb0 hg0 hz0 hx hwf
  by_cases hs : shrinkOK s
  · rw [show decide (2 ≤ s ∧ s ≤ 8) = true from decide_eq_true hs] at HI
    have HV : Hid (shrR g s xs = allR g s xs) := Lib.hid (if_pos hs)
    have HC2 := Lib.hid (HC.out hs)
    obtain ⟨R, hR⟩ : ∃ R, allR g s xs = R := ⟨_, rfl⟩
    rw [hR] at HC2 HV
    clear hR hs HC
    go_enter Try.func53, Try.ntmps53
    go_wp2_with fail
    rw [HW.out]
    refine (HI.out _).mono ?_
    rintro e w2 ⟨rfl, rfl⟩
    go_wp2_with fail
    refine HC2.out.mono ?_
    rintro e w1 ⟨C1, c1, rfl, ho1, hb1⟩
    have HB2 := Lib.hid (HB1.out.trans (hb1.mono HB1.out.size))
    have hz1 := (hb1.block _ hs1).trans HZ.out
    have hs0 : w.heap.size + 2 ≤ w0.heap.size := by omega
    have HO1 := Lib.hid (own_monoF ho1 hs0)
    obtain ⟨r0, r1, r2, r3, r4, r5⟩ := six_cells hz1
    obtain ⟨e0, e1, e2, e3, e4, e5⟩ := six_frozen hz1
    clear hb1 ho1 a0 a1 a2 hz1
    go_wp2_with fail
    refine bodyPost_ret (v := .tuple #[.agg #[.slice C1 R.2.1.length c1, .int .i64 R.1.moves, .int .i64 R.1.cost, .int .i64 R.1.waste, .int .i64 R.1.len, .int .i64 R.1.cap], .bool R.2.2]) (by simp [results, Try.results53, go_sem, r0, r1, r2, r3, r4, r5]) rfl ⟨C1, c1, by rw [HV.out], ?_, ?_⟩
    · rw [HV.out]
      refine own_monoF (b1 := w.heap.size + 2) ?_ (by omega)
      repeat refine ownsRow_setCell_below ?_ (by show w.heap.size + 1 < w.heap.size + 2; omega) _
      exact HO1.out
    · have hB3 := HB2.out
      (repeat (first | (with_reducible exact Below.refl _ _) | (with_reducible refine Below.drew ?_) | ((with_reducible refine Below.alloc ?_ ?hB _); case hB => (first | (with_reducible exact Nat.le_refl _) | omega | (simp; done) | (simp; omega))) | ((with_reducible refine Below.setCell ?_ ?hB _); case hB => (first | (with_reducible exact Nat.le_refl _) | omega | (simp; done) | (simp; omega)))))
      exact hB3
  · rw [show decide (2 ≤ s ∧ s ≤ 8) = false from decide_eq_false hs] at HI
    have HV : Hid (shrR g s xs = (runG0, [], false)) := Lib.hid (if_neg hs)
    clear hs HC
    go_enter Try.func53, Try.ntmps53
    go_wp2_with fail
    rw [HW.out]
    refine (HI.out _).mono ?_
    rintro e w2 ⟨rfl, rfl⟩
    have hz1 := alloc_old (.cells #[] 3) HZ.out
    have HS1 := Lib.hid hs1
    clear hs1
    obtain ⟨r0, r1, r2, r3, r4, r5⟩ := six_cells hz1
    obtain ⟨e0, e1, e2, e3, e4, e5⟩ := six_frozen hz1
    clear a0 a1 a2 hz1
    go_wp2_with fail
    refine bodyPost_ret (v := .tuple #[.agg #[.slice (some ⟨w0.heap.size, 0, none⟩) 0 0, .int .i64 0, .int .i64 0, .int .i64 0, .int .i64 0, .int .i64 0], .bool false]) (by simp [results, Try.results53, go_sem, r0, r1, r2, r3, r4, r5]) rfl ⟨some ⟨w0.heap.size, 0, none⟩, 0, by rw [HV.out]; rfl, ?_, ?_⟩
    · rw [HV.out]
      refine own_monoF (b1 := w.heap.size + 2) ?_ (by omega)
      repeat refine ownsRow_setCell_below ?_ (by show w.heap.size + 1 < w.heap.size + 2; omega) _
      exact World.ownsRow_made (base := w.heap.size + 2) (e := 3) (size := 1) w0 #[] 0 (by have := HS1.out; omega) (Nat.zero_le _) rfl
    · have hB3 := HB1.out
      have hs3 := hB3.size
      (repeat (first | (with_reducible exact Below.refl _ _) | (with_reducible refine Below.drew ?_) | ((with_reducible refine Below.alloc ?_ ?hB _); case hB => (first | (with_reducible exact Nat.le_refl _) | omega | (simp; done) | (simp; omega))) | ((with_reducible refine Below.setCell ?_ ?hB _); case hB => (first | (with_reducible exact Nat.le_refl _) | omega | (simp; done) | (simp; omega)))))
      exact hB3
set_option maxRecDepth 20000 in
set_option maxHeartbeats 800000 in
theorem specShrinkCaps_calls (g : GR) (s : Int) (C : Option Addr) (cn : Nat) (xs : List Int) (w : World) (hx : Rd w w.heap.size C (intV .i64 xs)) (hn : xs.length ≤ maxLen) (hwf : ∀ x ∈ xs, (Lit.int .i64 x).wf = true) :
    Calls Try.prog 29 #[.agg #[.int .i64 g.num, .int .i64 g.den, .int .i64 g.add], .int .i64 s, .slice C xs.length cn] w fun e w' => ∃ v, e = .returned (.tuple #[v, .bool (capsSR g s xs).2]) ∧ w'.ownsRow w.heap.size 3 1 v (capsSR g s xs).1.length (intV .i64 (capsSR g s xs).1) ∧ Below w.heap.size w w' := by
  obtain ⟨w0, hw0, hb0, hg0⟩ := enterG g w
  obtain ⟨a0, a1, a2⟩ := three_cells hg0
  have HW := Lib.hid hw0
  have HB1 := Lib.hid hb0
  have HC := Lib.hid (specShrink_calls g s C cn xs w0 ((hx.below hb0).more hb0.size) hn hwf)
  have HV := Lib.hid (capsSR_S g s xs)
  obtain ⟨R, hR⟩ : ∃ R, shrR g s xs = R := ⟨_, rfl⟩
  rw [hR] at HC HV
  clear hw0 hb0 hg0 hx hwf hR
  go_enter Try.func29, Try.ntmps29
  go_wp2_with fail
  rw [HW.out]
  refine HC.out.mono ?_
  rintro e w1 ⟨C1, c1, rfl, ho1, hb1⟩
  have HB2 := Lib.hid (HB1.out.trans (hb1.mono HB1.out.size))
  have HO := Lib.hid (own_monoF ho1 HB1.out.size)
  clear hb1 ho1 a0 a1 a2
  go_wp2_with fail
  go_ret2
  exact ⟨_, by rw [HV.out]; rfl, by rw [HV.out]; exact (own_below HO.out ((Below.refl _ _).alloc (Nat.le_refl _) _)), by have hB := HB2.out; have hs := hB.size; (repeat (first | (with_reducible exact Below.refl _ _) | (with_reducible refine Below.drew ?_) | ((with_reducible refine Below.alloc ?_ ?hB _); case hB => (first | (with_reducible exact Nat.le_refl _) | omega | (simp; done) | (simp; omega))) | ((with_reducible refine Below.setCell ?_ ?hB _); case hB => (first | (with_reducible exact Nat.le_refl _) | omega | (simp; done) | (simp; omega))))); exact hB⟩
set_option maxRecDepth 20000 in
set_option maxHeartbeats 800000 in
theorem specShrinkCost_calls (g : GR) (s : Int) (C : Option Addr) (cn : Nat) (xs : List Int) (w : World) (hx : Rd w w.heap.size C (intV .i64 xs)) (hn : xs.length ≤ maxLen) (hwf : ∀ x ∈ xs, (Lit.int .i64 x).wf = true) :
    Calls Try.prog 31 #[.agg #[.int .i64 g.num, .int .i64 g.den, .int .i64 g.add], .int .i64 s, .slice C xs.length cn] w fun e w' => e = .returned (.tuple #[.int .i64 (costSR g s xs).1, .bool (costSR g s xs).2]) ∧ Below w.heap.size w w' := by
  obtain ⟨w0, hw0, hb0, hg0⟩ := enterG g w
  obtain ⟨a0, a1, a2⟩ := three_cells hg0
  have HW := Lib.hid hw0
  have HB1 := Lib.hid hb0
  have HC := Lib.hid (specShrink_calls g s C cn xs w0 ((hx.below hb0).more hb0.size) hn hwf)
  have HV := Lib.hid (costSR_S g s xs)
  obtain ⟨R, hR⟩ : ∃ R, shrR g s xs = R := ⟨_, rfl⟩
  rw [hR] at HC HV
  clear hw0 hb0 hg0 hx hwf hR
  go_enter Try.func31, Try.ntmps31
  go_wp2_with fail
  rw [HW.out]
  refine HC.out.mono ?_
  rintro e w1 ⟨C1, c1, rfl, ho1, hb1⟩
  have HB2 := Lib.hid (HB1.out.trans (hb1.mono HB1.out.size))
  have HO := Lib.hid (own_monoF ho1 HB1.out.size)
  clear hb1 ho1 a0 a1 a2
  go_wp2_with fail
  go_ret2
  exact ⟨by rw [HV.out]; rfl, by have hB := HB2.out; have hs := hB.size; (repeat (first | (with_reducible exact Below.refl _ _) | (with_reducible refine Below.drew ?_) | ((with_reducible refine Below.alloc ?_ ?hB _); case hB => (first | (with_reducible exact Nat.le_refl _) | omega | (simp; done) | (simp; omega))) | ((with_reducible refine Below.setCell ?_ ?hB _); case hB => (first | (with_reducible exact Nat.le_refl _) | omega | (simp; done) | (simp; omega))))); exact hB⟩
end Go.Proofs.Ytiimbojcnmbebab
