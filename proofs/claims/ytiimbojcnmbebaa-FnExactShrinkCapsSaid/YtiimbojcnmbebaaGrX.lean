/-
  Growth of the program: with shrinking.
-/
import Derived.Test.YtiimbojcnmbebaaGrV2
import Derived.Test.YtiimbojcnmbebaaGrG
import Derived.Deep.RegionHeld3
namespace Go.Proofs.Ytiimbojcnmbebaa
open Go.RowKit

theorem stepR_app {g : GR} {s : Int} {r : RunG} {n : Int} (h : 0 ≤ n) : stepR g s r n = stepR g 0 r n := by
  unfold stepR doG; rw [if_pos h, if_pos h]
set_option maxRecDepth 20000 in
set_option maxHeartbeats 1600000 in
theorem implShrinkStep_calls (g : GR) (hg : g.OK) (s : Int) (hs : shrinkOK s) (c0 : Nat) (r : RunG) (kk : Int) (hr : RunOK r kk) (hk : kk ≤ 3000) (n : Int) (hn : (Lit.int .i64 n).wf = true) (w : World) (hc0 : w.cell? ⟨c0, 0, none⟩ = some (.int .i64 s)) (hcl : c0 < w.heap.size) :
    Calls Try.prog 100 #[.agg #[.int .i64 g.num, .int .i64 g.den, .int .i64 g.add], .agg #[.int .i64 r.len, .int .i64 r.cap, .int .i64 r.moves, .int .i64 r.cost], .int .i64 n, .pointer (some ⟨c0, 0, none⟩)] w
      fun e w' => e = .returned (.tuple #[.agg #[.int .i64 (stepR g s r n).1.len, .int .i64 (stepR g s r n).1.cap, .int .i64 (stepR g s r n).1.moves, .int .i64 (stepR g s r n).1.cost], .bool (stepR g s r n).2]) ∧ Below w.heap.size w w' := by
  have HAPP := Lib.hid (fun W => implAppend_calls g hg r kk hr hk n hn W)
  obtain ⟨s1, s2⟩ := hs
  obtain ⟨l0, lc, c1', m0, m1, q0, q1, w0', w1'⟩ := hr
  obtain ⟨n1, n2⟩ : -9223372036854775808 ≤ n ∧ n ≤ 9223372036854775807 := by simpa [Lit.wf, IntKind.min, IntKind.max, IntKind.signed, IntKind.bits] using hn
  obtain ⟨hb, g1, g2, g3, gz⟩ := enter3 w (.cells #[.int .i64 g.num, .int .i64 g.den, .int .i64 g.add] 25) (.cells #[.int .i64 r.len, .int .i64 r.cap, .int .i64 r.moves, .int .i64 r.cost] 68) (.cells #[.int .i64 0, .int .i64 0, .int .i64 0, .int .i64 0] 68)
  obtain ⟨w0, hw0⟩ : ∃ w0, ((w.alloc (.cells #[.int .i64 g.num, .int .i64 g.den, .int .i64 g.add] 25)).alloc (.cells #[.int .i64 r.len, .int .i64 r.cap, .int .i64 r.moves, .int .i64 r.cost] 68)).alloc (.cells #[.int .i64 0, .int .i64 0, .int .i64 0, .int .i64 0] 68) = w0 := ⟨_, rfl⟩
  rw [hw0] at hb g1 g2 g3 gz
  have HB := Lib.hid hb
  have HW := Lib.hid hw0
  have hcs : w0.cell? ⟨c0, 0, none⟩ = some (.int .i64 s) := (hb.cell hcl).trans hc0
  have HG2 := Lib.hid g2
  have HG3 := Lib.hid g3
  have hs1 := (Array.getElem?_eq_some_iff.1 g2).1
  have hs2 := (Array.getElem?_eq_some_iff.1 g3).1
  have HS12 := Lib.hid (And.intro hs1 hs2)
  obtain ⟨a0, a1, a2⟩ := three_cells g1
  obtain ⟨b0, b1, b2, b3⟩ := four_cells g2
  obtain ⟨f0, f1, f2, f3⟩ := store_frozen g2
  obtain ⟨z0, z1, z2, z3⟩ := four_cells g3
  obtain ⟨e0, e1, e2, e3⟩ := store_frozen g3
  clear hb hw0 hn hc0 g1 g2 g3 hs1 hs2
  by_cases h0 : 0 ≤ n
  · have HN := Lib.hid (stepR_app (g := g) (s := s) (r := r) h0)
    obtain ⟨R, hR⟩ : ∃ R, stepR g 0 r n = R := ⟨_, rfl⟩
    rw [hR] at HAPP HN
    clear hR
    go_enter Try.func100, Try.ntmps100
    go_upto_region 2 with fail
    rw [HW.out]
    go_wp2_with fail
    refine (HAPP.out _).mono ?_
    rintro e w2 ⟨rfl, hb2⟩
    have g3 := (hb2.block _ HS12.out.2).trans HG3.out
    have HB2 := Lib.hid (HB.out.trans (hb2.mono HB.out.size))
    clear z0 z1 z2 z3 e0 e1 e2 e3 b0 b1 b2 b3 f0 f1 f2 f3 a0 a1 a2 hcs hb2
    obtain ⟨z0, z1, z2, z3⟩ := four_cells g3
    obtain ⟨e0, e1, e2, e3⟩ := store_frozen g3
    clear g3
    go_wp2_with fail
    refine bodyPost_ret (v := .tuple #[.agg #[.int .i64 R.1.len, .int .i64 R.1.cap, .int .i64 R.1.moves, .int .i64 R.1.cost], .bool R.2]) (by simp [results, Try.results100, go_sem, z0, z1, z2, z3]) rfl ⟨?_, ?_⟩
    · rw [HN.out]
    · have hB := HB2.out
      (repeat (first | (with_reducible exact Below.refl _ _) | (with_reducible refine Below.drew ?_) | ((with_reducible refine Below.alloc ?_ ?hB _); case hB => (first | (with_reducible exact Nat.le_refl _) | omega | (simp; done) | (simp; omega))) | ((with_reducible refine Below.setCell ?_ ?hB _); case hB => (first | (with_reducible exact Nat.le_refl _) | omega | (simp; done) | (simp; omega)))))
      exact hB
  · have hs0 : ¬ s = 0 := by omega
    have k1 : IntKind.i64.wrap (r.len + n) = r.len + n := IntWalk.i64_in _ (by omega)
    by_cases hl : r.len + n < 0
    · have HN : Hid (stepR g s r n = (runG0, false)) := Lib.hid (stepR_none (by unfold doG; rw [if_neg h0, if_pos (Or.inr hl)]))
      have hn0 : n < 0 := by omega
      clear h0
      go_enter Try.func100, Try.ntmps100
      go_upto_region 1 with fail
      rw [HW.out]
      go_wp2_with fail
      refine bodyPost_ret (v := .tuple #[.agg #[.int .i64 0, .int .i64 0, .int .i64 0, .int .i64 0], .bool false]) (by simp [results, Try.results100, go_sem, z0, z1, z2, z3]) rfl ⟨?_, ?_⟩
      · rw [HN.out]; rfl
      · have hB := HB.out
        (repeat (first | (with_reducible exact Below.refl _ _) | (with_reducible refine Below.drew ?_) | ((with_reducible refine Below.alloc ?_ ?hB _); case hB => (first | (with_reducible exact Nat.le_refl _) | omega | (simp; done) | (simp; omega))) | ((with_reducible refine Below.setCell ?_ ?hB _); case hB => (first | (with_reducible exact Nat.le_refl _) | omega | (simp; done) | (simp; omega)))))
        exact hB
    · have HN : Hid (stepR g s r n = (takeG s r n, true)) := Lib.hid (stepR_some (by unfold doG; rw [if_neg h0, if_neg (by omega)]))
      obtain ⟨l, hll⟩ : ∃ l, r.len + n = l := ⟨_, rfl⟩
      have hl1 : 0 ≤ l := by omega
      have hl2 : l ≤ 1000000 := by omega
      have hsl : 0 ≤ s * l ∧ s * l ≤ 8000000 := by
        have h1 : 0 ≤ s * l := Int.mul_nonneg (by omega) hl1
        have h2 : s * l ≤ 8 * l := Int.mul_le_mul_of_nonneg_right s2 hl1
        omega
      obtain ⟨p0, p1⟩ := hsl
      have k2 : IntKind.i64.wrap (s * l) = s * l := IntWalk.i64_in _ (by omega)
      have HTK : Hid (takeG s r n = if s * l ≤ r.cap ∧ 2 ≤ r.cap then ⟨r.moves + 1, r.cost + l, max r.waste (max (r.cap.tdiv 2) l - l), l, max (r.cap.tdiv 2) l⟩ else ⟨r.moves, r.cost, max r.waste (r.cap - l), l, r.cap⟩) := Lib.hid (by unfold takeG; simp only [hll])
      rw [hll] at k1 hl
      have hn0 : n < 0 := by omega
      clear h0
      by_cases hq1 : s * l ≤ r.cap
      · by_cases hq2 : 2 ≤ r.cap
        · rw [if_pos ⟨hq1, hq2⟩] at HTK
          have t0 : 0 ≤ r.cap.tdiv 2 ∧ r.cap.tdiv 2 ≤ r.cap := tdiv_le (by omega) (by omega)
          have k3 : IntKind.i64.wrap (r.cap.tdiv 2) = r.cap.tdiv 2 := IntWalk.i64_in _ (by omega)
          obtain ⟨mx, hmx⟩ : ∃ mx, max (r.cap.tdiv 2) l = mx := ⟨_, rfl⟩
          have HMX := Lib.hid hmx
          rw [hmx] at HTK
          have HM : Hid (∀ (nc : Int) (W : World), nc = mx → Calls Try.prog 80 #[.agg #[.int .i64 l, .int .i64 r.cap, .int .i64 r.moves, .int .i64 r.cost], .int .i64 nc] W fun e w' => e = .returned (.agg #[.int .i64 l, .int .i64 mx, .int .i64 (r.moves + 1), .int .i64 (r.cost + l)]) ∧ Below W.heap.size W w') := Lib.hid (fun nc W h => by subst h; exact implMoved_calls l r.cap r.moves r.cost _ ⟨m0, by omega⟩ ⟨q0, by omega⟩ ⟨hl1, by omega⟩ W)
          have HMX2 : Hid (mx = max (r.cap.tdiv 2) l) := Lib.hid hmx.symm
          clear hmx t0 hs0
          go_enter Try.func100, Try.ntmps100
          go_upto_region 1 with fail
          rw [HW.out]
          go_wp2_with fail
          all_goals
            refine (HM.out _ _ (by have := HMX2.out; omega)).mono ?_
            rintro e w3 ⟨rfl, hb3⟩
            have hs5 := hb3.size
            obtain ⟨w4, hw4⟩ : ∃ w4, w0.setCell ⟨w.heap.size + 1, 0, none⟩ (.int .i64 l) = w4 := ⟨_, rfl⟩
            rw [hw4] at hb3 hs5
            have h40 : w4.heap.size = w0.heap.size := by rw [← hw4]; simp [World.setCell]
            have g2 : w4.heap[w.heap.size + 1]? = some (.cells #[.int .i64 l, .int .i64 r.cap, .int .i64 r.moves, .int .i64 r.cost] 68) := by rw [← hw4]; simpa using heap_set_same w0 (w.heap.size + 1) 0 _ 68 (.int .i64 l) HG2.out (by simp)
            have g3 : w4.heap[w.heap.size + 1 + 1]? = some (.cells #[.int .i64 0, .int .i64 0, .int .i64 0, .int .i64 0] 68) := by rw [← hw4, Below.heap_setCell _ _ _ _ (show w.heap.size + 1 + 1 ≠ w.heap.size + 1 by omega)]; exact HG3.out
            have hb4 : Below w.heap.size w w4 := by rw [← hw4]; exact HB.out.setCell (by show w.heap.size ≤ w.heap.size + 1; omega) _
            have g2' := (hb3.block _ (Array.getElem?_eq_some_iff.1 g2).1).trans g2
            have g3' := (hb3.block _ (Array.getElem?_eq_some_iff.1 g3).1).trans g3
            have HB3 := Lib.hid (hb4.trans (hb3.mono hb4.size))
            clear z0 z1 z2 z3 e0 e1 e2 e3 b0 b1 b2 b3 f0 f1 f2 f3 a0 a1 a2 hcs hb3 hb4 hw4 g2 g3 h40 hs5
            have HG5 := Lib.hid g2'
            have HG6 := Lib.hid g3'
            obtain ⟨b0, b1, b2, b3⟩ := four_cells g2'
            obtain ⟨f0, f1, f2, f3⟩ := store_frozen g2'
            clear g2' g3'
            go_upto_region 8 with fail
            obtain ⟨w5, hw5⟩ : ∃ w5, (((w3.setCell ⟨w.heap.size + 1, 0, none⟩ (.int .i64 l)).setCell ⟨w.heap.size + 1, 1, none⟩ (.int .i64 mx)).setCell ⟨w.heap.size + 1, 2, none⟩ (.int .i64 (r.moves + 1))).setCell ⟨w.heap.size + 1, 3, none⟩ (.int .i64 (r.cost + l)) = w5 := ⟨_, rfl⟩
            have g5 : w5.heap[w.heap.size + 1]? = some (.cells #[.int .i64 l, .int .i64 mx, .int .i64 (r.moves + 1), .int .i64 (r.cost + l)] 68) := by rw [← hw5]; exact four_set HG5.out
            have g6 : w5.heap[w.heap.size + 1 + 1]? = some (.cells #[.int .i64 0, .int .i64 0, .int .i64 0, .int .i64 0] 68) := by rw [← hw5, four_other (by omega)]; exact HG6.out
            have HB5 : Hid (Below w.heap.size w w5) := Lib.hid (by rw [← hw5]; exact four_below HB3.out (by omega))
            rw [hw5]
            clear b0 b1 b2 b3 f0 f1 f2 f3 hw5
            obtain ⟨b0, b1, b2, b3⟩ := four_cells g5
            obtain ⟨z0, z1, z2, z3⟩ := four_cells g6
            obtain ⟨e0, e1, e2, e3⟩ := store_frozen g6
            clear g5 g6
            go_wp2_with fail
            refine bodyPost_ret (v := .tuple #[.agg #[.int .i64 l, .int .i64 mx, .int .i64 (r.moves + 1), .int .i64 (r.cost + l)], .bool true]) (by simp [results, Try.results100, go_sem, z0, z1, z2, z3]) rfl ⟨?_, ?_⟩
            · rw [HN.out, HTK.out]
            · have hB := HB5.out
              (repeat (first | (with_reducible exact Below.refl _ _) | (with_reducible refine Below.drew ?_) | ((with_reducible refine Below.alloc ?_ ?hB _); case hB => (first | (with_reducible exact Nat.le_refl _) | omega | (simp; done) | (simp; omega))) | ((with_reducible refine Below.setCell ?_ ?hB _); case hB => (first | (with_reducible exact Nat.le_refl _) | omega | (simp; done) | (simp; omega)))))
              exact hB
        · rw [if_neg (fun h => hq2 h.2)] at HTK
          have hq3 : r.cap < 2 := by omega
          clear hq2 hs0
          go_enter Try.func100, Try.ntmps100
          go_upto_region 1 with fail
          rw [HW.out]
          go_wp2_with fail
          refine bodyPost_ret (v := .tuple #[.agg #[.int .i64 l, .int .i64 r.cap, .int .i64 r.moves, .int .i64 r.cost], .bool true]) (by simp [results, Try.results100, go_sem, z0, z1, z2, z3]) rfl ⟨?_, ?_⟩
          · rw [HN.out, HTK.out]
          · have hB := HB.out
            (repeat (first | (with_reducible exact Below.refl _ _) | (with_reducible refine Below.drew ?_) | ((with_reducible refine Below.alloc ?_ ?hB _); case hB => (first | (with_reducible exact Nat.le_refl _) | omega | (simp; done) | (simp; omega))) | ((with_reducible refine Below.setCell ?_ ?hB _); case hB => (first | (with_reducible exact Nat.le_refl _) | omega | (simp; done) | (simp; omega)))))
            exact hB
      · rw [if_neg (fun h => hq1 h.1)] at HTK
        have hq3 : r.cap < s * l := by omega
        clear hq1 hs0
        go_enter Try.func100, Try.ntmps100
        go_upto_region 1 with fail
        rw [HW.out]
        go_wp2_with fail
        refine bodyPost_ret (v := .tuple #[.agg #[.int .i64 l, .int .i64 r.cap, .int .i64 r.moves, .int .i64 r.cost], .bool true]) (by simp [results, Try.results100, go_sem, z0, z1, z2, z3]) rfl ⟨?_, ?_⟩
        · rw [HN.out, HTK.out]
        · have hB := HB.out
          (repeat (first | (with_reducible exact Below.refl _ _) | (with_reducible refine Below.drew ?_) | ((with_reducible refine Below.alloc ?_ ?hB _); case hB => (first | (with_reducible exact Nat.le_refl _) | omega | (simp; done) | (simp; omega))) | ((with_reducible refine Below.setCell ?_ ?hB _); case hB => (first | (with_reducible exact Nat.le_refl _) | omega | (simp; done) | (simp; omega)))))
          exact hB
theorem implShrinkBy_calls (s : Int) (w : World) :
    Calls Try.prog 85 #[.int .i64 s] w fun e w' => ∃ c0, e = .returned (.func (.func 100) #[] #[.pointer (some ⟨c0, 0, none⟩)]) ∧ w'.heap[c0]? = some (.cells #[.int .i64 s] 3) ∧ Below w.heap.size w w' := by
  have hmf : ∀ (fn : Fn) (first cap : Array Value) (w : World), (Instr.makeFunc fn first cap).run Try.prog w = .ok (.func fn first cap) w := fun _ _ _ _ => rfl
  go_enter Try.func85, Try.ntmps85
  go_wp2_with fail
  go_ret
  exact ⟨_, rfl, heap_alloc_new _ _, (Below.refl _ _).alloc (Nat.le_refl _) _⟩
/-- The runs of a list of changes, with shrinking. -/
def shrS (g : GR) (s : Int) (xs : List Int) : List RunG × Bool := if shrinkOK s then listS g s xs else ([], false)
theorem shrS_len (g : GR) (s : Int) (xs : List Int) : (shrS g s xs).1.length ≤ 40 := by
  unfold shrS
  split
  · exact listS_len g s xs
  · simp
theorem capsSR_L (g : GR) (s : Int) (xs : List Int) : capsSR g s xs = ((shrS g s xs).1.map RunG.cap, (shrS g s xs).2) := by
  unfold capsSR shrS
  split
  · exact capsR_S g s xs
  · rfl
theorem costSR_L (g : GR) (s : Int) (xs : List Int) : costSR g s xs = (((shrS g s xs).1.getLastD runG0).cost, (shrS g s xs).2) := by
  unfold costSR shrS
  split
  · exact numR_S RunG.cost rfl g s xs
  · rfl
theorem capsSR_small (g : GR) (s : Int) (xs : List Int) : (capsSR g s xs).1.length ≤ 40 := by
  rw [capsSR_L]; simpa using shrS_len g s xs
set_option maxRecDepth 20000 in
set_option maxHeartbeats 1600000 in
theorem implShrStores_calls (g : GR) (s : Int) (C : Option Addr) (cn : Nat) (xs : List Int) (w : World) (hga : GArg g) (hx : Rd w w.heap.size C (intV .i64 xs)) (hn : xs.length ≤ maxLen) (hwf : ∀ x ∈ xs, (Lit.int .i64 x).wf = true) :
    Calls Try.prog 66 #[.agg #[.int .i64 g.num, .int .i64 g.den, .int .i64 g.add], .int .i64 s, .slice C xs.length cn] w
      fun e w' => ∃ gs c, e = .returned (.tuple #[.slice (some ⟨gs, 0, none⟩) (shrS g s xs).1.length c, .bool (shrS g s xs).2]) ∧ RdS w' gs (shrS g s xs).1 ∧ w.heap.size ≤ gs ∧ Below w.heap.size w w' := by
  unfold maxLen at hn
  obtain ⟨w0, hw0, hb0, hg0⟩ := enterG g w
  have HA : Hid (∀ W, Below w0.heap.size w0 W → W.cell? ⟨w.heap.size, 0, none⟩ = some (.int .i64 g.num) ∧ W.cell? ⟨w.heap.size, 1, none⟩ = some (.int .i64 g.den) ∧ W.cell? ⟨w.heap.size, 2, none⟩ = some (.int .i64 g.add)) := Lib.hid fun W hb => three_cells ((hb.block _ (Array.getElem?_eq_some_iff.1 hg0).1).trans hg0)
  have HW := Lib.hid hw0
  have HB1 := Lib.hid hb0
  have HX := Lib.hid hx
  have HWF := Lib.hid hwf
  have hs0 : w.heap.size < w0.heap.size := (Array.getElem?_eq_some_iff.1 hg0).1
  clear hw0 hb0 hg0 hx hwf
  by_cases hs : shrinkOK s
  · by_cases h40 : xs.length ≤ 40
    · have HN : Hid (shrS g s xs = storesR g s xs) := Lib.hid (by unfold shrS listS; rw [if_pos hs, if_pos h40])
      have HC : Hid (∀ (W : World) (c0 : Nat), W.heap[c0]? = some (.cells #[.int .i64 s] 3) → Below w0.heap.size w0 W → Calls Try.prog 83 #[.agg #[.int .i64 g.num, .int .i64 g.den, .int .i64 g.add], .func (.func 100) #[] #[.pointer (some ⟨c0, 0, none⟩)], .slice C xs.length cn] W
          fun e w' => ∃ gs c, e = .returned (.tuple #[.slice (some ⟨gs, 0, none⟩) (storesR g s xs).1.length c, .bool (storesR g s xs).2]) ∧ RdS w' gs (storesR g s xs).1 ∧ W.heap.size ≤ gs ∧ Below W.heap.size W w') := Lib.hid (fun W c0 h1 h2 => by
        have hcl := (Array.getElem?_eq_some_iff.1 h1).1
        exact implStoresS_calls g hga s (by have := hs.1; omega) c0 C cn xs W ((HX.out.below (HB1.out.trans (h2.mono HB1.out.size))).more (Nat.le_trans HB1.out.size h2.size)) (by omega) HWF.out (fun hg r kk n W2 hb2 hr hk hw2 => implShrinkStep_calls g hg s hs c0 r kk hr hk n hw2 W2 (by have h3 := (hb2.block _ hcl).trans h1; simp [World.cell?, h3]) (Nat.lt_of_lt_of_le hcl hb2.size)))
      have hs' := hs
      obtain ⟨s1, s2⟩ := hs'
      clear hs
      go_enter Try.func66, Try.ntmps66
      go_upto_region 3 with fail
      rw [HW.out]
      obtain ⟨a0, a1, a2⟩ := HA.out w0.drew (Below.refl _ _).drew
      go_region_held3 (fun W => W.cell? ⟨w.heap.size, 0, none⟩ = some (.int .i64 g.num) ∧ W.cell? ⟨w.heap.size, 1, none⟩ = some (.int .i64 g.den) ∧ W.cell? ⟨w.heap.size, 2, none⟩ = some (.int .i64 g.add))
        (first | (with_reducible exact ⟨a0, a1, a2⟩) | (exact HA.out _ hc3) | (exact HA.out _ hc2))
        (first | (go_at_call 85; (with_reducible refine (implShrinkBy_calls s _).mono ?_); rintro e w2 ⟨c0, rfl, hg2, hb2⟩; have hc2 : Below w0.heap.size w0 w2 := below_drwG hb2) | (go_at_call 83; (with_reducible refine (HC.out w2 c0 hg2 hc2).mono ?_); rintro e w3 ⟨gs, c, rfl, hr3, hgs, hb3⟩; have hc3 : Below w0.heap.size w0 w3 := hc2.trans (hb3.mono hc2.size)))
      all_goals (go_wp2_with fail)
      all_goals go_ret2
      all_goals exact ⟨gs, c, by rw [HN.out]; rfl, by rw [HN.out]; exact hr3, by have := hc2.size; omega, HB1.out.trans (hc3.mono HB1.out.size)⟩
    · have HN : Hid (shrS g s xs = ([], false)) := Lib.hid (by unfold shrS listS; rw [if_pos hs, if_neg h40])
      have h41 : 40 < xs.length := by omega
      obtain ⟨s1, s2⟩ := hs
      clear h40
      go_enter Try.func66, Try.ntmps66
      go_upto_region 1 with fail
      rw [HW.out]
      go_wp2_with fail
      go_ret2
      first | (exact ⟨_, _, by rw [HN.out]; rfl, by rw [HN.out]; exact ⟨#[], heap_new_at (by first | (simp; done) | rfl), fun j hj => absurd hj (Nat.not_lt_zero _)⟩, by have := HB1.out.size; first | omega | (simp; omega), by have hB := HB1.out; have hs := hB.size; (repeat (first | (with_reducible exact Below.refl _ _) | (with_reducible refine Below.drew ?_) | ((with_reducible refine Below.alloc ?_ ?hB _); case hB => (first | (with_reducible exact Nat.le_refl _) | omega | (simp; done) | (simp; omega))) | ((with_reducible refine Below.setCell ?_ ?hB _); case hB => (first | (with_reducible exact Nat.le_refl _) | omega | (simp; done) | (simp; omega))))); exact hB⟩) | (exact ⟨_, ⟨_, by rw [HN.out]; rfl⟩, by rw [HN.out]; exact ⟨#[], heap_new_at (by first | (simp; done) | rfl), fun j hj => absurd hj (Nat.not_lt_zero _)⟩, by have := HB1.out.size; first | omega | (simp; omega), by have hB := HB1.out; have hs := hB.size; (repeat (first | (with_reducible exact Below.refl _ _) | (with_reducible refine Below.drew ?_) | ((with_reducible refine Below.alloc ?_ ?hB _); case hB => (first | (with_reducible exact Nat.le_refl _) | omega | (simp; done) | (simp; omega))) | ((with_reducible refine Below.setCell ?_ ?hB _); case hB => (first | (with_reducible exact Nat.le_refl _) | omega | (simp; done) | (simp; omega))))); exact hB⟩)
  · have HN : Hid (shrS g s xs = ([], false)) := Lib.hid (by unfold shrS; rw [if_neg hs])
    by_cases s1 : s < 2
    · clear hs
      go_enter Try.func66, Try.ntmps66
      go_upto_region 1 with fail
      rw [HW.out]
      go_wp2_with fail
      go_ret2
      first | (exact ⟨_, _, by rw [HN.out]; rfl, by rw [HN.out]; exact ⟨#[], heap_new_at (by first | (simp; done) | rfl), fun j hj => absurd hj (Nat.not_lt_zero _)⟩, by have := HB1.out.size; first | omega | (simp; omega), by have hB := HB1.out; have hs := hB.size; (repeat (first | (with_reducible exact Below.refl _ _) | (with_reducible refine Below.drew ?_) | ((with_reducible refine Below.alloc ?_ ?hB _); case hB => (first | (with_reducible exact Nat.le_refl _) | omega | (simp; done) | (simp; omega))) | ((with_reducible refine Below.setCell ?_ ?hB _); case hB => (first | (with_reducible exact Nat.le_refl _) | omega | (simp; done) | (simp; omega))))); exact hB⟩) | (exact ⟨_, ⟨_, by rw [HN.out]; rfl⟩, by rw [HN.out]; exact ⟨#[], heap_new_at (by first | (simp; done) | rfl), fun j hj => absurd hj (Nat.not_lt_zero _)⟩, by have := HB1.out.size; first | omega | (simp; omega), by have hB := HB1.out; have hs := hB.size; (repeat (first | (with_reducible exact Below.refl _ _) | (with_reducible refine Below.drew ?_) | ((with_reducible refine Below.alloc ?_ ?hB _); case hB => (first | (with_reducible exact Nat.le_refl _) | omega | (simp; done) | (simp; omega))) | ((with_reducible refine Below.setCell ?_ ?hB _); case hB => (first | (with_reducible exact Nat.le_refl _) | omega | (simp; done) | (simp; omega))))); exact hB⟩)
    · have s2 : 8 < s := by unfold shrinkOK at hs; omega
      clear hs
      go_enter Try.func66, Try.ntmps66
      go_upto_region 1 with fail
      rw [HW.out]
      go_wp2_with fail
      go_ret2
      first | (exact ⟨_, _, by rw [HN.out]; rfl, by rw [HN.out]; exact ⟨#[], heap_new_at (by first | (simp; done) | rfl), fun j hj => absurd hj (Nat.not_lt_zero _)⟩, by have := HB1.out.size; first | omega | (simp; omega), by have hB := HB1.out; have hs := hB.size; (repeat (first | (with_reducible exact Below.refl _ _) | (with_reducible refine Below.drew ?_) | ((with_reducible refine Below.alloc ?_ ?hB _); case hB => (first | (with_reducible exact Nat.le_refl _) | omega | (simp; done) | (simp; omega))) | ((with_reducible refine Below.setCell ?_ ?hB _); case hB => (first | (with_reducible exact Nat.le_refl _) | omega | (simp; done) | (simp; omega))))); exact hB⟩) | (exact ⟨_, ⟨_, by rw [HN.out]; rfl⟩, by rw [HN.out]; exact ⟨#[], heap_new_at (by first | (simp; done) | rfl), fun j hj => absurd hj (Nat.not_lt_zero _)⟩, by have := HB1.out.size; first | omega | (simp; omega), by have hB := HB1.out; have hs := hB.size; (repeat (first | (with_reducible exact Below.refl _ _) | (with_reducible refine Below.drew ?_) | ((with_reducible refine Below.alloc ?_ ?hB _); case hB => (first | (with_reducible exact Nat.le_refl _) | omega | (simp; done) | (simp; omega))) | ((with_reducible refine Below.setCell ?_ ?hB _); case hB => (first | (with_reducible exact Nat.le_refl _) | omega | (simp; done) | (simp; omega))))); exact hB⟩)
set_option maxRecDepth 20000 in
set_option maxHeartbeats 800000 in
theorem implShrinkCaps_calls (g : GR) (s : Int) (C : Option Addr) (cn : Nat) (xs : List Int) (w : World) (hga : GArg g) (hx : Rd w w.heap.size C (intV .i64 xs)) (hn : xs.length ≤ maxLen) (hwf : ∀ x ∈ xs, (Lit.int .i64 x).wf = true) :
    Calls Try.prog 39 #[.agg #[.int .i64 g.num, .int .i64 g.den, .int .i64 g.add], .int .i64 s, .slice C xs.length cn] w fun e w' => ∃ v, e = .returned (.tuple #[v, .bool (capsSR g s xs).2]) ∧ w'.ownsRow w.heap.size 3 1 v (capsSR g s xs).1.length (intV .i64 (capsSR g s xs).1) ∧ Below w.heap.size w w' := by
  obtain ⟨w0, hw0, hb0, hg0⟩ := enterG g w
  obtain ⟨a0, a1, a2⟩ := three_cells hg0
  have HW := Lib.hid hw0
  have HB1 := Lib.hid hb0
  have HC := Lib.hid (implShrStores_calls g s C cn xs w0 hga ((hx.below hb0).more hb0.size) hn hwf)
  have hLl := shrS_len g s xs
  have HV := Lib.hid (capsSR_L g s xs)
  obtain ⟨L, hL⟩ : ∃ L, (shrS g s xs).1 = L := ⟨_, rfl⟩
  obtain ⟨b, hbb⟩ : ∃ b, (shrS g s xs).2 = b := ⟨_, rfl⟩
  rw [hL, hbb] at HC HV
  rw [hL] at hLl
  clear hw0 hb0 hg0 hx hwf hL hbb
  go_enter Try.func39, Try.ntmps39
  go_wp2_with fail
  rw [HW.out]
  refine HC.out.mono ?_
  rintro e w1 ⟨gs, c, rfl, hr1, hgs, hb1⟩
  have HR1 := Lib.hid (And.intro hr1 (HB1.out.trans (hb1.mono HB1.out.size)))
  clear hb1 hr1 a0 a1 a2
  have HL := Lib.hid (implCapsIn_calls gs c L w1 HR1.out.1 (by omega))
  go_wp2_with fail
  refine HL.out.mono ?_
  rintro e w2 ⟨gc, rfl, ho2, hb2⟩
  have HB2 := Lib.hid (And.intro (own_monoG ho2 HR1.out.2.size) (HR1.out.2.trans (hb2.mono HR1.out.2.size)))
  clear hb2 ho2
  go_wp2_with fail
  go_ret2
  exact ⟨_, by rw [HV.out]; rfl, by rw [HV.out]; simpa using HB2.out.1, HB2.out.2⟩
set_option maxRecDepth 20000 in
set_option maxHeartbeats 800000 in
theorem implShrinkCost_calls (g : GR) (s : Int) (C : Option Addr) (cn : Nat) (xs : List Int) (w : World) (hga : GArg g) (hx : Rd w w.heap.size C (intV .i64 xs)) (hn : xs.length ≤ maxLen) (hwf : ∀ x ∈ xs, (Lit.int .i64 x).wf = true) :
    Calls Try.prog 41 #[.agg #[.int .i64 g.num, .int .i64 g.den, .int .i64 g.add], .int .i64 s, .slice C xs.length cn] w fun e w' => e = .returned (.tuple #[.int .i64 (costSR g s xs).1, .bool (costSR g s xs).2]) ∧ Below w.heap.size w w' := by
  obtain ⟨w0, hw0, hb0, hg0⟩ := enterG g w
  obtain ⟨a0, a1, a2⟩ := three_cells hg0
  have HW := Lib.hid hw0
  have HB1 := Lib.hid hb0
  have HC := Lib.hid (implShrStores_calls g s C cn xs w0 hga ((hx.below hb0).more hb0.size) hn hwf)
  have hLl := shrS_len g s xs
  have HV := Lib.hid (costSR_L g s xs)
  obtain ⟨L, hL⟩ : ∃ L, (shrS g s xs).1 = L := ⟨_, rfl⟩
  obtain ⟨b, hbb⟩ : ∃ b, (shrS g s xs).2 = b := ⟨_, rfl⟩
  rw [hL, hbb] at HC HV
  rw [hL] at hLl
  clear hw0 hb0 hg0 hx hwf hL hbb
  go_enter Try.func41, Try.ntmps41
  go_wp2_with fail
  rw [HW.out]
  refine HC.out.mono ?_
  rintro e w1 ⟨gs, c, rfl, hr1, hgs, hb1⟩
  have HR1 := Lib.hid (And.intro hr1 (HB1.out.trans (hb1.mono HB1.out.size)))
  clear hb1 hr1 a0 a1 a2
  have HL := Lib.hid (implLast_calls gs c L w1 HR1.out.1 (by omega))
  obtain ⟨rl, hrl⟩ : ∃ rl, L.getLastD runG0 = rl := ⟨_, rfl⟩
  rw [hrl] at HL HV
  clear hrl
  have hfd : ∀ W : World, (Instr.field 68 (.agg #[.int .i64 rl.len, .int .i64 rl.cap, .int .i64 rl.moves, .int .i64 rl.cost]) 3).run Try.prog W = .ok (.int .i64 rl.cost) W := fun _ => by kernel_rfl
  go_wp2_with fail
  refine HL.out.mono ?_
  rintro e w2 ⟨rfl, hb2⟩
  have HB2 := Lib.hid (HR1.out.2.trans (hb2.mono HR1.out.2.size))
  clear hb2
  go_wp2_with fail
  go_ret2
  exact ⟨by rw [HV.out]; rfl, HB2.out⟩
end Go.Proofs.Ytiimbojcnmbebaa
