/-
  FnExactShrinkCost: the walk.
-/
import Derived.Test.YtiimbojcnmbebaaGrA
import Derived.Test.YtiimbojcnmbebaaIntT
import Derived.Test.YtiimbojcnmbebaaGrG
import Derived.Test.YtiimbojcnmbebaaGrX
namespace Go.Proofs.Ytiimbojcnmbebaa
open Go.RowKit

set_option maxRecDepth 100000 in
set_option maxHeartbeats 3200000 in
theorem fnExactShrinkCost_walk (g : GR) (s : Int) (A : Option Addr) (len cap : Nat) (xs : List Int) (w : World) (hg : GArg g) (_hs : (Lit.int .i64 s).wf = true) (hX : IntArg .i64 w A len cap xs) :
    Calls Try.prog 13 #[.agg #[.int .i64 g.num, .int .i64 g.den, .int .i64 g.add], .int .i64 s, .slice A len cap] w fun e w' => e = .returned (.bool true) ∧ Below w.heap.size w w' := by
  obtain ⟨rfl, h1, h2, hr, hwf⟩ := hX
  have hlen : xs.length ≤ maxLen := by omega
  obtain ⟨w0, hw0⟩ : ∃ w0, w.alloc (.cells #[.int .i64 g.num, .int .i64 g.den, .int .i64 g.add] 23) = w0 := ⟨_, rfl⟩
  have hb0 : Below w.heap.size w w0 := by rw [← hw0]; exact (Below.refl _ _).alloc (Nat.le_refl _) _
  have hg0 : w0.heap[w.heap.size]? = some (.cells #[.int .i64 g.num, .int .i64 g.den, .int .i64 g.add] 23) := by rw [← hw0]; exact heap_alloc_new _ _
  have HA : Hid (∀ W, Below w0.heap.size w0 W → W.cell? ⟨w.heap.size, 0, none⟩ = some (.int .i64 g.num) ∧ W.cell? ⟨w.heap.size, 1, none⟩ = some (.int .i64 g.den) ∧ W.cell? ⟨w.heap.size, 2, none⟩ = some (.int .i64 g.add)) := Lib.hid fun W hb => three_cells ((hb.block _ (Array.getElem?_eq_some_iff.1 hg0).1).trans hg0)
  have HB := Lib.hid hb0
  have HW := Lib.hid hw0
  have HR := Lib.hid hr
  clear hw0 hb0 hg0 hr
  by_cases hbig : 1048576 < xs.length
  · clear hwf
    unfold maxLen at hlen
    go_enter Try.func13, Try.ntmps13
    go_wp2_with fail
    go_ret
    exact ⟨rfl, by rw [HW.out]; exact HB.out⟩
  have hx1 : xs.length ≤ 1048576 := by omega
  have HT := Lib.hid (fun W (hb : Below w0.heap.size w0 W) => toIntS_calls A cap xs W ((HR.out.below (HB.out.trans (hb.mono HB.out.size))).more (Nat.le_trans HB.out.size hb.size)) hx1)
  obtain ⟨q0, hq0⟩ : ∃ q, ((costSR g s xs).1) = q := ⟨_, rfl⟩
  have nq0 : (q0 != q0) = false := by simp
  obtain ⟨q1, hq1⟩ : ∃ q, ((costSR g s xs).2) = q := ⟨_, rfl⟩
  have nq1 : (q1 != q1) = false := by simp
  have HSP : Hid (∀ W X k, Rd W W.heap.size X (intV .i64 xs) → Calls Try.prog 40 #[.agg #[.int .i64 g.num, .int .i64 g.den, .int .i64 g.add], .int .i64 s, .slice X xs.length k] W fun e w' => e = .returned (.tuple #[.int .i64 q0, .bool q1]) ∧ Below W.heap.size W w') := Lib.hid (fun W X k hx => by have hq := specShrinkCost_calls g s X k xs W hx hlen hwf; rw [hq0, hq1] at hq; exact hq)
  have HIP : Hid (∀ W X k, Rd W W.heap.size X (intV .i64 xs) → Calls Try.prog 41 #[.agg #[.int .i64 g.num, .int .i64 g.den, .int .i64 g.add], .int .i64 s, .slice X xs.length k] W fun e w' => e = .returned (.tuple #[.int .i64 q0, .bool q1]) ∧ Below W.heap.size W w') := Lib.hid (fun W X k hx => by have hq := implShrinkCost_calls g s X k xs W hg hx hlen hwf; rw [hq0, hq1] at hq; exact hq)
  have HE := Lib.hid (fun W X Y cx cy (hx : Rd W W.heap.size X (intV .i64 xs)) (hy : Rd W W.heap.size Y (intV .i64 xs)) => eqI_calls X Y cx cy W hx hy (by omega))
  clear hwf hq0 hq1 hg
  have hlen2 : xs.length ≤ 9223372036854775807 := by omega
  clear hlen h1 h2
  obtain ⟨c0, c1, c2⟩ := HA.out w0 (Below.refl _ _)
  have HBw0 := Lib.hid (Below.refl w0.heap.size w0)
  go_enter Try.func13, Try.ntmps13
  go_wp2_with fail
  rw [HW.out]
  refine (toRule_calls g w0).mono ?_
  rintro e w1 ⟨rfl, hb1⟩
  have HBw1 := Lib.hid (HBw0.out.trans (hb1.mono HBw0.out.size))
  clear hb1 c0 c1 c2
  go_wp2_with fail
  refine (HT.out _ HBw1.out).mono ?_
  rintro e w2 ⟨v2, rfl, ho2, hb2⟩
  obtain ⟨A2, k2, rfl⟩ := own_form ho2
  have HT2 := Lib.hid (show OwnR w2 w1.heap.size w2.heap.size 3 (.slice A2 xs.length k2) (intV .i64 xs) from OwnR.new (by rw [intV_len]; exact ho2))
  have HZ2 := Lib.hid hb2.size
  have HBw2 := Lib.hid (HBw1.out.trans (hb2.mono HBw1.out.size))
  clear ho2 hb2
  go_wp2_with fail
  refine (HSP.out w2 A2 k2 (ownI_rd HT2.out)).mono ?_
  rintro e w3 ⟨rfl, hb3⟩
  have HT3 := Lib.hid (HT2.out.below hb3)
  have HBw3 := Lib.hid (HBw2.out.trans (hb3.mono HBw2.out.size))
  clear hb3
  go_wp2_with fail
  refine (HT.out _ HBw3.out).mono ?_
  rintro e w4 ⟨v4, rfl, ho4, hb4⟩
  obtain ⟨A4, k4, rfl⟩ := own_form ho4
  have HX4 := Lib.hid (show OwnR w4 w3.heap.size w4.heap.size 3 (.slice A4 xs.length k4) (intV .i64 xs) from OwnR.new (by rw [intV_len]; exact ho4))
  have HZ4 := Lib.hid hb4.size
  have HBw4 := Lib.hid (HBw3.out.trans (hb4.mono HBw3.out.size))
  clear ho4 hb4
  obtain ⟨c0, c1, c2⟩ := HA.out w4 HBw4.out
  go_wp2_with fail
  refine (toRule_calls g w4).mono ?_
  rintro e w5 ⟨rfl, hb5⟩
  have HX5 := Lib.hid (HX4.out.below hb5)
  have HBw5 := Lib.hid (HBw4.out.trans (hb5.mono HBw4.out.size))
  clear hb5 c0 c1 c2
  go_wp2_with fail
  refine (HIP.out w5 A4 k4 (ownI_rd HX5.out)).mono ?_
  rintro e w6 ⟨rfl, hb6⟩
  have HX6 := Lib.hid (HX5.out.below hb6)
  have HBw6 := Lib.hid (HBw5.out.trans (hb6.mono HBw5.out.size))
  clear hb6
  go_wp2_with fail
  refine (HT.out _ HBw6.out).mono ?_
  rintro e w7 ⟨v7, rfl, ho7, hb7⟩
  obtain ⟨A7, k7, rfl⟩ := own_form ho7
  have HY7 := Lib.hid (show OwnR w7 w6.heap.size w7.heap.size 3 (.slice A7 xs.length k7) (intV .i64 xs) from OwnR.new (by rw [intV_len]; exact ho7))
  have HZ7 := Lib.hid hb7.size
  have HX7 := Lib.hid (HX6.out.below hb7)
  have HBw7 := Lib.hid (HBw6.out.trans (hb7.mono HBw6.out.size))
  clear ho7 hb7
  go_wp2_with fail
  refine (HE.out w7 A4 A7 k4 k7 (ownI_rd HX7.out) (ownI_rd HY7.out)).mono ?_
  rintro e w8 ⟨rfl, hb8⟩
  have HX8 := Lib.hid (HX7.out.below hb8)
  have HY8 := Lib.hid (HY7.out.below hb8)
  have HBw8 := Lib.hid (HBw7.out.trans (hb8.mono HBw7.out.size))
  clear hb8
  go_wp2_with fail
  go_ret
  exact ⟨rfl, HB.out.trans (HBw8.out.mono HB.out.size)⟩
end Go.Proofs.Ytiimbojcnmbebaa
