/-
  FnExactShrinkCaps: the walk.
-/
import Derived.Test.YtiimbojcnmbebaaGrA
import Derived.Test.YtiimbojcnmbebaaIntT
import Derived.Test.YtiimbojcnmbebaaGrG
import Derived.Test.YtiimbojcnmbebaaGrX
namespace Go.Proofs.Ytiimbojcnmbebaa
open Go.RowKit

set_option maxRecDepth 100000 in
set_option maxHeartbeats 3200000 in
theorem fnExactShrinkCaps_walk (g : GR) (s : Int) (A : Option Addr) (len cap : Nat) (xs : List Int) (w : World) (hg : GArg g) (_hs : (Lit.int .i64 s).wf = true) (hX : IntArg .i64 w A len cap xs) :
    Calls Try.prog 12 #[.agg #[.int .i64 g.num, .int .i64 g.den, .int .i64 g.add], .int .i64 s, .slice A len cap] w fun e w' => e = .returned (.bool true) ∧ Below w.heap.size w w' := by
  obtain ⟨rfl, h1, h2, hr, hwf⟩ := hX
  have hlen : xs.length ≤ maxLen := by omega
  obtain ⟨w0, hw0⟩ : ∃ w0, w.alloc (.cells #[.int .i64 g.num, .int .i64 g.den, .int .i64 g.add] 23) = w0 := ⟨_, rfl⟩
  have hb0 : Below w.heap.size w w0 := by rw [← hw0]; exact (Below.refl _ _).alloc (Nat.le_refl _) _
  have hg0 : w0.heap[w.heap.size]? = some (.cells #[.int .i64 g.num, .int .i64 g.den, .int .i64 g.add] 23) := by rw [← hw0]; exact heap_alloc_new _ _
  have HA : Hid (∀ W, Below w0.heap.size w0 W → W.cell? ⟨w.heap.size, 0, none⟩ = some (.int .i64 g.num) ∧ W.cell? ⟨w.heap.size, 1, none⟩ = some (.int .i64 g.den) ∧ W.cell? ⟨w.heap.size, 2, none⟩ = some (.int .i64 g.add)) := Lib.hid fun W hb => three_cells ((hb.block _ (Array.getElem?_eq_some_iff.1 hg0).1).trans hg0)
  have HB := Lib.hid hb0
  have HW := Lib.hid hw0
  have HR := Lib.hid hr
  clear hw0 hb0 hg0 hr
  by_cases hbig : 1048576 < xs.length
  · clear hwf
    unfold maxLen at hlen
    go_enter Try.func12, Try.ntmps12
    go_wp2_with fail
    go_ret
    exact ⟨rfl, by rw [HW.out]; exact HB.out⟩
  have hx1 : xs.length ≤ 1048576 := by omega
  have HT := Lib.hid (fun W (hb : Below w0.heap.size w0 W) => toIntS_calls A cap xs W ((HR.out.below (HB.out.trans (hb.mono HB.out.size))).more (Nat.le_trans HB.out.size hb.size)) hx1)
  have hsm := capsSR_small g s xs
  obtain ⟨R, p, hform⟩ : ∃ (R : List Int) (p : Bool), capsSR g s xs = (R, p) := ⟨_, _, rfl⟩
  rw [hform] at hsm
  have hR1 : R.length ≤ 2097152 := by simp only at hsm; omega
  clear hsm
  have hself : (p != p) = false := by simp
  have HSP : Hid (∀ W X k, Rd W W.heap.size X (intV .i64 xs) → Calls Try.prog 38 #[.agg #[.int .i64 g.num, .int .i64 g.den, .int .i64 g.add], .int .i64 s, .slice X xs.length k] W fun e w' => ∃ v, e = .returned (.tuple #[v, .bool p]) ∧ w'.ownsRow W.heap.size 3 1 v R.length (intV .i64 R) ∧ Below W.heap.size W w') := Lib.hid (fun W X k hx => by have hq := specShrinkCaps_calls g s X k xs W hx hlen hwf; rw [hform] at hq; exact hq)
  have HIP : Hid (∀ W X k, Rd W W.heap.size X (intV .i64 xs) → Calls Try.prog 39 #[.agg #[.int .i64 g.num, .int .i64 g.den, .int .i64 g.add], .int .i64 s, .slice X xs.length k] W fun e w' => ∃ v, e = .returned (.tuple #[v, .bool p]) ∧ w'.ownsRow W.heap.size 3 1 v R.length (intV .i64 R) ∧ Below W.heap.size W w') := Lib.hid (fun W X k hx => by have hq := implShrinkCaps_calls g s X k xs W hg hx hlen hwf; rw [hform] at hq; exact hq)
  have HE := Lib.hid (fun W X Y cx cy (hx : Rd W W.heap.size X (intV .i64 xs)) (hy : Rd W W.heap.size Y (intV .i64 xs)) => eqI_calls X Y cx cy W hx hy (by omega))
  have HER := Lib.hid (fun W X Y cx cy (hx : Rd W W.heap.size X (intV .i64 R)) (hy : Rd W W.heap.size Y (intV .i64 R)) => eqI_calls X Y cx cy W hx hy hR1)
  clear hwf hform hg
  have hlen2 : xs.length ≤ 9223372036854775807 := by omega
  clear hlen h1 h2
  obtain ⟨c0, c1, c2⟩ := HA.out w0 (Below.refl _ _)
  have HBw0 := Lib.hid (Below.refl w0.heap.size w0)
  go_enter Try.func12, Try.ntmps12
  go_wp2_with fail
  rw [HW.out]
  refine (toRule_calls g w0).mono ?_
  rintro e w1 ⟨rfl, hb1⟩
  have HBw1 := Lib.hid (HBw0.out.trans (hb1.mono HBw0.out.size))
  have HG1 := Lib.hid (show w0.heap.size ≤ w1.heap.size from hb1.size)
  clear hb1 c0 c1 c2
  go_wp2_with fail
  refine (HT.out _ HBw1.out).mono ?_
  rintro e w2 ⟨v2, rfl, ho2, hb2⟩
  obtain ⟨A2, k2, rfl⟩ := own_form ho2
  have HT2 := Lib.hid (show OwnR w2 w1.heap.size w2.heap.size 3 (.slice A2 xs.length k2) (intV .i64 xs) from OwnR.new (by rw [intV_len]; exact ho2))
  have HZ2 := Lib.hid hb2.size
  have HBw2 := Lib.hid (HBw1.out.trans (hb2.mono HBw1.out.size))
  have HG2 := Lib.hid (show w1.heap.size ≤ w2.heap.size from hb2.size)
  clear ho2 hb2
  go_wp2_with fail
  refine (HSP.out w2 A2 k2 (ownI_rd HT2.out)).mono ?_
  rintro e w3 ⟨v3, rfl, ho3, hb3⟩
  obtain ⟨A3, k3, rfl⟩ := own_form ho3
  have HP3 := Lib.hid (show OwnR w3 w2.heap.size w3.heap.size 3 (.slice A3 R.length k3) (intV .i64 R) from OwnR.new (by rw [intV_len]; exact ho3))
  have HZ3 := Lib.hid hb3.size
  have HT3 := Lib.hid (HT2.out.below hb3)
  have HBw3 := Lib.hid (HBw2.out.trans (hb3.mono HBw2.out.size))
  have HG3 := Lib.hid (show w2.heap.size ≤ w3.heap.size from hb3.size)
  clear ho3 hb3
  go_wp2_with fail
  refine (HT.out _ HBw3.out).mono ?_
  rintro e w4 ⟨v4, rfl, ho4, hb4⟩
  obtain ⟨A4, k4, rfl⟩ := own_form ho4
  have HX4 := Lib.hid (show OwnR w4 w3.heap.size w4.heap.size 3 (.slice A4 xs.length k4) (intV .i64 xs) from OwnR.new (by rw [intV_len]; exact ho4))
  have HZ4 := Lib.hid hb4.size
  have HP4 := Lib.hid (HP3.out.below hb4)
  have HBw4 := Lib.hid (HBw3.out.trans (hb4.mono HBw3.out.size))
  have HG4 := Lib.hid (show w3.heap.size ≤ w4.heap.size from hb4.size)
  clear ho4 hb4
  obtain ⟨c0, c1, c2⟩ := HA.out w4 HBw4.out
  go_wp2_with fail
  refine (toRule_calls g w4).mono ?_
  rintro e w5 ⟨rfl, hb5⟩
  have HP5 := Lib.hid (HP4.out.below hb5)
  have HX5 := Lib.hid (HX4.out.below hb5)
  have HBw5 := Lib.hid (HBw4.out.trans (hb5.mono HBw4.out.size))
  have HG5 := Lib.hid (show w4.heap.size ≤ w5.heap.size from hb5.size)
  clear hb5 c0 c1 c2
  go_wp2_with fail
  refine (HIP.out w5 A4 k4 (ownI_rd HX5.out)).mono ?_
  rintro e w6 ⟨v6, rfl, ho6, hb6⟩
  obtain ⟨A6, k6, rfl⟩ := own_form ho6
  have HQ6 := Lib.hid (show OwnR w6 w5.heap.size w6.heap.size 3 (.slice A6 R.length k6) (intV .i64 R) from OwnR.new (by rw [intV_len]; exact ho6))
  have HZ6 := Lib.hid hb6.size
  have HP6 := Lib.hid (HP5.out.below hb6)
  have HX6 := Lib.hid (HX5.out.below hb6)
  have HBw6 := Lib.hid (HBw5.out.trans (hb6.mono HBw5.out.size))
  have HG6 := Lib.hid (show w5.heap.size ≤ w6.heap.size from hb6.size)
  clear ho6 hb6
  go_wp2_with fail
  refine (HER.out w6 A6 A3 k6 k3 (ownI_rd HQ6.out) (ownI_rd HP6.out)).mono ?_
  rintro e w7 ⟨rfl, hb7⟩
  have HP7 := Lib.hid (HP6.out.below hb7)
  have HX7 := Lib.hid (HX6.out.below hb7)
  have HQ7 := Lib.hid (HQ6.out.below hb7)
  have HBw7 := Lib.hid (HBw6.out.trans (hb7.mono HBw6.out.size))
  have HG7 := Lib.hid (show w6.heap.size ≤ w7.heap.size from hb7.size)
  clear hb7
  go_wp2_with fail
  refine (HT.out _ HBw7.out).mono ?_
  rintro e w8 ⟨v8, rfl, ho8, hb8⟩
  obtain ⟨A8, k8, rfl⟩ := own_form ho8
  have HY8 := Lib.hid (show OwnR w8 w7.heap.size w8.heap.size 3 (.slice A8 xs.length k8) (intV .i64 xs) from OwnR.new (by rw [intV_len]; exact ho8))
  have HZ8 := Lib.hid hb8.size
  have HP8 := Lib.hid (HP7.out.below hb8)
  have HX8 := Lib.hid (HX7.out.below hb8)
  have HQ8 := Lib.hid (HQ7.out.below hb8)
  have HBw8 := Lib.hid (HBw7.out.trans (hb8.mono HBw7.out.size))
  have HG8 := Lib.hid (show w7.heap.size ≤ w8.heap.size from hb8.size)
  clear ho8 hb8
  go_wp2_with fail
  refine (HE.out w8 A4 A8 k4 k8 (ownI_rd HX8.out) (ownI_rd HY8.out)).mono ?_
  rintro e w9 ⟨rfl, hb9⟩
  have HP9 := Lib.hid (HP8.out.below hb9)
  have HX9 := Lib.hid (HX8.out.below hb9)
  have HQ9 := Lib.hid (HQ8.out.below hb9)
  have HY9 := Lib.hid (HY8.out.below hb9)
  have HBw9 := Lib.hid (HBw8.out.trans (hb9.mono HBw8.out.size))
  have HG9 := Lib.hid (show w8.heap.size ≤ w9.heap.size from hb9.size)
  clear hb9
  go_wp2_with fail
  have HS9 := Lib.hid (show w3.heap.size ≤ w9.heap.size ∧ w4.heap.size ≤ w5.heap.size ∧ w5.heap.size ≤ w9.heap.size ∧ w3.heap.size ≤ w3.heap.size ∧ w0.heap.size ≤ w3.heap.size ∧ w0.heap.size ≤ w5.heap.size from by have := HG1.out; have := HG2.out; have := HG3.out; have := HG4.out; have := HG5.out; have := HG6.out; have := HG7.out; have := HG8.out; have := HG9.out; omega)
  refine (markI1_calls w9 HX9.out (by omega) HS9.out.1).mono ?_
  rintro e w10 ⟨rfl, ho10, hs10⟩
  have HP10 := Lib.hid (HP9.out.span hs10 (.inl HS9.out.2.2.2.1))
  have HQ10 := Lib.hid (HQ9.out.span hs10 (.inr HS9.out.2.1))
  have HBw10 := Lib.hid (HBw9.out.trans ((hs10.below HS9.out.1).mono HS9.out.2.2.2.2.1))
  have HM10 := Lib.hid hs10.size
  clear ho10 hs10
  go_wp2_with fail
  refine (HER.out w10 A6 A3 k6 k3 (ownI_rd HQ10.out) (ownI_rd HP10.out)).mono ?_
  rintro e w11 ⟨rfl, hb11⟩
  have HP11 := Lib.hid (HP10.out.below hb11)
  have HQ11 := Lib.hid (HQ10.out.below hb11)
  have HBw11 := Lib.hid (HBw10.out.trans (hb11.mono HBw10.out.size))
  have HG11 := Lib.hid (show w10.heap.size ≤ w11.heap.size from hb11.size)
  clear hb11
  go_wp2_with fail
  have HN11 := Lib.hid (show w5.heap.size ≤ w11.heap.size from Nat.le_trans HS9.out.2.2.1 (Nat.le_trans HM10.out HG11.out))
  refine (markI1_calls w11 HQ11.out hR1 HN11.out).mono ?_
  rintro e w12 ⟨rfl, ho12, hs12⟩
  have HP12 := Lib.hid (HP11.out.span hs12 (.inl (Nat.le_trans HS9.out.2.2.2.1 (Nat.le_trans (show w3.heap.size ≤ w4.heap.size from HG4.out) HS9.out.2.1))))
  have HK12 := Lib.hid ho12
  have HBw12 := Lib.hid (HBw11.out.trans ((hs12.below HN11.out).mono HS9.out.2.2.2.2.2))
  clear ho12 hs12
  go_wp2_with fail
  have hng : ¬ ((1 : Int) + (R.length : Nat)) < 0 := by omega
  have hnn : (((1 : Int) + (R.length : Nat)) != 1 + (R.length : Nat)) = false := by simp
  refine (heldI1_calls w12 HK12.out hR1).mono ?_
  rintro e w13 ⟨rfl, hb13⟩
  have HP13 := Lib.hid (HP12.out.below hb13)
  have HK13 := Lib.hid (HK12.out.below hb13)
  have HBw13 := Lib.hid (HBw12.out.trans (hb13.mono HBw12.out.size))
  have HG13 := Lib.hid (show w12.heap.size ≤ w13.heap.size from hb13.size)
  clear hb13
  obtain ⟨c0, c1, c2⟩ := HA.out w13 HBw13.out
  go_wp2_with fail
  refine (toRule_calls g w13).mono ?_
  rintro e w14 ⟨rfl, hb14⟩
  have HP14 := Lib.hid (HP13.out.below hb14)
  have HK14 := Lib.hid (HK13.out.below hb14)
  have HBw14 := Lib.hid (HBw13.out.trans (hb14.mono HBw13.out.size))
  have HG14 := Lib.hid (show w13.heap.size ≤ w14.heap.size from hb14.size)
  clear hb14 c0 c1 c2
  go_wp2_with fail
  refine (HT.out _ HBw14.out).mono ?_
  rintro e w15 ⟨v15, rfl, ho15, hb15⟩
  obtain ⟨A15, k15, rfl⟩ := own_form ho15
  have HV15 := Lib.hid (show OwnR w15 w14.heap.size w15.heap.size 3 (.slice A15 xs.length k15) (intV .i64 xs) from OwnR.new (by rw [intV_len]; exact ho15))
  have HZ15 := Lib.hid hb15.size
  have HP15 := Lib.hid (HP14.out.below hb15)
  have HK15 := Lib.hid (HK14.out.below hb15)
  have HBw15 := Lib.hid (HBw14.out.trans (hb15.mono HBw14.out.size))
  have HG15 := Lib.hid (show w14.heap.size ≤ w15.heap.size from hb15.size)
  clear ho15 hb15
  go_wp2_with fail
  refine (HIP.out w15 A15 k15 (ownI_rd HV15.out)).mono ?_
  rintro e w16 ⟨v16, rfl, ho16, hb16⟩
  obtain ⟨A16, k16, rfl⟩ := own_form ho16
  have HS16 := Lib.hid (show OwnR w16 w15.heap.size w16.heap.size 3 (.slice A16 R.length k16) (intV .i64 R) from OwnR.new (by rw [intV_len]; exact ho16))
  have HZ16 := Lib.hid hb16.size
  have HP16 := Lib.hid (HP15.out.below hb16)
  have HK16 := Lib.hid (HK15.out.below hb16)
  have HV16 := Lib.hid (HV15.out.below hb16)
  have HBw16 := Lib.hid (HBw15.out.trans (hb16.mono HBw15.out.size))
  have HG16 := Lib.hid (show w15.heap.size ≤ w16.heap.size from hb16.size)
  clear ho16 hb16
  go_wp2_with fail
  refine (HER.out w16 A16 A3 k16 k3 (ownI_rd HS16.out) (ownI_rd HP16.out)).mono ?_
  rintro e w17 ⟨rfl, hb17⟩
  have HP17 := Lib.hid (HP16.out.below hb17)
  have HK17 := Lib.hid (HK16.out.below hb17)
  have HV17 := Lib.hid (HV16.out.below hb17)
  have HS17 := Lib.hid (HS16.out.below hb17)
  have HBw17 := Lib.hid (HBw16.out.trans (hb17.mono HBw16.out.size))
  have HG17 := Lib.hid (show w16.heap.size ≤ w17.heap.size from hb17.size)
  clear hb17
  go_wp2_with fail
  refine (heldI1_calls w17 HK17.out hR1).mono ?_
  rintro e w18 ⟨rfl, hb18⟩
  have HP18 := Lib.hid (HP17.out.below hb18)
  have HK18 := Lib.hid (HK17.out.below hb18)
  have HV18 := Lib.hid (HV17.out.below hb18)
  have HS18 := Lib.hid (HS17.out.below hb18)
  have HBw18 := Lib.hid (HBw17.out.trans (hb18.mono HBw17.out.size))
  have HG18 := Lib.hid (show w17.heap.size ≤ w18.heap.size from hb18.size)
  clear hb18
  go_wp2_with fail
  go_ret
  exact ⟨rfl, HB.out.trans (HBw18.out.mono HB.out.size)⟩
end Go.Proofs.Ytiimbojcnmbebaa
