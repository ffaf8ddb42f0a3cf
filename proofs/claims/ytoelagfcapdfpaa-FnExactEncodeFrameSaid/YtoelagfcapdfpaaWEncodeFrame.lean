/-
  FnExactEncodeFrame: the walk.
-/
import Derived.Test.YtoelagfcapdfpaaBox2
import Derived.Test.YtoelagfcapdfpaaGpL
import Derived.Test.YtoelagfcapdfpaaFrE
namespace Go.Proofs.Ytoelagfcapdfpaa
open Go.RowKit

set_option maxRecDepth 100000 in
set_option maxHeartbeats 1600000 in
theorem fnExactEncodeFrame_walk (t : Int) (A : Option Addr) (len cap : Nat) (xs : List Int) (w : World) (_ht : (Lit.int .u8 t).wf = true) (hL : IntArg .u8 w A len cap xs) :
    Calls Try.prog 13 #[.int .u8 t, .slice A len cap] w fun e w' => e = .returned (.bool true) ∧ Below w.heap.size w w' := by
  obtain ⟨rfl, h3, h4, hrL, _⟩ := hL
  by_cases hbig : 1048576 < xs.length
  · go_enter Try.func13, Try.ntmps13
    go_wp2_with fail
    go_ret
    exact ⟨rfl, Below.refl _ _⟩
  have hl20 : xs.length ≤ 1048576 := by omega
  have HRL := Lib.hid hrL
  have HTL := Lib.hid (fun W (hb : Below w.heap.size w W) => toByteS_calls A cap xs W ((HRL.out.below hb).more hb.size) hl20)
  have HSP := Lib.hid (fun W B k (hr : Rd W W.heap.size B (intV .u8 xs)) (hA : B = none → k = 0) => specEncodeFrame_calls t B k xs W hr hA hl20)
  have HIP := Lib.hid (fun W B k (hr : Rd W W.heap.size B (intV .u8 xs)) (hA : B = none → k = 0) => implEncodeFrame_calls t B k xs W hr hA hl20)
  have hR0 := encR_small t xs
  obtain ⟨R, p, hform⟩ : ∃ (R : List Int) (p : Bool), encR t xs = (R, p) := ⟨_, _, rfl⟩
  rw [hform] at HSP HIP hR0
  have hR1 : R.length ≤ 2097152 := Nat.le_trans hR0 (by omega)
  have HRB := Lib.hid hR1
  have hselfp : (p != p) = false := by simp
  have HER := Lib.hid (fun W X Y cx cy (hx : Rd W W.heap.size X (intV .u8 R)) (hy : Rd W W.heap.size Y (intV .u8 R)) => eqB_calls X Y cx cy W hx hy hR1)
  have HEL := Lib.hid (fun W X Y cx cy (hx : Rd W W.heap.size X (intV .u8 xs)) (hy : Rd W W.heap.size Y (intV .u8 xs)) => eqB_calls X Y cx cy W hx hy (show xs.length ≤ 2097152 by omega))
  have HL20 := Lib.hid hl20
  clear hrL h3 h4 hform hR0 hR1 hl20
  go_enter Try.func13, Try.ntmps13
  -- the model's answer
  go_wp2_with fail
  refine (HTL.out _ (Below.refl _ _)).mono ?_
  rintro e w1 ⟨v1, rfl, ho1, hb1⟩
  have hk1 := own_zero ho1
  obtain ⟨A1, k1, rfl⟩ := own_form ho1
  have HA1 := Lib.hid (own_none_cap hk1)
  have HR1 := Lib.hid (Rd.of_own ho1)
  have HBw := Lib.hid hb1
  clear ho1 hb1 hk1
  go_wp2_with fail
  refine (HSP.out w1 A1 k1 HR1.out HA1.out).mono ?_
  rintro e w2 ⟨vP, rfl, hoP, hb2⟩
  obtain ⟨AP, cP, rfl⟩ := own_form hoP
  have HMP : Hid (OwnR w2 w1.heap.size w2.heap.size 5 (.slice AP R.length cP) (intV .u8 R)) := Lib.hid (OwnR.new (by rw [intV_len]; exact hoP))
  replace HBw := Lib.hid (HBw.out.trans (hb2.mono HBw.out.size))
  have hz2 : w.heap.size ≤ w2.heap.size := HBw.out.size
  clear hoP hb2 HR1 HA1
  -- what is handed over
  go_wp2_with fail
  refine (HTL.out _ HBw.out).mono ?_
  rintro e w3 ⟨v3, rfl, ho3, hb3⟩
  have hk3 := own_zero ho3
  obtain ⟨A3, k3, rfl⟩ := own_form ho3
  have HA3 := Lib.hid (own_none_cap hk3)
  have HLX : Hid (OwnR w3 w2.heap.size w3.heap.size 5 (.slice A3 xs.length k3) (intV .u8 xs)) := Lib.hid (OwnR.new (by rw [intV_len]; exact ho3))
  have hz3 : w2.heap.size ≤ w3.heap.size := hb3.size
  have hlo3 : w2.heap.size ≤ w3.heap.size := hb3.size
  replace HMP := Lib.hid (HMP.out.below hb3)
  replace HBw := Lib.hid (HBw.out.trans (hb3.mono HBw.out.size))
  clear ho3 hb3 hk3
  go_wp2_with fail
  refine (HIP.out w3 A3 k3 HLX.out.rd HA3.out).mono ?_
  rintro e w4 ⟨vQ, rfl, hoQ, hb4⟩
  obtain ⟨AQ, cQ, rfl⟩ := own_form hoQ
  have HMQ : Hid (OwnR w4 w3.heap.size w4.heap.size 5 (.slice AQ R.length cQ) (intV .u8 R)) := Lib.hid (OwnR.new (by rw [intV_len]; exact hoQ))
  have hz4 : w3.heap.size ≤ w4.heap.size := hb4.size
  have hlo4 : w3.heap.size ≤ w4.heap.size := hb4.size
  replace HMP := Lib.hid (HMP.out.below hb4)
  replace HLX := Lib.hid (HLX.out.below hb4)
  replace HBw := Lib.hid (HBw.out.trans (hb4.mono HBw.out.size))
  replace hlo3 := Nat.le_trans hlo3 hb4.size
  clear hoQ hb4 HA3
  -- both are the same
  go_wp2_with fail
  refine (HER.out w4 AQ AP cQ cP HMQ.out.rd HMP.out.rd).mono ?_
  rintro e w5 ⟨rfl, hb5⟩
  replace HMP := Lib.hid (HMP.out.below hb5)
  replace HMQ := Lib.hid (HMQ.out.below hb5)
  replace HLX := Lib.hid (HLX.out.below hb5)
  replace HBw := Lib.hid (HBw.out.trans (hb5.mono HBw.out.size))
  replace hlo3 := Nat.le_trans hlo3 hb5.size
  replace hlo4 := Nat.le_trans hlo4 hb5.size
  clear hb5
  go_wp2_with fail
  refine (HTL.out _ HBw.out).mono ?_
  rintro e w6 ⟨v6, rfl, ho6, hb6⟩
  obtain ⟨A6, k6, rfl⟩ := own_form ho6
  have HL6 := Lib.hid (Rd.of_own ho6)
  replace HMP := Lib.hid (HMP.out.below hb6)
  replace HMQ := Lib.hid (HMQ.out.below hb6)
  replace HLX := Lib.hid (HLX.out.below hb6)
  replace HBw := Lib.hid (HBw.out.trans (hb6.mono HBw.out.size))
  replace hlo3 := Nat.le_trans hlo3 hb6.size
  replace hlo4 := Nat.le_trans hlo4 hb6.size
  clear ho6 hb6
  go_wp2_with fail
  refine (HEL.out w6 A3 A6 k3 k6 HLX.out.rd HL6.out).mono ?_
  rintro e w7 ⟨rfl, hb7⟩
  replace HMP := Lib.hid (HMP.out.below hb7)
  replace HMQ := Lib.hid (HMQ.out.below hb7)
  replace HLX := Lib.hid (HLX.out.below hb7)
  replace HBw := Lib.hid (HBw.out.trans (hb7.mono HBw.out.size))
  replace hlo3 := Nat.le_trans hlo3 hb7.size
  replace hlo4 := Nat.le_trans hlo4 hb7.size
  clear hb7 HL6
  -- the argument is marked
  have HK3 := Lib.hid (markBk_calls A3 k3 w2.heap.size w3.heap.size xs 1 1 w7 HLX.out rfl (by omega) (by have := HL20.out; omega) hlo3)
  go_wp2_with fail
  refine HK3.out.mono ?_
  rintro e w8 ⟨rfl, _, hs8⟩
  replace HMP := Lib.hid (HMP.out.span hs8 (.inl (by omega)))
  replace HMQ := Lib.hid (HMQ.out.span hs8 (.inr (by omega)))
  replace HBw := Lib.hid (HBw.out.trans ((hs8.below hlo3).mono (by omega)))
  replace hlo4 := Nat.le_trans hlo4 hs8.size
  have hpos : ¬ ((1 : Int) + (xs.length : Nat)) < 0 := by omega
  have hpos0 : (0 : Int) ≤ (1 : Int) + (xs.length : Nat) := by omega
  clear hs8 HK3
  go_wp2_with fail
  refine (HER.out w8 AQ AP cQ cP HMQ.out.rd HMP.out.rd).mono ?_
  rintro e w9 ⟨rfl, hb9⟩
  replace HMP := Lib.hid (HMP.out.below hb9)
  replace HMQ := Lib.hid (HMQ.out.below hb9)
  replace HBw := Lib.hid (HBw.out.trans (hb9.mono HBw.out.size))
  replace hlo4 := Nat.le_trans hlo4 hb9.size
  clear hb9
  -- the answer is marked
  have HK4 := Lib.hid (markB1_calls w9 HMQ.out HRB.out hlo4)
  go_wp2_with fail
  refine HK4.out.mono ?_
  rintro e w10 ⟨rfl, hoQ2, hs10⟩
  have HQ2 := Lib.hid hoQ2
  replace HMP := Lib.hid (HMP.out.span hs10 (.inl (by omega)))
  replace HBw := Lib.hid (HBw.out.trans ((hs10.below hlo4).mono (by omega)))
  have hposR : ¬ ((1 : Int) + (R.length : Nat)) < 0 := by omega
  have hself2 : (((1 : Int) + (R.length : Nat)) != ((1 : Int) + (R.length : Nat))) = false := by simp
  clear hoQ2 hs10 HMQ HK4
  go_wp2_with fail
  refine (heldB1_calls w10 HQ2.out HRB.out).mono ?_
  rintro e w11 ⟨rfl, hb11⟩
  replace HMP := Lib.hid (HMP.out.below hb11)
  replace HQ2 := Lib.hid (HQ2.out.below hb11)
  replace HBw := Lib.hid (HBw.out.trans (hb11.mono HBw.out.size))
  clear hb11
  -- another call
  go_wp2_with fail
  refine (HTL.out _ HBw.out).mono ?_
  rintro e w12 ⟨v12, rfl, ho12, hb12⟩
  have hk12 := own_zero ho12
  obtain ⟨A12, k12, rfl⟩ := own_form ho12
  have HA12 := Lib.hid (own_none_cap hk12)
  have HR12 := Lib.hid (Rd.of_own ho12)
  replace HMP := Lib.hid (HMP.out.below hb12)
  replace HQ2 := Lib.hid (HQ2.out.below hb12)
  replace HBw := Lib.hid (HBw.out.trans (hb12.mono HBw.out.size))
  clear ho12 hb12 hk12
  go_wp2_with fail
  refine (HIP.out w12 A12 k12 HR12.out HA12.out).mono ?_
  rintro e w13 ⟨vH, rfl, hoH, hb13⟩
  obtain ⟨AH, cH, rfl⟩ := own_form hoH
  have HMH := Lib.hid (Rd.of_own hoH)
  replace HMP := Lib.hid (HMP.out.below hb13)
  replace HQ2 := Lib.hid (HQ2.out.below hb13)
  replace HBw := Lib.hid (HBw.out.trans (hb13.mono HBw.out.size))
  clear hoH hb13 HR12 HA12
  go_wp2_with fail
  refine (HER.out w13 AH AP cH cP HMH.out HMP.out.rd).mono ?_
  rintro e w14 ⟨rfl, hb14⟩
  replace HQ2 := Lib.hid (HQ2.out.below hb14)
  replace HBw := Lib.hid (HBw.out.trans (hb14.mono HBw.out.size))
  clear hb14
  go_wp2_with fail
  refine (heldB1_calls w14 HQ2.out HRB.out).mono ?_
  rintro e w15 ⟨rfl, hb15⟩
  replace HBw := Lib.hid (HBw.out.trans (hb15.mono HBw.out.size))
  clear hb15
  go_wp2_with fail
  go_ret
  exact ⟨rfl, HBw.out⟩
end Go.Proofs.Ytoelagfcapdfpaa
