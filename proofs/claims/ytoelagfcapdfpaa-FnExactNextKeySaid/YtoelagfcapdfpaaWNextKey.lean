/-
  FnExactNextKey: the walk.
-/
import Derived.Test.YtoelagfcapdfpaaKyD
namespace Go.Proofs.Ytoelagfcapdfpaa
open Go.RowKit Go.ChangeShapes Go.WideShapes Go.Joins Go.Deep

theorem newKey (W : World) : KeyBox (W.alloc (.cells #[.int .u8 0, .int .u8 0, .int .u8 0, .int .u8 0, .int .u8 0, .int .u8 0, .int .u8 0, .int .u8 0, .int .u8 0, .int .u8 0, .int .u8 0, .int .u8 0, .int .u8 0, .int .u8 0, .int .u8 0, .int .u8 0] 28)) W.heap.size zeroK := ⟨heap_alloc_new _ _, by decide⟩
set_option maxRecDepth 100000 in
set_option maxHeartbeats 800000 in
theorem fnExactNextKey_walk (a : List Int) (w : World) (ha : IsKey a) :
    Calls Try.prog 6 #[.agg (keyA a)] w fun e w' => e = .returned (.bool true) ∧ Below w.heap.size w w' := by
  obtain ⟨w0, hw0⟩ : ∃ w0, w.alloc (.cells (keyA a) 28) = w0 := ⟨_, rfl⟩
  have hb0 : Below w.heap.size w w0 := by rw [← hw0]; (repeat (first | (with_reducible exact Below.refl _ _) | (with_reducible refine Below.drew ?_) | ((with_reducible refine Below.alloc ?_ ?hB _); case hB => (first | (with_reducible exact Nat.le_refl _) | omega | (simp; done) | (simp; omega))) | ((with_reducible refine Below.setCell ?_ ?hB _); case hB => (first | (with_reducible exact Nat.le_refl _) | omega | (simp; done) | (simp; omega)))))
  have k0 : KeyBox w0 w.heap.size a := ⟨by rw [← hw0]; exact heap_alloc_new _ _, ha.1⟩
  have HW := Lib.hid hw0
  have HB := Lib.hid hb0
  have HK := Lib.hid k0
  have HT := Lib.hid (fun W => toByteA16_calls a W ha.1)
  have HSP := Lib.hid (fun W => specNextKey_calls a W ha)
  have HIP := Lib.hid (fun W => implNextKey_calls a W ha)
  have hkk := (nextK_key ha).1
  obtain ⟨y, p, hy⟩ : ∃ (y : List Int) (p : Bool), nextK a = (y, p) := ⟨_, _, rfl⟩
  rw [hy] at HSP HIP hkk
  have HKK := Lib.hid (show y.length = 16 from hkk)
  have hself : (p != p) = false := by simp
  clear hw0 hb0 k0 ha hkk hy
  go_enter Try.func6, Try.ntmps6
  go_upto_region 1 with fail
  rw [HW.out]
  go_wp2_with (refine KeyBox.ld HK.out rfl _ rfl rfl ?_)
  refine (HT.out w0).mono ?_
  rintro e w1 ⟨rfl, hb1⟩
  go_wp2_with fail
  refine (HSP.out w1).mono ?_
  rintro e w2 ⟨rfl, hb2⟩
  have HB2 := Lib.hid (hb1.trans (hb2.mono hb1.size))
  clear hb1 hb2
  have hs2 := HB2.out.size
  have hz0 := HK.out.lt
  go_upto_region 2 with (refine KeyBox.st (newKey _) rfl _ _ rfl rfl HKK.out rfl ?_)
  have HV : Hid (Below w0.heap.size w0 ((w2.alloc (.cells #[.int .u8 0, .int .u8 0, .int .u8 0, .int .u8 0, .int .u8 0, .int .u8 0, .int .u8 0, .int .u8 0, .int .u8 0, .int .u8 0, .int .u8 0, .int .u8 0, .int .u8 0, .int .u8 0, .int .u8 0, .int .u8 0] 28)).setRow w2.heap.size (keyA y))) := Lib.hid (Below.setRow (HB2.out.alloc hs2 _) hs2 _)
  have HY : Hid (KeyBox ((w2.alloc (.cells #[.int .u8 0, .int .u8 0, .int .u8 0, .int .u8 0, .int .u8 0, .int .u8 0, .int .u8 0, .int .u8 0, .int .u8 0, .int .u8 0, .int .u8 0, .int .u8 0, .int .u8 0, .int .u8 0, .int .u8 0, .int .u8 0] 28)).setRow w2.heap.size (keyA y)) w2.heap.size y) := Lib.hid ((newKey w2).row HKK.out)
  generalize (w2.alloc (.cells #[.int .u8 0, .int .u8 0, .int .u8 0, .int .u8 0, .int .u8 0, .int .u8 0, .int .u8 0, .int .u8 0, .int .u8 0, .int .u8 0, .int .u8 0, .int .u8 0, .int .u8 0, .int .u8 0, .int .u8 0, .int .u8 0] 28)).setRow w2.heap.size (keyA y) = V at *
  go_wp2_with (refine KeyBox.ld (HK.out.below HV.out) rfl _ rfl rfl ?_)
  refine (HT.out V).mono ?_
  rintro e w3 ⟨rfl, hb3⟩
  go_wp2_with fail
  refine (HIP.out w3).mono ?_
  rintro e w4 ⟨rfl, hb4⟩
  have HB4 := Lib.hid (hb3.trans (hb4.mono hb3.size))
  clear hb3 hb4
  have hs4 := HB4.out.size
  have hz4 := HY.out.lt
  go_upto_region 3 with (refine KeyBox.st (newKey _) rfl _ _ rfl rfl HKK.out rfl ?_)
  have HV2 : Hid (Below V.heap.size V ((w4.alloc (.cells #[.int .u8 0, .int .u8 0, .int .u8 0, .int .u8 0, .int .u8 0, .int .u8 0, .int .u8 0, .int .u8 0, .int .u8 0, .int .u8 0, .int .u8 0, .int .u8 0, .int .u8 0, .int .u8 0, .int .u8 0, .int .u8 0] 28)).setRow w4.heap.size (keyA y))) := Lib.hid (Below.setRow (HB4.out.alloc hs4 _) hs4 _)
  have HY2 : Hid (KeyBox ((w4.alloc (.cells #[.int .u8 0, .int .u8 0, .int .u8 0, .int .u8 0, .int .u8 0, .int .u8 0, .int .u8 0, .int .u8 0, .int .u8 0, .int .u8 0, .int .u8 0, .int .u8 0, .int .u8 0, .int .u8 0, .int .u8 0, .int .u8 0] 28)).setRow w4.heap.size (keyA y)) w4.heap.size y) := Lib.hid ((newKey w4).row HKK.out)
  generalize (w4.alloc (.cells #[.int .u8 0, .int .u8 0, .int .u8 0, .int .u8 0, .int .u8 0, .int .u8 0, .int .u8 0, .int .u8 0, .int .u8 0, .int .u8 0, .int .u8 0, .int .u8 0, .int .u8 0, .int .u8 0, .int .u8 0, .int .u8 0] 28)).setRow w4.heap.size (keyA y) = V2 at *
  go_wp2_with (first | (refine KeyBox.ld HY2.out rfl _ rfl rfl ?_) | (refine KeyBox.ld (HY.out.below HV2.out) rfl _ rfl rfl ?_))
  refine (eqByteA16_calls y V2 HKK.out).mono ?_
  rintro e w5 ⟨rfl, hb5⟩
  have HB5 := Lib.hid (HB.out.trans ((HV.out.trans ((HV2.out.trans (hb5.mono HV2.out.size)).mono HV.out.size)).mono HB.out.size))
  clear hb5
  go_wp2_with fail
  go_ret
  exact ⟨rfl, HB5.out⟩
end Go.Proofs.Ytoelagfcapdfpaa
