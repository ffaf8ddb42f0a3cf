/-
  The key behind a key: NextKey of both.
-/
import Derived.Test.YtoelagfcapdfpaaKyR
namespace Go.Proofs.Ytoelagfcapdfpaa
open Go.RowKit Go.ChangeShapes Go.WideShapes Go.Joins Go.Deep

set_option maxRecDepth 100000 in
set_option maxHeartbeats 800000 in
theorem implNextKey_calls (a : List Int) (w : World) (ha : IsKey a) :
    Calls Try.prog 31 #[.agg (keyA a)] w fun e w' => e = .returned (.tuple #[.agg (keyA (nextK a).1), .bool (nextK a).2]) ∧ Below w.heap.size w w' := by
  obtain ⟨w0, hw0, hb0, k1, k2⟩ := enterKK a zeroK w ha.1 (by decide)
  have HW := Lib.hid (show (w.alloc (.cells (keyA a) 28)).alloc (.cells #[.int .u8 0, .int .u8 0, .int .u8 0, .int .u8 0, .int .u8 0, .int .u8 0, .int .u8 0, .int .u8 0, .int .u8 0, .int .u8 0, .int .u8 0, .int .u8 0, .int .u8 0, .int .u8 0, .int .u8 0, .int .u8 0] 28) = w0 from hw0)
  have HB := Lib.hid hb0
  have HK1 := Lib.hid k1
  have HK2 := Lib.hid k2
  have HA := Lib.hid ha
  clear hw0 hb0 k1 k2 ha
  go_enter Try.func31, Try.ntmps31
  go_wp2_with fail
  rw [HW.out]
  go_loopw [4] (fun i wr => ∃ (m : Nat) (z : List Int), m ≤ 16 ∧ i = .int .i64 ((m : Int) - 1) ∧ nextN m z = nextK a ∧ IsKey z ∧ KeyBox wr w.heap.size z ∧ KeyBox wr (w.heap.size + 1) zeroK ∧ Below w.heap.size w wr) (fun i _ => (intOf i + 1).toNat)
  case atStart => exact ⟨16, a, Nat.le_refl _, rfl, rfl, HA.out, HK1.out, HK2.out, HB.out⟩
  case round =>
    obtain ⟨m, z, hm, rfl, hn, hz, k1, k2, hb⟩ := hrel
    have HN := Lib.hid hn
    have HZ := Lib.hid hz
    have HK1 := Lib.hid k1
    have HK2 := Lib.hid k2
    have HB2 := Lib.hid hb
    clear hn hz hb
    cases m with
    | zero =>
      clear k1 k2
      have HV : Hid (nextK a = (zeroK, false)) := Lib.hid HN.out.symm
      go_wp2_with (refine KeyBox.st (k' := zeroK) HK2.out rfl _ _ rfl rfl (by decide) rfl ?_)
      have HS := (HK2.out.row (k' := zeroK) (by decide)).loaded
      exact bodyPost_ret (v := .tuple #[.agg (keyA zeroK), .bool false]) (by simp [results, Try.results31, asAddr, Result.andThen, HS]) rfl ⟨by rw [HV.out], Below.setRow HB2.out (by omega) _⟩
    | succ m =>
      have hml : m < z.length := by have := HZ.out.1; omega
      have c1 := k1.cell hml
      have cf := k1.frozen m
      clear k1 k2
      have hp := HZ.out.at_ hml
      have HNN : Hid (nextK a = if z[m] < 255 then (z.set m (z[m] + 1), true) else nextN m (z.set m 0)) := Lib.hid (by
        rw [← HN.out, nextN, List.getD_eq_getElem?_getD, List.getElem?_eq_getElem hml, Option.getD_some])
      have HPUT := Lib.hid (fun u => HK1.out.put m u)
      have HOT := Lib.hid (fun u => HK2.out.other (p := ⟨w.heap.size, m, none⟩) (show w.heap.size ≠ w.heap.size + 1 by omega) u)
      have HBC := Lib.hid (fun u => HB2.out.setCell (p := ⟨w.heap.size, m, none⟩) (Nat.le_refl _) u)
      have HKS := Lib.hid (fun u hu => HZ.out.set m (z := u) hu)
      have HSM := Lib.hid (fun u : Int => show ((z.set m u)[m]'(by rw [List.length_set]; exact hml)) = u by simp)
      have HSL := Lib.hid (fun u : Int => show m < (z.set m u).length by rw [List.length_set]; exact hml)
      have hm64 : (0 : Int) ≤ (m : Int) := by omega
      have hidx : ((m + 1 : Nat) : Int) - 1 = (m : Int) := by omega
      rw [hidx]
      generalize z[m] = p at *
      by_cases hp255 : p < 255
      · have HV : Hid (nextK a = (z.set m (p + 1), true)) := Lib.hid (by rw [HNN.out, if_pos hp255])
        go_upto_region 5 with fail
        have HKZ := Lib.hid (HPUT.out (p + 1))
        have HKR := Lib.hid (HOT.out (.int .u8 (p + 1)))
        have HBV := Lib.hid (HBC.out (.int .u8 (p + 1)))
        generalize (wr.setCell ⟨w.heap.size, m, none⟩ (.int .u8 (p + 1))) = V at *
        have c2 := HKZ.out.cell (HSL.out (p + 1))
        rw [HSM.out] at c2
        have hne : ¬ p + 1 = 0 := by omega
        generalize z.set m (p + 1) = y at *
        · go_wp2_with (first | (refine KeyBox.ld HKZ.out rfl _ rfl rfl ?_) | (refine KeyBox.st HKR.out rfl _ _ rfl rfl HKZ.out.2 rfl ?_))
          have HS := (HKR.out.row HKZ.out.2).loaded
          exact bodyPost_ret (v := .tuple #[.agg (keyA y), .bool true]) (by simp [results, Try.results31, asAddr, Result.andThen, HS]) rfl ⟨by rw [HV.out], Below.setRow HBV.out (by omega) _⟩
      · obtain rfl : p = 255 := by omega
        have HV : Hid (nextN m (z.set m 0) = nextK a) := Lib.hid (by rw [HNN.out, if_neg (by decide)])
        go_upto_region 5 with fail
        have HKZ := Lib.hid (HPUT.out 0)
        have HKR := Lib.hid (HOT.out (.int .u8 0))
        have HBV := Lib.hid (HBC.out (.int .u8 0))
        generalize (wr.setCell ⟨w.heap.size, m, none⟩ (.int .u8 0)) = V at *
        have c2 := HKZ.out.cell (HSL.out 0)
        rw [HSM.out] at c2
        go_wp2_with fail
        go_roundw
        case rel => exact ⟨m, _, by omega, by go_num, HV.out, HKS.out 0 ⟨by decide, by decide⟩, HKZ.out, HKR.out, HBV.out⟩
        case measure => simp [intOf]

set_option maxRecDepth 100000 in
set_option maxHeartbeats 800000 in
theorem specNextKey_calls (a : List Int) (w : World) (ha : IsKey a) :
    Calls Try.prog 30 #[.agg (keyA a)] w fun e w' => e = .returned (.tuple #[.agg (keyA (nextK a).1), .bool (nextK a).2]) ∧ Below w.heap.size w w' := by
  obtain ⟨w0, hw0, hb0, k1, k2⟩ := enterKK a zeroK w ha.1 (by decide)
  have HW := Lib.hid (show (w.alloc (.cells (keyA a) 28)).alloc (.cells #[.int .u8 0, .int .u8 0, .int .u8 0, .int .u8 0, .int .u8 0, .int .u8 0, .int .u8 0, .int .u8 0, .int .u8 0, .int .u8 0, .int .u8 0, .int .u8 0, .int .u8 0, .int .u8 0, .int .u8 0, .int .u8 0] 28) = w0 from hw0)
  have HB := Lib.hid hb0
  have HK1 := Lib.hid k1
  have HK2 := Lib.hid k2
  have HA := Lib.hid ha
  clear hw0 hb0 k1 k2 ha
  go_enter Try.func30, Try.ntmps30
  go_wp2_with fail
  rw [HW.out]
  go_loopw [4] (fun i wr => ∃ (m : Nat) (z : List Int), m ≤ 16 ∧ i = .int .i64 ((m : Int) - 1) ∧ nextN m z = nextK a ∧ IsKey z ∧ KeyBox wr w.heap.size z ∧ KeyBox wr (w.heap.size + 1) zeroK ∧ Below w.heap.size w wr) (fun i _ => (intOf i + 1).toNat)
  case atStart => exact ⟨16, a, Nat.le_refl _, rfl, rfl, HA.out, HK1.out, HK2.out, HB.out⟩
  case round =>
    obtain ⟨m, z, hm, rfl, hn, hz, k1, k2, hb⟩ := hrel
    have HN := Lib.hid hn
    have HZ := Lib.hid hz
    have HK1 := Lib.hid k1
    have HK2 := Lib.hid k2
    have HB2 := Lib.hid hb
    clear hn hz hb
    cases m with
    | zero =>
      clear k1 k2
      have HV : Hid (nextK a = (zeroK, false)) := Lib.hid HN.out.symm
      go_wp2_with (refine KeyBox.st (k' := zeroK) HK2.out rfl _ _ rfl rfl (by decide) rfl ?_)
      have HS := (HK2.out.row (k' := zeroK) (by decide)).loaded
      exact bodyPost_ret (v := .tuple #[.agg (keyA zeroK), .bool false]) (by simp [results, Try.results30, asAddr, Result.andThen, HS]) rfl ⟨by rw [HV.out], Below.setRow HB2.out (by omega) _⟩
    | succ m =>
      have hml : m < z.length := by have := HZ.out.1; omega
      have c1 := k1.cell hml
      have cf := k1.frozen m
      clear k1 k2
      have hp := HZ.out.at_ hml
      have HNN : Hid (nextK a = if z[m] < 255 then (z.set m (z[m] + 1), true) else nextN m (z.set m 0)) := Lib.hid (by
        rw [← HN.out, nextN, List.getD_eq_getElem?_getD, List.getElem?_eq_getElem hml, Option.getD_some])
      have HPUT := Lib.hid (fun u => HK1.out.put m u)
      have HOT := Lib.hid (fun u => HK2.out.other (p := ⟨w.heap.size, m, none⟩) (show w.heap.size ≠ w.heap.size + 1 by omega) u)
      have HBC := Lib.hid (fun u => HB2.out.setCell (p := ⟨w.heap.size, m, none⟩) (Nat.le_refl _) u)
      have HKS := Lib.hid (fun u hu => HZ.out.set m (z := u) hu)
      have HSM := Lib.hid (fun u : Int => show ((z.set m u)[m]'(by rw [List.length_set]; exact hml)) = u by simp)
      have HSL := Lib.hid (fun u : Int => show m < (z.set m u).length by rw [List.length_set]; exact hml)
      have hm64 : (0 : Int) ≤ (m : Int) := by omega
      have hidx : ((m + 1 : Nat) : Int) - 1 = (m : Int) := by omega
      rw [hidx]
      generalize z[m] = p at *
      by_cases hp255 : p < 255
      · have HV : Hid (nextK a = (z.set m (p + 1), true)) := Lib.hid (by rw [HNN.out, if_pos hp255])
        go_upto_region 6 with fail
        have HKZ := Lib.hid (HPUT.out (p + 1))
        have HKR := Lib.hid (HOT.out (.int .u8 (p + 1)))
        have HBV := Lib.hid (HBC.out (.int .u8 (p + 1)))
        generalize (wr.setCell ⟨w.heap.size, m, none⟩ (.int .u8 (p + 1))) = V at *
        generalize z.set m (p + 1) = y at *
        · go_wp2_with (first | (refine KeyBox.ld HKZ.out rfl _ rfl rfl ?_) | (refine KeyBox.st HKR.out rfl _ _ rfl rfl HKZ.out.2 rfl ?_))
          have HS := (HKR.out.row HKZ.out.2).loaded
          exact bodyPost_ret (v := .tuple #[.agg (keyA y), .bool true]) (by simp [results, Try.results30, asAddr, Result.andThen, HS]) rfl ⟨by rw [HV.out], Below.setRow HBV.out (by omega) _⟩
      · obtain rfl : p = 255 := by omega
        have HV : Hid (nextN m (z.set m 0) = nextK a) := Lib.hid (by rw [HNN.out, if_neg (by decide)])
        go_wp2_with fail
        go_roundw
        case rel => exact ⟨m, _, by omega, by go_num, HV.out, HKS.out 0 ⟨by decide, by decide⟩, HPUT.out 0, HOT.out _, HBC.out _⟩
        case measure => simp [intOf]

end Go.Proofs.Ytoelagfcapdfpaa
