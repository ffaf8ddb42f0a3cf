/-
  Which of two keys comes first: LessKey of both; eqByteA16 of the law.
-/
import Derived.Test.YtoelagfcapdfpaaKyA
import Derived.BigQuiet
import Derived.Deep.RegionLaw
import Derived.Deep.MidRow
import Derived.Deep.DeepCutAuto
namespace Go.Proofs.Ytoelagfcapdfpaa
open Go.RowKit Go.ChangeShapes Go.WideShapes Go.Joins Go.Deep

theorem KeyBox.rd {w : World} {g : Nat} {k : List Int} (h : KeyBox w g k) : Rd w w.heap.size (some ⟨g, 0, none⟩) (intV .u8 k) := .inr ⟨g, 0, rfl, h.lt, fun i v hv => by
  rw [Nat.zero_add, cell_of_row w g i (keyA k) _ _ h.1]
  simpa [keyA] using hv⟩
theorem KeyBox.range {w : World} {g : Nat} {k : List Int} (h : KeyBox w g k) : w.rangeAt g 0 (intV .u8 k) := fun j v hv => by
  rw [Nat.zero_add, cell_of_row w g j (keyA k) _ _ h.1]
  simpa [keyA] using hv
theorem under_key : Try.prog.underlying 28 = some (.array 16 5) := Try.underlying28
theorem size_key {k : List Int} (h : k.length = 16) : (Try.prog.info? 28).map (·.size) = some (intV .u8 k).length := by
  obtain ⟨i, hi, _, hs, _⟩ := info_parts info_key
  rw [hi, intV_len, h]
  simp [hs]
section
variable {H : Type} {enc : TypeId × Value → H} {W : World} {t e : TypeId} {r : Reach} {b0 : Nat} {v : Value} {d : DataW H} {p : List MemPlace}
set_option maxRecDepth 100000 in
/-- A key that came in. -/
theorem open_key (ht : Try.prog.underlying t = some (.array 16 e)) (he : Try.prog.underlying e = some (.int .u8)) (hce : Try.prog.cellsOf e = 1) (hct : Try.prog.cellsOf t = 16)
    (hv : Value.okWide Try.prog W r b0 t v) (h : DataW.Trod enc Try.prog W 0 (fun _ => true) true t v d p) : ∃ k, v = .agg (keyA k) ∧ IsKey k := by
  obtain ⟨cs, rfl, hsz⟩ : ∃ cs, v = .agg cs ∧ cs.size = 16 := by
    cases v <;> simp_all [Value.okWide]
  obtain ⟨fuel, hf⟩ := h
  obtain ⟨xs, m, _, _, _, hx, hall⟩ := DataW.trod_array ht hf
  have each : ∀ i, i < 16 → ∃ z : Int, cs[i]? = some (.int .u8 z) ∧ (Lit.int .u8 z).wf = true := fun i hi => by
    have h1 := hall i hi
    rw [List.getElem?_eq_getElem (by omega), hce, Nat.mul_one] at h1
    have h2 : (((Value.agg cs).cells.toList).drop i).take 1 = [cs[i]] := by
      show ((cs.toList).drop i).take 1 = _
      rw [List.drop_eq_getElem_cons (by simpa using (by omega : i < cs.size))]
      simp
    rw [h2] at h1
    obtain ⟨z, e1, _, w1⟩ := DataW.trod_int he h1
    exact ⟨z, by rw [Array.getElem?_eq_getElem (by omega)]; simpa using e1, w1⟩
  obtain ⟨f, hf2⟩ := choose_lt each
  refine ⟨(List.range 16).map f, ?_, by simp, fun y hy => ?_⟩
  · congr 1
    apply Array.ext_getElem?
    intro i
    by_cases hi : i < 16
    · rw [(hf2 i hi).1]
      simp [keyA, intV, hi]
    · rw [Array.getElem?_eq_none (by omega), Array.getElem?_eq_none (by simp [keyA, intV]; omega)]
  · obtain ⟨i, hi, rfl⟩ := List.mem_map.1 hy
    exact isB_of (hf2 i (by simpa using hi)).2
end
theorem enterKK (a b : List Int) (w : World) (ha : a.length = 16) (hb : b.length = 16) : ∃ w0, (w.alloc (.cells (keyA a) 28)).alloc (.cells (keyA b) 28) = w0 ∧ Below w.heap.size w w0 ∧ KeyBox w0 w.heap.size a ∧ KeyBox w0 (w.heap.size + 1) b := by
  obtain ⟨h, g1, g2, _⟩ := enter2 w (.cells (keyA a) 28) (.cells (keyA b) 28)
  exact ⟨_, rfl, h, ⟨g1, ha⟩, ⟨g2, hb⟩⟩

set_option maxRecDepth 100000 in
/-- eqByteA16, where both are the same. -/
theorem eqByteA16_calls (a : List Int) (w : World) (ha : a.length = 16) :
    Calls Try.prog 23 #[.agg (keyA a), .agg (keyA a)] w fun e w' => e = .returned (.bool true) ∧ Below w.heap.size w w' := by
  obtain ⟨w0, hw0, hb0, k1, k2⟩ := enterKK a a w ha ha
  have HW := Lib.hid hw0
  have HB := Lib.hid hb0
  have HK1 := Lib.hid k1
  have HK2 := Lib.hid k2
  clear hw0 hb0 k1 k2
  go_enter Try.func23, Try.ntmps23
  go_wp2_with fail
  rw [HW.out]
  go_loopw [5] (fun i wr => ∃ (j n : Nat), j ≤ 16 ∧ i = .int .i64 j ∧ wr = w0.drewN n) (fun i _ => 16 - (intOf i).toNat)
  case atStart => exact ⟨0, 0, Nat.zero_le _, rfl, rfl⟩
  case round =>
    obtain ⟨j, n, hj, rfl, rfl⟩ := hrel
    by_cases hlt : j < 16
    · have c1 := HK1.out.cell (i := j) (by omega)
      have c2 := HK2.out.cell (i := j) (by omega)
      generalize a[j] = p at *
      go_wp2
      go_quiet (fail)
      go_wp2
      go_roundw
      case rel => exact ⟨j + 1, _, by omega, by go_num, by first | rfl | (exact World.drewN_drewN _ _ _) | (rw [World.drewN_drewN, World.drewN_drewN])⟩
      case measure => simp [intOf]; omega
    · obtain rfl : j = 16 := by omega
      go_wp2
      go_ret
      exact ⟨rfl, ⟨HB.out.os, HB.out.tape, HB.out.output, HB.out.size, HB.out.block⟩⟩

set_option maxRecDepth 100000 in
theorem specLessKey_calls (a b : List Int) (w : World) (ha : IsKey a) (hb : IsKey b) :
    Calls Try.prog 25 #[.agg (keyA a), .agg (keyA b)] w fun e w' => e = .returned (.bool (lessK a b)) ∧ Below w.heap.size w w' := by
  obtain ⟨w0, hw0, hb0, k1, k2⟩ := enterKK a b w ha.1 hb.1
  have HW := Lib.hid hw0
  have HB := Lib.hid hb0
  have HK1 := Lib.hid k1
  have HK2 := Lib.hid k2
  have HA := Lib.hid ha
  have HBK := Lib.hid hb
  clear hw0 hb0 k1 k2 ha hb
  go_enter Try.func25, Try.ntmps25
  go_wp2_with fail
  rw [HW.out]
  go_loopw [5] (fun i wr => ∃ (j n : Nat), j ≤ 16 ∧ i = .int .i64 j ∧ a.take j = b.take j ∧ wr = w0.drewN n) (fun i _ => 16 - (intOf i).toNat)
  case atStart => exact ⟨0, 0, Nat.zero_le _, rfl, rfl, rfl⟩
  case round =>
    obtain ⟨j, n, hj, rfl, ht, rfl⟩ := hrel
    have HT := Lib.hid ht
    clear ht
    by_cases hlt : j < 16
    · have hla : j < a.length := by have := HA.out.1; omega
      have hlb : j < b.length := by have := HBK.out.1; omega
      have c1 := HK1.out.cell (i := j) hla
      have c2 := HK2.out.cell (i := j) hlb
      have HAT := Lib.hid (lessK_at HT.out hla hlb HA.out.2 HBK.out.2)
      have HEQ := Lib.hid (fun he : a[j] = b[j] => take_eq_snoc HT.out hla hlb he)
      generalize a[j] = p at *
      generalize b[j] = q at *
      by_cases hpq : p = q
      · have HE := Lib.hid (HEQ.out hpq)
        subst hpq
        go_wp2
        go_quiet (fail)
        go_wp2
        go_roundw
        case rel => exact ⟨j + 1, _, by omega, by go_num, HE.out, by first | rfl | (exact World.drewN_drewN _ _ _) | (rw [World.drewN_drewN, World.drewN_drewN])⟩
        case measure => simp [intOf]; omega
      · have HV := Lib.hid (HAT.out hpq)
        go_wp2
        go_quiet (fail)
        go_wp2
        go_quiet (fail)
        go_wp2
        go_ret
        exact ⟨by rw [HV.out]; rfl, ⟨HB.out.os, HB.out.tape, HB.out.output, HB.out.size, HB.out.block⟩⟩
    · obtain rfl : j = 16 := by omega
      have HV := Lib.hid (take_all HT.out HA.out.1 HBK.out.1)
      go_wp2
      go_ret
      exact ⟨by rw [HV.out, lessK_self]; rfl, ⟨HB.out.os, HB.out.tape, HB.out.output, HB.out.size, HB.out.block⟩⟩

set_option maxRecDepth 100000 in
theorem compareKeys_calls (a b : List Int) (w : World) (ha : a.length = 16) (hb : b.length = 16) :
    Calls Try.prog 76 #[.agg (keyA a), .agg (keyA b)] w fun e w' => e = .returned (.int .i64 (cmpI a b)) ∧ Below w.heap.size w w' := by
  obtain ⟨w0, hw0, hb0, k1, k2⟩ := enterKK a b w ha hb
  have HW := Lib.hid hw0
  have HB := Lib.hid hb0
  have HC := Lib.hid (fun n => cmp_calls w.heap.size 0 16 16 (w.heap.size + 1) 0 16 16 a b (w0.drewN n) ha hb (k1.rd.drewN n) (k2.rd.drewN n))
  clear hw0 hb0 k1 k2
  go_enter Try.func76, Try.ntmps76
  go_upto_region 1 with fail
  rw [HW.out]
  go_quiet ((go_at_call 106; exact Calls.quiet_of_same (HC.out _)))
  go_wp2
  go_ret
  exact ⟨rfl, ⟨HB.out.os, HB.out.tape, HB.out.output, HB.out.size, HB.out.block⟩⟩
theorem implLessKey_calls (a b : List Int) (w : World) (ha : IsKey a) (hb : IsKey b) :
    Calls Try.prog 27 #[.agg (keyA a), .agg (keyA b)] w fun e w' => e = .returned (.bool (lessK a b)) ∧ Below w.heap.size w w' := by
  obtain ⟨w0, hw0, hb0, k1, k2⟩ := enterKK a b w ha.1 hb.1
  have HW := Lib.hid hw0
  have HB := Lib.hid hb0
  have HC := Lib.hid (compareKeys_calls a b w0 ha.1 hb.1)
  have HV := Lib.hid (show lessK a b = decide (cmpI a b < 0) from rfl)
  obtain ⟨a0, a1, a2, a3, a4, a5, a6, a7, a8, a9, a10, a11, a12, a13, a14, a15, rfl⟩ := list16 ha.1
  obtain ⟨b0, b1, b2, b3, b4, b5, b6, b7, b8, b9, b10, b11, b12, b13, b14, b15, rfl⟩ := list16 hb.1
  obtain ⟨c0, c1, c2, c3, c4, c5, c6, c7, c8, c9, c10, c11, c12, c13, c14, c15⟩ := k1.cells
  obtain ⟨d0, d1, d2, d3, d4, d5, d6, d7, d8, d9, d10, d11, d12, d13, d14, d15⟩ := k2.cells
  clear hw0 hb0 k1 k2 ha hb
  go_enter Try.func27, Try.ntmps27
  go_upto_region 1 with fail
  rw [HW.out]
  go_wp2_with fail
  refine HC.out.mono ?_
  rintro e w2 ⟨rfl, hb2⟩
  have HB2 := Lib.hid hb2
  clear hb2
  go_wp2_with fail
  go_ret
  exact ⟨by rw [HV.out]; rfl, HB.out.trans (HB2.out.mono HB.out.size)⟩
end Go.Proofs.Ytoelagfcapdfpaa
