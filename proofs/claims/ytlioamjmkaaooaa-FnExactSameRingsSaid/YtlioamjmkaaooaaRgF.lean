/-
  FindInRing of spec and impl.
-/
import Derived.Test.YtlioamjmkaaooaaRgC
import Derived.Test.YtlioamjmkaaooaaFind
namespace Go.Proofs.Ytlioamjmkaaooaa
open Go.RowKit

/-- What FindInRing answers. -/
def findRgR (m : List (List Int)) (r : Rg) (b : Int) : Int × Bool := if RgOK m r then (Lib.indexByte (Lib.bytesOf (ringL m r)) b.toNat.toUInt8, true) else (0, false)
theorem ringL_isB {m : List (List Int)} {r : Rg} (h : RgOK m r) (hz : ∀ q ∈ m, ∀ z ∈ q, IsB z) : ∀ z ∈ ringL m r, IsB z := fun z hzz => by
  obtain ⟨n, s, l, c, e, hn, _⟩ := h.1.nat
  obtain ⟨f, hf⟩ := Int.eq_ofNat_of_zero_le h.2.2.1
  obtain ⟨q, hq⟩ := Int.eq_ofNat_of_zero_le h.2.2.2.2.1
  obtain ⟨x, rf, rm⟩ := r
  dsimp only at e hf hq
  subst e hf hq
  rw [ringL_parts (k := (min (q : Int) ((l : Int) - f)).toNat) h (by have := h.2.2.2.1; dsimp only at this; omega)] at hzz
  rcases List.mem_append.1 hzz with h1 | h1
  · exact wb_isB hn hz z h1
  · exact wb_isB hn hz z h1

set_option maxRecDepth 100000 in
set_option maxHeartbeats 1600000 in
theorem implFindInRing_calls (A : Option Addr) (cm : Nat) (m : List (List Int)) (r : Rg) (b : Int) (w : World) (hr : Rd2 w w.heap.size A m) (hn : m.length ≤ maxLen) (hx : RArg r) :
    Calls Try.prog 48 #[.agg #[.slice A m.length cm], .agg #[.int .i64 r.w.arr, .int .i64 r.w.start, .int .i64 r.w.len, .int .i64 r.w.cap, .int .i64 r.first, .int .i64 r.many], .int .u8 b] w fun e w' => e = .returned (.tuple #[.int .i64 (findRgR m r b).1, .bool (findRgR m r b).2]) ∧ Below w.heap.size w w' := by
  obtain ⟨w0, hw0, hb0, hz0, hmr⟩ := enterMR A m.length cm r w
  have HC := Lib.hid (implRingBytes_calls A cm m r w0 ((hr.below hb0).more hb0.size) hn hx)
  have HB := Lib.hid hb0
  have HW := Lib.hid hw0
  have c0 := one_cell hmr.mem
  obtain ⟨a0, a1, a2, a3, a4, a5⟩ := ring_cells hmr.ring
  clear hr hb0 hmr hw0
  go_enter Try.func48, Try.ntmps48
  go_wp2_with fail
  rw [HW.out]
  refine HC.out.mono ?_
  rintro e w2 ⟨v, rfl, ho, hb2⟩
  have HB2 := Lib.hid (HB.out.trans (hb2.mono HB.out.size))
  clear hb2 c0 a0 a1 a2 a3 a4 a5
  by_cases hok : RgOK m r
  · have hv : ringBytesR m r = (ringL m r, true) := by rw [ringBytesR, if_pos hok]
    have HV : Hid (findRgR m r b = (Lib.indexByte (Lib.bytesOf (ringL m r)) b.toNat.toUInt8, true)) := Lib.hid (by rw [findRgR, if_pos hok])
    rw [hv] at ho ⊢
    dsimp only at ho
    have HF : Hid (Calls Try.prog 88 #[v, .int .u8 b] w2 fun e w' => e = .returned (.int .i64 (Lib.indexByte (Lib.bytesOf (ringL m r)) b.toNat.toUInt8)) ∧ w' = w2) := Lib.hid (by
      have hrd : ∀ A' c', v = .slice A' (ringL m r).length c' → Rd w2 w2.heap.size A' (intV .u8 (ringL m r)) := fun A' c' e => by subst e; exact Rd.of_own ho
      rcases ho.2 with ⟨hv0, hn0⟩ | ⟨g, cap, cur, hv0, _⟩
      · have hl : ringL m r = [] := List.eq_nil_of_length_eq_zero hn0
        rw [hv0, hl]
        exact Try.bytes_IndexByte_nil b w2
      · have h := hrd (some ⟨g, 0, none⟩) cap hv0
        rw [hv0]
        refine Try.bytes_IndexByte g 0 (ringL m r).length cap (ringL m r) b w2 rfl (fun i hi => ?_)
        obtain ⟨b2, off2, e2, hbb2, hc2⟩ := h.int hi
        injection e2 with e2; injection e2 with e2 e3; subst e2; subst e3
        rw [hc2, List.getD_eq_getElem?_getD, List.getElem?_eq_getElem hi]
        rfl)
    clear ho hv hok
    generalize Lib.indexByte (Lib.bytesOf (ringL m r)) b.toNat.toUInt8 = q at *
    go_wp2_with fail
    refine HF.out.mono ?_
    rintro e w4 ⟨rfl, rfl⟩
    go_wp2_with fail
    go_ret2
    exact ⟨by rw [HV.out]; rfl, HB2.out⟩
  · have hv : ringBytesR m r = ([], false) := by rw [ringBytesR, if_neg hok]
    have HV : Hid (findRgR m r b = (0, false)) := Lib.hid (by rw [findRgR, if_neg hok])
    rw [hv]
    clear ho hv hok
    go_wp2_with fail
    go_ret2
    exact ⟨by rw [HV.out]; rfl, HB2.out⟩

set_option maxRecDepth 100000 in
set_option maxHeartbeats 1600000 in
theorem specFindInRing_calls (A : Option Addr) (cm : Nat) (m : List (List Int)) (r : Rg) (b : Int) (w : World) (hr : Rd2 w w.heap.size A m) (hn : m.length ≤ maxLen) (hz : ∀ r ∈ m, ∀ z ∈ r, IsB z) (hb : IsB b) :
    Calls Try.prog 47 #[.agg #[.slice A m.length cm], .agg #[.int .i64 r.w.arr, .int .i64 r.w.start, .int .i64 r.w.len, .int .i64 r.w.cap, .int .i64 r.first, .int .i64 r.many], .int .u8 b] w fun e w' => e = .returned (.tuple #[.int .i64 (findRgR m r b).1, .bool (findRgR m r b).2]) ∧ Below w.heap.size w w' := by
  obtain ⟨w0, hw0, hb0, hz0, hmr⟩ := enterMR A m.length cm r w
  have HC := Lib.hid (specRing_calls A cm m r w0 ((hr.below hb0).more hb0.size) hn)
  have HB := Lib.hid hb0
  have HR := Lib.hid hr
  have HW := Lib.hid hw0
  have HMR := Lib.hid hmr
  have HZ := Lib.hid hz
  have HBB := Lib.hid hb
  have c0 := one_cell hmr.mem
  obtain ⟨a0, a1, a2, a3, a4, a5⟩ := ring_cells hmr.ring
  clear hr hb0 hmr hw0 hz hb
  go_enter Try.func47, Try.ntmps47
  go_wp2_with fail
  rw [HW.out]
  refine HC.out.mono ?_
  rintro e w2 ⟨rfl, hb2⟩
  have HB2 := Lib.hid (HB.out.trans (hb2.mono HB.out.size))
  have hmr2 := HMR.out.below hb2
  clear hb2 c0 a0 a1 a2 a3 a4 a5
  have c0 := one_cell hmr2.mem
  obtain ⟨a0, a1, a2, a3, a4, a5⟩ := ring_cells hmr2.ring
  clear hmr2
  by_cases hok : RgOK m r
  · have hd : decide (RgOK m r) = true := decide_eq_true hok
    have HV : Hid (findRgR m r b = (Lib.indexByte (Lib.bytesOf (ringL m r)) b.toNat.toUInt8, true)) := Lib.hid (by rw [findRgR, if_pos hok])
    have HS := Lib.hid (specRBytes_calls A cm m r w2 ((HR.out.below HB2.out).more HB2.out.size) hok)
    have HIS := Lib.hid (ringL_isB hok HZ.out)
    have hlen : (ringL m r).length = r.many.toNat := ringL_len m r
    have h64 : r.many.toNat ≤ 64 := by have := hok.1.small; have := hok.2.2.2.2.2; omega
    clear hok
    go_wp2_with fail
    refine HS.out.mono ?_
    rintro e w4 ⟨g4, cv, rfl, ho, hb4⟩
    have HO := Lib.hid ho
    have HB4 := Lib.hid (HB2.out.trans (hb4.mono HB2.out.size))
    have HL := Lib.hid hlen
    generalize ringL m r = L at *
    generalize r.many.toNat = N at *
    clear ho hb4 c0 a0 a1 a2 a3 a4 a5 hlen
    go_wp2_with fail
    go_loopw [9] (fun i wr => ∃ j : Nat, j ≤ N ∧ i = .int .i64 j ∧ (∀ k, k < j → L[k]? ≠ some b) ∧ Below w4.heap.size w4 wr) (fun i _ => N - (intOf i).toNat)
    case atStart => exact ⟨0, Nat.zero_le _, rfl, fun k hk => by omega, Below.refl _ _⟩
    case round =>
      obtain ⟨j, hj, rfl, ht, hbr⟩ := hrel
      have HT := Lib.hid ht
      have HBR := Lib.hid hbr
      have HO5 := own_below HO.out hbr
      clear ht hbr
      by_cases hlt : j < N
      · have hlj : j < L.length := by rw [HL.out]; exact hlt
        have e0 : wr.cell? ⟨g4, j, none⟩ = some (.int .u8 L[j]) := by
          have h := HO5.cellAt j (by omega)
          rw [h]; simp [intV]
        have HG := Lib.hid (show L[j]? = some L[j] from List.getElem?_eq_getElem hlj)
        generalize L[j] = q at *
        clear HO5
        by_cases he : q = b
        · have hqb : (q == b) = true := by simp [he]
          have HQ := Lib.hid (find_hit b HBB.out L j HIS.out (by rw [HG.out, he]) HT.out)
          clear he
          go_wp2_with fail
          go_ret2
          exact ⟨by rw [HV.out, HQ.out]; rfl, HB4.out.trans (HBR.out.mono HB4.out.size)⟩
        · have hqb : (q == b) = false := by simp [he]
          have HT2 : Hid (∀ k, k < j + 1 → L[k]? ≠ some b) := Lib.hid fun k hk => by
            rcases Nat.lt_or_ge k j with h | h
            · exact HT.out k h
            · obtain rfl : k = j := by omega
              rw [HG.out]; simpa using he
          clear he
          go_wp2_with fail
          go_roundw
          case rel => exact ⟨j + 1, by omega, by go_num, HT2.out, HBR.out⟩
          case measure => simp [intOf]; omega
      · obtain rfl : j = N := by omega
        have HQ := Lib.hid (find_none b HBB.out L HIS.out (fun z hz he => by
          obtain ⟨i, hi, e⟩ := List.getElem_of_mem hz
          exact HT.out i (by rw [← HL.out]; exact hi) (by rw [List.getElem?_eq_getElem hi, e, he])))
        clear HO5
        go_wp2_with fail
        go_ret2
        exact ⟨by rw [HV.out, HQ.out]; rfl, HB4.out.trans (HBR.out.mono HB4.out.size)⟩
  · have hd : decide (RgOK m r) = false := decide_eq_false hok
    have HV : Hid (findRgR m r b = (0, false)) := Lib.hid (by rw [findRgR, if_neg hok])
    clear hok
    go_wp2_with fail
    go_ret2
    exact ⟨by rw [HV.out]; rfl, HB2.out⟩
end Go.Proofs.Ytlioamjmkaaooaa
