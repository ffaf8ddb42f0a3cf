/-
  SameRings of spec and impl.
-/
import Derived.Test.YtlioamjmkaaooaaRgF
import Derived.Test.YtlioamjmkaaooaaCmp
namespace Go.Proofs.Ytlioamjmkaaooaa
open Go.RowKit

/-- What SameRings answers. -/
def sameRgR (m : List (List Int)) (r y : Rg) : Bool × Bool := if RgOK m r ∧ RgOK m y then (Lib.bytesOf (ringL m r) == Lib.bytesOf (ringL m y), true) else (false, false)
theorem cmpB_zero : ∀ (a b : List UInt8), (Lib.compareBytes a b == 0) = (a == b)
  | [], [] => by simp [Lib.compareBytes]
  | [], _ :: _ => by simp [Lib.compareBytes]
  | _ :: _, [] => by simp [Lib.compareBytes]
  | x :: xs, y :: ys => by
    have ih := cmpB_zero xs ys
    unfold Lib.compareBytes
    by_cases h1 : x < y
    · have hne : x ≠ y := fun e => by subst e; exact absurd h1 (UInt8.lt_irrefl _)
      simp [h1, hne]
    · by_cases h2 : y < x
      · have hne : x ≠ y := fun e => by subst e; exact absurd h2 (UInt8.lt_irrefl _)
        simp [h1, h2, hne]
      · have he : x = y := UInt8.le_antisymm (UInt8.not_lt.1 h2) (UInt8.not_lt.1 h1)
        subst he
        simp [ih]
theorem cmp_zero (xs ys : List Int) : (cmpI xs ys == 0) = (Lib.bytesOf xs == Lib.bytesOf ys) := cmpB_zero _ _
/-- A memory and two rings, as a function has them of its arguments. -/
structure MR2 (W : World) (g : Nat) (A : Option Addr) (n c : Nat) (r y : Rg) : Prop where
  mem : W.heap[g]? = some (.cells #[.slice A n c] 32)
  ring : W.heap[g + 1]? = some (.cells #[.int .i64 r.w.arr, .int .i64 r.w.start, .int .i64 r.w.len, .int .i64 r.w.cap, .int .i64 r.first, .int .i64 r.many] 36)
  ring2 : W.heap[g + 1 + 1]? = some (.cells #[.int .i64 y.w.arr, .int .i64 y.w.start, .int .i64 y.w.len, .int .i64 y.w.cap, .int .i64 y.first, .int .i64 y.many] 36)
theorem MR2.below {W W' : World} {g : Nat} {A : Option Addr} {n c : Nat} {r y : Rg} (h : MR2 W g A n c r y) (hb : Below W.heap.size W W') : MR2 W' g A n c r y :=
  ⟨(hb.block _ (Array.getElem?_eq_some_iff.1 h.mem).1).trans h.mem, (hb.block _ (Array.getElem?_eq_some_iff.1 h.ring).1).trans h.ring, (hb.block _ (Array.getElem?_eq_some_iff.1 h.ring2).1).trans h.ring2⟩
theorem enterMR2 (A : Option Addr) (n c : Nat) (r y : Rg) (w : World) :
    ∃ w0, ((w.alloc (.cells #[.slice A n c] 32)).alloc (.cells #[.int .i64 r.w.arr, .int .i64 r.w.start, .int .i64 r.w.len, .int .i64 r.w.cap, .int .i64 r.first, .int .i64 r.many] 36)).alloc (.cells #[.int .i64 y.w.arr, .int .i64 y.w.start, .int .i64 y.w.len, .int .i64 y.w.cap, .int .i64 y.first, .int .i64 y.many] 36) = w0 ∧ Below w.heap.size w w0 ∧ w0.heap.size = w.heap.size + 3 ∧ MR2 w0 w.heap.size A n c r y := by
  obtain ⟨h1, h2, h3, h4, h5⟩ := enter3 w (.cells #[.slice A n c] 32) (.cells #[.int .i64 r.w.arr, .int .i64 r.w.start, .int .i64 r.w.len, .int .i64 r.w.cap, .int .i64 r.first, .int .i64 r.many] 36) (.cells #[.int .i64 y.w.arr, .int .i64 y.w.start, .int .i64 y.w.len, .int .i64 y.w.cap, .int .i64 y.first, .int .i64 y.many] 36)
  exact ⟨_, rfl, h1, h5, ⟨h2, h3, h4⟩⟩

set_option maxRecDepth 100000 in
set_option maxHeartbeats 3200000 in
theorem specSameRings_calls (A : Option Addr) (cm : Nat) (m : List (List Int)) (r y : Rg) (w : World) (hr : Rd2 w w.heap.size A m) (hn : m.length ≤ maxLen) (hz : ∀ r ∈ m, ∀ z ∈ r, IsB z) :
    Calls Try.prog 49 #[.agg #[.slice A m.length cm], .agg #[.int .i64 r.w.arr, .int .i64 r.w.start, .int .i64 r.w.len, .int .i64 r.w.cap, .int .i64 r.first, .int .i64 r.many], .agg #[.int .i64 y.w.arr, .int .i64 y.w.start, .int .i64 y.w.len, .int .i64 y.w.cap, .int .i64 y.first, .int .i64 y.many]] w fun e w' => e = .returned (.tuple #[.bool (sameRgR m r y).1, .bool (sameRgR m r y).2]) ∧ Below w.heap.size w w' := by
  obtain ⟨w0, hw0, hb0, hz0, hmr⟩ := enterMR2 A m.length cm r y w
  have HC := Lib.hid (specRing_calls A cm m r w0 ((hr.below hb0).more hb0.size) hn)
  have HC2 := Lib.hid (fun W (hb : Below w.heap.size w W) => specRing_calls A cm m y W ((hr.below hb).more hb.size) hn)
  have HR := Lib.hid hr
  have HB := Lib.hid hb0
  have HW := Lib.hid hw0
  have HMR := Lib.hid hmr
  have HZ := Lib.hid hz
  have c0 := one_cell hmr.mem
  obtain ⟨a0, a1, a2, a3, a4, a5⟩ := ring_cells hmr.ring
  obtain ⟨b0, b1, b2, b3, b4, b5⟩ := ring_cells hmr.ring2
  clear hr hb0 hmr hw0 hz
  go_enter Try.func49, Try.ntmps49
  go_wp2_with fail
  rw [HW.out]
  refine HC.out.mono ?_
  rintro e w2 ⟨rfl, hb2⟩
  have HB2 := Lib.hid (HB.out.trans (hb2.mono HB.out.size))
  have HM2 := Lib.hid (HMR.out.below hb2)
  clear hb2 c0 a0 a1 a2 a3 a4 a5 b0 b1 b2 b3 b4 b5
  have c0 := one_cell HM2.out.mem
  obtain ⟨b0, b1, b2, b3, b4, b5⟩ := ring_cells HM2.out.ring2
  by_cases hok : RgOK m r
  · have hd : decide (RgOK m r) = true := decide_eq_true hok
    rw [hd]
    clear hd
    go_wp2_with fail
    refine (HC2.out w2 HB2.out).mono ?_
    rintro e w3 ⟨rfl, hb3⟩
    have HB3 := Lib.hid (HB2.out.trans (hb3.mono HB2.out.size))
    have HM3 := Lib.hid (HM2.out.below hb3)
    clear hb3 c0 b0 b1 b2 b3 b4 b5
    by_cases hok2 : RgOK m y
    · have hd : decide (RgOK m y) = true := decide_eq_true hok2
      have HV : Hid (sameRgR m r y = (cmpI (ringL m r) (ringL m y) == 0, true)) := Lib.hid (by rw [sameRgR, if_pos ⟨hok, hok2⟩, cmp_zero])
      have HS1 := Lib.hid (fun W (hb : Below w.heap.size w W) => specRBytes_calls A cm m r W ((HR.out.below hb).more hb.size) hok)
      have HS2 := Lib.hid (fun W (hb : Below w.heap.size w W) => specRBytes_calls A cm m y W ((HR.out.below hb).more hb.size) hok2)
      have HI1 := Lib.hid (ringL_isB hok HZ.out)
      have HI2 := Lib.hid (ringL_isB hok2 HZ.out)
      have hl1 : (ringL m r).length = r.many.toNat := ringL_len m r
      have hl2 : (ringL m y).length = y.many.toNat := ringL_len m y
      have h641 : (ringL m r).length ≤ 64 := by have := hok.1.small; have := hok.2.2.2.2.2; omega
      have h642 : (ringL m y).length ≤ 64 := by have := hok2.1.small; have := hok2.2.2.2.2.2; omega
      have HK : Hid (∀ W, Below w3.heap.size w3 W → W.cell? ⟨w.heap.size, 0, none⟩ = some (.slice A m.length cm) ∧ (W.cell? ⟨w.heap.size + 1, 0, none⟩ = some (.int .i64 r.w.arr) ∧ W.cell? ⟨w.heap.size + 1, 1, none⟩ = some (.int .i64 r.w.start) ∧ W.cell? ⟨w.heap.size + 1, 2, none⟩ = some (.int .i64 r.w.len) ∧ W.cell? ⟨w.heap.size + 1, 3, none⟩ = some (.int .i64 r.w.cap) ∧ W.cell? ⟨w.heap.size + 1, 4, none⟩ = some (.int .i64 r.first) ∧ W.cell? ⟨w.heap.size + 1, 5, none⟩ = some (.int .i64 r.many)) ∧ W.cell? ⟨w.heap.size + 1 + 1, 0, none⟩ = some (.int .i64 y.w.arr) ∧ W.cell? ⟨w.heap.size + 1 + 1, 1, none⟩ = some (.int .i64 y.w.start) ∧ W.cell? ⟨w.heap.size + 1 + 1, 2, none⟩ = some (.int .i64 y.w.len) ∧ W.cell? ⟨w.heap.size + 1 + 1, 3, none⟩ = some (.int .i64 y.w.cap) ∧ W.cell? ⟨w.heap.size + 1 + 1, 4, none⟩ = some (.int .i64 y.first) ∧ W.cell? ⟨w.heap.size + 1 + 1, 5, none⟩ = some (.int .i64 y.many)) := Lib.hid fun W h => ⟨one_cell (HM3.out.below h).mem, ring_cells (HM3.out.below h).ring, ring_cells (HM3.out.below h).ring2⟩
      rw [← hl1] at HS1
      rw [← hl2] at HS2
      generalize ringL m r = L1 at *
      generalize ringL m y = L2 at *
      clear hok hok2 hl1 hl2
      have HO : Hid (∀ W A' B' c d, Rd W W.heap.size A' (intV .u8 L1) → Rd W W.heap.size B' (intV .u8 L2) → Calls Try.prog 89 #[.slice A' L1.length c, .slice B' L2.length d] W fun e w' => e = .returned (.int .i64 (cmpI L1 L2)) ∧ ∃ n, w' = W.drewN n) := Lib.hid fun W A' B' c d h1 h2 => specOrder_calls A' B' c d L1 L2 W h1 h2 h641 h642 HI1.out HI2.out
      generalize cmpI L1 L2 = q at *
      rw [hd]
      clear hd
      go_wp2_with fail
      obtain ⟨c0, ⟨a0, a1, a2, a3, a4, a5⟩, b0, b1, b2, b3, b4, b5⟩ := HK.out w3.drew (Below.refl _ _).drew
      go_region_held3 (fun W => W.cell? ⟨w.heap.size, 0, none⟩ = some (.slice A m.length cm) ∧ (W.cell? ⟨w.heap.size + 1, 0, none⟩ = some (.int .i64 r.w.arr) ∧ W.cell? ⟨w.heap.size + 1, 1, none⟩ = some (.int .i64 r.w.start) ∧ W.cell? ⟨w.heap.size + 1, 2, none⟩ = some (.int .i64 r.w.len) ∧ W.cell? ⟨w.heap.size + 1, 3, none⟩ = some (.int .i64 r.w.cap) ∧ W.cell? ⟨w.heap.size + 1, 4, none⟩ = some (.int .i64 r.first) ∧ W.cell? ⟨w.heap.size + 1, 5, none⟩ = some (.int .i64 r.many)) ∧ W.cell? ⟨w.heap.size + 1 + 1, 0, none⟩ = some (.int .i64 y.w.arr) ∧ W.cell? ⟨w.heap.size + 1 + 1, 1, none⟩ = some (.int .i64 y.w.start) ∧ W.cell? ⟨w.heap.size + 1 + 1, 2, none⟩ = some (.int .i64 y.w.len) ∧ W.cell? ⟨w.heap.size + 1 + 1, 3, none⟩ = some (.int .i64 y.w.cap) ∧ W.cell? ⟨w.heap.size + 1 + 1, 4, none⟩ = some (.int .i64 y.first) ∧ W.cell? ⟨w.heap.size + 1 + 1, 5, none⟩ = some (.int .i64 y.many))
        (first | (with_reducible exact ⟨c0, ⟨a0, a1, a2, a3, a4, a5⟩, b0, b1, b2, b3, b4, b5⟩) | (with_reducible exact HK.out _ hc6) | (with_reducible exact HK.out _ hc5) | (with_reducible exact HK.out _ hc4))
        (first | (go_at_call 65; (with_reducible refine (HS1.out w3.drew HB3.out.drew).mono ?_); rintro e w4 ⟨g4, c4, rfl, ho4, hb4⟩; have hc4 : Below w3.heap.size w3 w4 := (Below.refl _ _).drew.trans hb4; have HO4 := Lib.hid ho4; clear ho4 hb4) | (go_at_call 65; (with_reducible refine (HS2.out w4 (HB3.out.trans (hc4.mono HB3.out.size))).mono ?_); rintro e w5 ⟨g5, c5, rfl, ho5, hb5⟩; have hc5 : Below w3.heap.size w3 w5 := hc4.trans (hb5.mono hc4.size); have HO5 := Lib.hid ho5; have HO45 := Lib.hid (own_below HO4.out hb5); clear ho5 hb5) | (go_at_call 89; (with_reducible refine (HO.out w5 _ _ _ _ (Rd.of_own HO45.out) (Rd.of_own HO5.out)).mono ?_); rintro e w6 ⟨rfl, n6, rfl⟩; have hc6 : Below w3.heap.size w3 (w5.drewN n6) := below_drewN hc5 n6))
      go_wp2_with fail
      refine bodyPost_ret (v := .tuple #[.bool (q == 0), .bool true]) (by simp [results, Try.results49, go_sem]) rfl ⟨by rw [HV.out], HB3.out.trans (hc6.mono HB3.out.size)⟩
    · have hd : decide (RgOK m y) = false := decide_eq_false hok2
      have HV : Hid (sameRgR m r y = (false, false)) := Lib.hid (by rw [sameRgR, if_neg (fun h => hok2 h.2)])
      clear hok hok2
      go_wp2_with fail
      go_ret2
      exact ⟨by rw [HV.out]; rfl, HB3.out⟩
  · have hd : decide (RgOK m r) = false := decide_eq_false hok
    have HV : Hid (sameRgR m r y = (false, false)) := Lib.hid (by rw [sameRgR, if_neg (fun h => hok h.1)])
    clear hok
    go_wp2_with fail
    go_ret2
    exact ⟨by rw [HV.out]; rfl, HB2.out⟩

theorem bytesIn_rd {w : World} {B : Nat} {A : Option Addr} {xs : List Int} (h : Rd w B A (intV .u8 xs)) : Lib.BytesIn w A xs.length xs := fun h0 => by
  rcases h with h | ⟨b, off, rfl, hb, hc⟩
  · have hx : xs = [] := by simpa [intV] using h
    subst hx
    exact absurd h0 (Nat.lt_irrefl 0)
  · refine ⟨b, off, rfl, fun i hi => hc i _ ?_⟩
    rw [List.getD_eq_getElem?_getD, List.getElem?_eq_getElem hi]
    simp [intV, hi]

set_option maxRecDepth 100000 in
set_option maxHeartbeats 1600000 in
theorem implSameRings_calls (A : Option Addr) (cm : Nat) (m : List (List Int)) (r y : Rg) (w : World) (hr : Rd2 w w.heap.size A m) (hn : m.length ≤ maxLen) (hx : RArg r) (hy : RArg y) :
    Calls Try.prog 50 #[.agg #[.slice A m.length cm], .agg #[.int .i64 r.w.arr, .int .i64 r.w.start, .int .i64 r.w.len, .int .i64 r.w.cap, .int .i64 r.first, .int .i64 r.many], .agg #[.int .i64 y.w.arr, .int .i64 y.w.start, .int .i64 y.w.len, .int .i64 y.w.cap, .int .i64 y.first, .int .i64 y.many]] w fun e w' => e = .returned (.tuple #[.bool (sameRgR m r y).1, .bool (sameRgR m r y).2]) ∧ Below w.heap.size w w' := by
  obtain ⟨w0, hw0, hb0, hz0, hmr⟩ := enterMR2 A m.length cm r y w
  have HC := Lib.hid (implRingBytes_calls A cm m r w0 ((hr.below hb0).more hb0.size) hn hx)
  have HC2 := Lib.hid (fun W (hb : Below w.heap.size w W) => implRingBytes_calls A cm m y W ((hr.below hb).more hb.size) hn hy)
  have HB := Lib.hid hb0
  have HW := Lib.hid hw0
  have HMR := Lib.hid hmr
  have c0 := one_cell hmr.mem
  obtain ⟨a0, a1, a2, a3, a4, a5⟩ := ring_cells hmr.ring
  obtain ⟨b0, b1, b2, b3, b4, b5⟩ := ring_cells hmr.ring2
  have HV := Lib.hid (show sameRgR m r y = (((ringBytesR m r).2 && (ringBytesR m y).2) && (Lib.bytesOf (ringBytesR m r).1 == Lib.bytesOf (ringBytesR m y).1), (ringBytesR m r).2 && (ringBytesR m y).2) by
    unfold sameRgR ringBytesR
    by_cases h1 : RgOK m r <;> by_cases h2 : RgOK m y <;> simp [h1, h2])
  clear hr hb0 hmr hw0
  obtain ⟨L1, p1, hf1⟩ : ∃ L p, ringBytesR m r = (L, p) := ⟨_, _, rfl⟩
  obtain ⟨L2, p2, hf2⟩ : ∃ L p, ringBytesR m y = (L, p) := ⟨_, _, rfl⟩
  rw [hf1] at HC HV
  rw [hf2] at HC2 HV
  clear hf1 hf2
  go_enter Try.func50, Try.ntmps50
  go_wp2_with fail
  rw [HW.out]
  refine HC.out.mono ?_
  rintro e w2 ⟨v1, rfl, ho1, hb2⟩
  have HB2 := Lib.hid (HB.out.trans (hb2.mono HB.out.size))
  have HM2 := Lib.hid (HMR.out.below hb2)
  have HO1 := Lib.hid ho1
  clear hb2 ho1 c0 a0 a1 a2 a3 a4 a5 b0 b1 b2 b3 b4 b5
  have c0 := one_cell HM2.out.mem
  obtain ⟨b0, b1, b2, b3, b4, b5⟩ := ring_cells HM2.out.ring2
  go_wp2_with fail
  refine (HC2.out w2 HB2.out).mono ?_
  rintro e w3 ⟨v2, rfl, ho2, hb3⟩
  have HB3 := Lib.hid (HB2.out.trans (hb3.mono HB2.out.size))
  have ho13 := own_below HO1.out hb3
  obtain ⟨A1, c1, rfl⟩ := own_form ho13
  obtain ⟨A2, c2, rfl⟩ := own_form ho2
  have HE := Lib.hid (Try.bytes_Equal_all A1 A2 L1.length c1 L2.length c2 L1 L2 w3 rfl rfl (bytesIn_rd (Rd.of_own ho13)) (bytesIn_rd (Rd.of_own ho2)))
  clear hb3 ho2 ho13 c0 b0 b1 b2 b3 b4 b5
  generalize (Lib.bytesOf L1 == Lib.bytesOf L2) = q at *
  cases p1 <;> cases p2
  · go_wp2_with fail
    go_ret2
    exact ⟨by rw [HV.out]; rfl, HB3.out⟩
  · go_wp2_with fail
    go_ret2
    exact ⟨by rw [HV.out]; rfl, HB3.out⟩
  · go_wp2_with fail
    go_ret2
    exact ⟨by rw [HV.out]; rfl, HB3.out⟩
  · go_wp2_with fail
    refine HE.out.mono ?_
    rintro e w4 ⟨rfl, rfl⟩
    go_wp2_with fail
    go_ret2
    exact ⟨by rw [HV.out]; rfl, HB3.out⟩
end Go.Proofs.Ytlioamjmkaaooaa
