/-
  OrderOf and SameBytes of spec and impl.
-/
import Derived.Test.YtbdaaeffbhcflabCmp
import Derived.Test.YtbdaaeffbhcflabApart
import Derived.Test.YtbdaaeffbhcflabBytes
namespace Go.Proofs.Ytbdaaeffbhcflab
open Go.RowKit

/-- How the bytes of two windows compare. -/
def ordI (m : List (List Int)) (x y : Win) : Int := cmpI (wb m x.arr.toNat x.start.toNat x.len.toNat) (wb m y.arr.toNat y.start.toNat y.len.toNat)
def orderV (m : List (List Int)) (x y : Win) : Value := if WinOK m x ∧ WinOK m y then .tuple #[.int .i64 (ordI m x y), .bool true] else .tuple #[.int .i64 0, .bool false]
def sameV (m : List (List Int)) (x y : Win) : Value := if WinOK m x ∧ WinOK m y then .tuple #[.bool (decide (ordI m x y = 0)), .bool true] else .tuple #[.bool false, .bool false]

set_option maxRecDepth 100000 in
set_option maxHeartbeats 1600000 in
theorem implOrderOf_calls (A : Option Addr) (cm : Nat) (m : List (List Int)) (x y : Win) (w : World) (hr : Rd2 w w.heap.size A m) (hn : m.length ≤ maxLen) (hx : WArg x) (hy : WArg y) :
    Calls Try.prog 41 #[.agg #[.slice A m.length cm], .agg #[.int .i64 x.arr, .int .i64 x.start, .int .i64 x.len, .int .i64 x.cap], .agg #[.int .i64 y.arr, .int .i64 y.start, .int .i64 y.len, .int .i64 y.cap]] w fun e w' => e = .returned (orderV m x y) ∧ Below w.heap.size w w' := by
  obtain ⟨w0, hw0, hb0, hz0, hmw⟩ := enterMW2 A m.length cm x y w
  have HC := Lib.hid (areTwo_calls A cm m x y w0 ((hr.below hb0).more hb0.size) hn hx hy (w.heap.size + 1 + 1 + 1) (by omega))
  have HB := Lib.hid hb0
  have HR := Lib.hid hr
  have HW := Lib.hid hw0
  have HMW := Lib.hid hmw
  have hrb := run_win2
  clear hr hb0 hmw hw0
  go_enter Try.func41, Try.ntmps41
  go_wp2_with fail
  rw [HW.out]
  clear hrb
  refine HC.out.mono ?_
  rintro e w2 ⟨rfl, hb2⟩
  have HB2 := Lib.hid (HB.out.trans (hb2.mono HB.out.size))
  have hmw2 := HMW.out.below hb2
  have HMW2 := Lib.hid hmw2
  have c1 := one_cell hmw2.mem
  obtain ⟨d0, d1, d2, d3⟩ := four_cells hmw2.win
  obtain ⟨e0, e1, e2, e3⟩ := four_cells hmw2.win2
  clear hb2 hmw2
  by_cases hm : WinOK m x ∧ WinOK m y
  · have hd : decide (WinOK m x ∧ WinOK m y) = true := decide_eq_true hm
    obtain ⟨n, s, l, c, rfl, hnl, hlc, hsc, h1, h64, h16⟩ := hm.1.nat
    obtain ⟨n2, s2, l2, c2, rfl, hnl2, hlc2, hsc2, h12, h642, h162⟩ := hm.2.nat
    have HV := Lib.hid (show orderV m ⟨n, s, l, c⟩ ⟨n2, s2, l2, c2⟩ = .tuple #[.int .i64 (cmpI (wb m n s l) (wb m n2 s2 l2)), .bool true] by rw [orderV, if_pos hm]; rfl)
    clear hm
    dsimp only at *
    have HS1 := Lib.hid (fun W (hb : Below w2.heap.size w2 W) => seenR_calls A cm m n s l c W ((HR.out.below (HB2.out.trans (hb.mono HB2.out.size))).more (Nat.le_trans HB2.out.size hb.size)) hnl h16 hlc hsc h1 h64)
    have HS2 := Lib.hid (fun W (hb : Below w2.heap.size w2 W) => seenR_calls A cm m n2 s2 l2 c2 W ((HR.out.below (HB2.out.trans (hb.mono HB2.out.size))).more (Nat.le_trans HB2.out.size hb.size)) hnl2 h16 hlc2 hsc2 h12 h642)
    have hlen1 := Lib.hid (show (wb m n s l).length = l from wb_len hnl (by omega))
    have hlen2 := Lib.hid (show (wb m n2 s2 l2).length = l2 from wb_len hnl2 (by omega))
    have HA : Hid (∀ W, Below w2.heap.size w2 W → W.cell? ⟨w.heap.size, 0, none⟩ = some (.slice A m.length cm) ∧ W.cell? ⟨w.heap.size + 1, 0, none⟩ = some (.int .i64 n) ∧ W.cell? ⟨w.heap.size + 1, 1, none⟩ = some (.int .i64 s) ∧ W.cell? ⟨w.heap.size + 1, 2, none⟩ = some (.int .i64 l) ∧ W.cell? ⟨w.heap.size + 1, 3, none⟩ = some (.int .i64 c) ∧ W.cell? ⟨w.heap.size + 1 + 1, 0, none⟩ = some (.int .i64 n2) ∧ W.cell? ⟨w.heap.size + 1 + 1, 1, none⟩ = some (.int .i64 s2) ∧ W.cell? ⟨w.heap.size + 1 + 1, 2, none⟩ = some (.int .i64 l2) ∧ W.cell? ⟨w.heap.size + 1 + 1, 3, none⟩ = some (.int .i64 c2)) := Lib.hid fun W hb => by
      have h := HMW2.out.below hb
      obtain ⟨d0, d1, d2, d3⟩ := four_cells h.win
      obtain ⟨e0, e1, e2, e3⟩ := four_cells h.win2
      exact ⟨one_cell h.mem, d0, d1, d2, d3, e0, e1, e2, e3⟩
    have HD2 := Lib.hid ((Below.refl w2.heap.size w2).drew)
    generalize hq : cmpI (wb m n s l) (wb m n2 s2 l2) = q at HV
    have HQ := Lib.hid hq
    clear hq
    rw [hd]
    clear hd
    clear c1 d0 d1 d2 d3 e0 e1 e2 e3
    obtain ⟨c1, d0, d1, d2, d3, e0, e1, e2, e3⟩ := HA.out w2.drew HD2.out
    go_wp2_with fail
    go_region_held3 (fun W => W.cell? ⟨w.heap.size, 0, none⟩ = some (.slice A m.length cm) ∧ W.cell? ⟨w.heap.size + 1, 0, none⟩ = some (.int .i64 n) ∧ W.cell? ⟨w.heap.size + 1, 1, none⟩ = some (.int .i64 s) ∧ W.cell? ⟨w.heap.size + 1, 2, none⟩ = some (.int .i64 l) ∧ W.cell? ⟨w.heap.size + 1, 3, none⟩ = some (.int .i64 c) ∧ W.cell? ⟨w.heap.size + 1 + 1, 0, none⟩ = some (.int .i64 n2) ∧ W.cell? ⟨w.heap.size + 1 + 1, 1, none⟩ = some (.int .i64 s2) ∧ W.cell? ⟨w.heap.size + 1 + 1, 2, none⟩ = some (.int .i64 l2) ∧ W.cell? ⟨w.heap.size + 1 + 1, 3, none⟩ = some (.int .i64 c2))
      (first | exact ⟨c1, d0, d1, d2, d3, e0, e1, e2, e3⟩ | exact HA.out _ hc3 | exact HA.out _ hc4)
      (first
        | (go_at_call 56; (with_reducible refine (HS2.out _ hc3).mono ?_); rintro e w4 ⟨⟨⟨b2, o2, p2⟩, hbb2, hsp2, rfl, hrd2⟩, hb4⟩; obtain rfl : p2 = none := hsp2; have hc4 := hc3.trans (hb4.mono hc3.size))
        | (go_at_call 56; (with_reducible refine (HS1.out _ HD2.out).mono ?_); rintro e w3 ⟨⟨⟨b1, o1, p1⟩, hbb1, hsp1, rfl, hrd1⟩, hb3⟩; obtain rfl : p1 = none := hsp1; have hc3 := HD2.out.trans hb3; have hrd1 := (hrd1.below hb3).more hb3.size)
        | (go_at_call 66; refine (cmp_calls b1 o1 l c b2 o2 l2 c2 (wb m n s l) (wb m n2 s2 l2) w4 hlen1.out hlen2.out (hrd1.below hb4) (hrd2.below hb4)).mono ?_; rintro e w5 ⟨rfl, rfl⟩; rw [HQ.out]))
    go_wp2_with fail
    go_ret2
    exact ⟨HV.out.symm ▸ rfl, HB2.out.trans (hc4.mono HB2.out.size)⟩
  · have hd : decide (WinOK m x ∧ WinOK m y) = false := decide_eq_false hm
    have HV := Lib.hid (show orderV m x y = .tuple #[.int .i64 0, .bool false] by rw [orderV, if_neg hm])
    clear hm
    go_wp2_with fail
    go_ret2
    exact ⟨HV.out.symm ▸ rfl, HB2.out⟩

set_option maxRecDepth 100000 in
set_option maxHeartbeats 1600000 in
theorem specOrderOf_calls (A : Option Addr) (cm : Nat) (m : List (List Int)) (x y : Win) (w : World) (hr : Rd2 w w.heap.size A m) (hn : m.length ≤ maxLen) (hz : ∀ r ∈ m, ∀ z ∈ r, IsB z) :
    Calls Try.prog 40 #[.agg #[.slice A m.length cm], .agg #[.int .i64 x.arr, .int .i64 x.start, .int .i64 x.len, .int .i64 x.cap], .agg #[.int .i64 y.arr, .int .i64 y.start, .int .i64 y.len, .int .i64 y.cap]] w fun e w' => e = .returned (orderV m x y) ∧ Below w.heap.size w w' := by
  obtain ⟨w0, hw0, hb0, hz0, hmw⟩ := enterMW2 A m.length cm x y w
  have HC := Lib.hid (specBoth_calls A cm m x y w0 ((hr.below hb0).more hb0.size) hn)
  have HB := Lib.hid hb0
  have HR := Lib.hid hr
  have HW := Lib.hid hw0
  have HMW := Lib.hid hmw
  have HZ := Lib.hid hz
  clear hr hb0 hmw hw0 hz
  go_enter Try.func40, Try.ntmps40
  go_wp2_with fail
  rw [HW.out]
  refine HC.out.mono ?_
  rintro e w2 ⟨rfl, hb2⟩
  have HB2 := Lib.hid (HB.out.trans (hb2.mono HB.out.size))
  have HMW2 := Lib.hid (HMW.out.below hb2)
  clear hb2
  by_cases hm : WinOK m x ∧ WinOK m y
  · have hd : decide (WinOK m x ∧ WinOK m y) = true := decide_eq_true hm
    obtain ⟨n, s, l, c, rfl, hnl, hlc, hsc, h1, h64, h16⟩ := hm.1.nat
    obtain ⟨n2, s2, l2, c2, rfl, hnl2, hlc2, hsc2, h12, h642, h162⟩ := hm.2.nat
    have HV := Lib.hid (show orderV m ⟨n, s, l, c⟩ ⟨n2, s2, l2, c2⟩ = .tuple #[.int .i64 (cmpI (wb m n s l) (wb m n2 s2 l2)), .bool true] by rw [orderV, if_pos hm]; rfl)
    clear hm
    dsimp only at *
    have HS1 := Lib.hid (fun W (hb : Below w2.heap.size w2 W) => specBytes_calls A cm m n s l c W ((HR.out.below (HB2.out.trans (hb.mono HB2.out.size))).more (Nat.le_trans HB2.out.size hb.size)) hnl h16 (by omega) h64)
    have HS2 := Lib.hid (fun W (hb : Below w2.heap.size w2 W) => specBytes_calls A cm m n2 s2 l2 c2 W ((HR.out.below (HB2.out.trans (hb.mono HB2.out.size))).more (Nat.le_trans HB2.out.size hb.size)) hnl2 h16 (by omega) h642)
    have hlen1 := Lib.hid (show (wb m n s l).length = l from wb_len hnl (by omega))
    have hlen2 := Lib.hid (show (wb m n2 s2 l2).length = l2 from wb_len hnl2 (by omega))
    have HO : Hid (∀ W P1 P2 k1 k2, Rd W W.heap.size P1 (intV .u8 (wb m n s l)) → Rd W W.heap.size P2 (intV .u8 (wb m n2 s2 l2)) → Calls Try.prog 65 #[.slice P1 l k1, .slice P2 l2 k2] W fun e w' => e = .returned (.int .i64 (cmpI (wb m n s l) (wb m n2 s2 l2))) ∧ ∃ q, w' = W.drewN q) := Lib.hid fun W P1 P2 k1 k2 h1 h2 => by
      have h := specOrder_calls P1 P2 k1 k2 _ _ W h1 h2 (by rw [hlen1.out]; omega) (by rw [hlen2.out]; omega) (wb_isB hnl HZ.out) (wb_isB hnl2 HZ.out)
      rw [hlen1.out, hlen2.out] at h
      exact h
    have HA : Hid (∀ W, Below w2.heap.size w2 W → W.cell? ⟨w.heap.size, 0, none⟩ = some (.slice A m.length cm) ∧ W.cell? ⟨w.heap.size + 1, 0, none⟩ = some (.int .i64 n) ∧ W.cell? ⟨w.heap.size + 1, 1, none⟩ = some (.int .i64 s) ∧ W.cell? ⟨w.heap.size + 1, 2, none⟩ = some (.int .i64 l) ∧ W.cell? ⟨w.heap.size + 1, 3, none⟩ = some (.int .i64 c) ∧ W.cell? ⟨w.heap.size + 1 + 1, 0, none⟩ = some (.int .i64 n2) ∧ W.cell? ⟨w.heap.size + 1 + 1, 1, none⟩ = some (.int .i64 s2) ∧ W.cell? ⟨w.heap.size + 1 + 1, 2, none⟩ = some (.int .i64 l2) ∧ W.cell? ⟨w.heap.size + 1 + 1, 3, none⟩ = some (.int .i64 c2)) := Lib.hid fun W hb => by
      have h := HMW2.out.below hb
      obtain ⟨d0, d1, d2, d3⟩ := four_cells h.win
      obtain ⟨e0, e1, e2, e3⟩ := four_cells h.win2
      exact ⟨one_cell h.mem, d0, d1, d2, d3, e0, e1, e2, e3⟩
    have HD2 := Lib.hid ((Below.refl w2.heap.size w2).drew)
    generalize hq : cmpI (wb m n s l) (wb m n2 s2 l2) = q at HV HO
    clear hq
    rw [hd]
    clear hd
    obtain ⟨c1, d0, d1, d2, d3, e0, e1, e2, e3⟩ := HA.out w2.drew HD2.out
    go_wp2_with fail
    go_region_held3 (fun W => W.cell? ⟨w.heap.size, 0, none⟩ = some (.slice A m.length cm) ∧ W.cell? ⟨w.heap.size + 1, 0, none⟩ = some (.int .i64 n) ∧ W.cell? ⟨w.heap.size + 1, 1, none⟩ = some (.int .i64 s) ∧ W.cell? ⟨w.heap.size + 1, 2, none⟩ = some (.int .i64 l) ∧ W.cell? ⟨w.heap.size + 1, 3, none⟩ = some (.int .i64 c) ∧ W.cell? ⟨w.heap.size + 1 + 1, 0, none⟩ = some (.int .i64 n2) ∧ W.cell? ⟨w.heap.size + 1 + 1, 1, none⟩ = some (.int .i64 s2) ∧ W.cell? ⟨w.heap.size + 1 + 1, 2, none⟩ = some (.int .i64 l2) ∧ W.cell? ⟨w.heap.size + 1 + 1, 3, none⟩ = some (.int .i64 c2))
      (first | exact ⟨c1, d0, d1, d2, d3, e0, e1, e2, e3⟩ | exact HA.out _ hc3 | exact HA.out _ hc4 | exact HA.out _ (below_drewN hc4 _))
      (first
        | (go_at_call 61; (with_reducible refine (HS2.out _ hc3).mono ?_); rintro e w4 ⟨g4, k4, rfl, ho4, hb4⟩; have hc4 := hc3.trans (hb4.mono hc3.size); have hr4 := Rd.of_own ho4; have hr3 := (hr3.below hb4).more hb4.size)
        | (go_at_call 61; (with_reducible refine (HS1.out _ HD2.out).mono ?_); rintro e w3 ⟨g3, k3, rfl, ho3, hb3⟩; have hc3 := HD2.out.trans hb3; have hr3 := Rd.of_own ho3)
        | (go_at_call 65; refine (HO.out w4 _ _ k3 k4 hr3 hr4).mono ?_; rintro e w5 ⟨rfl, z, rfl⟩))
    go_wp2_with fail
    go_ret2
    exact ⟨HV.out.symm ▸ rfl, HB2.out.trans ((below_drewN hc4 _).mono HB2.out.size)⟩
  · have hd : decide (WinOK m x ∧ WinOK m y) = false := decide_eq_false hm
    have HV := Lib.hid (show orderV m x y = .tuple #[.int .i64 0, .bool false] by rw [orderV, if_neg hm])
    clear hm
    go_wp2_with fail
    go_ret2
    exact ⟨HV.out.symm ▸ rfl, HB2.out⟩

set_option maxRecDepth 100000 in
set_option maxHeartbeats 800000 in
theorem implSameBytes_calls (A : Option Addr) (cm : Nat) (m : List (List Int)) (x y : Win) (w : World) (hr : Rd2 w w.heap.size A m) (hn : m.length ≤ maxLen) (hx : WArg x) (hy : WArg y) :
    Calls Try.prog 39 #[.agg #[.slice A m.length cm], .agg #[.int .i64 x.arr, .int .i64 x.start, .int .i64 x.len, .int .i64 x.cap], .agg #[.int .i64 y.arr, .int .i64 y.start, .int .i64 y.len, .int .i64 y.cap]] w fun e w' => e = .returned (sameV m x y) ∧ Below w.heap.size w w' := by
  obtain ⟨w0, hw0, hb0, hz0, hmw⟩ := enterMW2 A m.length cm x y w
  have HC := Lib.hid (implOrderOf_calls A cm m x y w0 ((hr.below hb0).more hb0.size) hn hx hy)
  have HB := Lib.hid hb0
  have HW := Lib.hid hw0
  have c1 := one_cell hmw.mem
  obtain ⟨d0, d1, d2, d3⟩ := four_cells hmw.win
  obtain ⟨e0, e1, e2, e3⟩ := four_cells hmw.win2
  clear hr hb0 hmw hw0 hx hy
  by_cases hm : WinOK m x ∧ WinOK m y
  · have HV := Lib.hid (show sameV m x y = .tuple #[.bool (decide (ordI m x y = 0)), .bool true] by rw [sameV, if_pos hm])
    rw [show orderV m x y = .tuple #[.int .i64 (ordI m x y), .bool true] by rw [orderV, if_pos hm]] at HC
    clear hm
    generalize ordI m x y = q at *
    go_enter Try.func39, Try.ntmps39
    go_wp2_with fail
    rw [HW.out]
    refine HC.out.mono ?_
    rintro e w2 ⟨rfl, hb2⟩
    have HB2 := Lib.hid (HB.out.trans (hb2.mono HB.out.size))
    clear hb2
    by_cases h0 : q = 0
    · have hqb : (q == 0) = true := by simp [h0]
      have HD := Lib.hid (decide_eq_true h0)
      clear h0
      go_wp2_with fail
      go_ret2
      exact ⟨by rw [HV.out, HD.out]; rfl, HB2.out⟩
    · have hqb : (q == 0) = false := by simp [h0]
      have HD := Lib.hid (decide_eq_false h0)
      clear h0
      go_wp2_with fail
      go_ret2
      exact ⟨by rw [HV.out, HD.out]; rfl, HB2.out⟩
  · have HV := Lib.hid (show sameV m x y = .tuple #[.bool false, .bool false] by rw [sameV, if_neg hm])
    rw [show orderV m x y = .tuple #[.int .i64 0, .bool false] by rw [orderV, if_neg hm]] at HC
    clear hm
    go_enter Try.func39, Try.ntmps39
    go_wp2_with fail
    rw [HW.out]
    refine HC.out.mono ?_
    rintro e w2 ⟨rfl, hb2⟩
    have HB2 := Lib.hid (HB.out.trans (hb2.mono HB.out.size))
    clear hb2
    go_wp2_with fail
    go_ret2
    exact ⟨by rw [HV.out]; rfl, HB2.out⟩

set_option maxRecDepth 100000 in
set_option maxHeartbeats 800000 in
theorem specSameBytes_calls (A : Option Addr) (cm : Nat) (m : List (List Int)) (x y : Win) (w : World) (hr : Rd2 w w.heap.size A m) (hn : m.length ≤ maxLen) (hz : ∀ r ∈ m, ∀ z ∈ r, IsB z) :
    Calls Try.prog 38 #[.agg #[.slice A m.length cm], .agg #[.int .i64 x.arr, .int .i64 x.start, .int .i64 x.len, .int .i64 x.cap], .agg #[.int .i64 y.arr, .int .i64 y.start, .int .i64 y.len, .int .i64 y.cap]] w fun e w' => e = .returned (sameV m x y) ∧ Below w.heap.size w w' := by
  obtain ⟨w0, hw0, hb0, hz0, hmw⟩ := enterMW2 A m.length cm x y w
  have HC := Lib.hid (specOrderOf_calls A cm m x y w0 ((hr.below hb0).more hb0.size) hn hz)
  have HB := Lib.hid hb0
  have HW := Lib.hid hw0
  have c1 := one_cell hmw.mem
  obtain ⟨d0, d1, d2, d3⟩ := four_cells hmw.win
  obtain ⟨e0, e1, e2, e3⟩ := four_cells hmw.win2
  clear hr hb0 hmw hw0 hz
  by_cases hm : WinOK m x ∧ WinOK m y
  · have HV := Lib.hid (show sameV m x y = .tuple #[.bool (decide (ordI m x y = 0)), .bool true] by rw [sameV, if_pos hm])
    rw [show orderV m x y = .tuple #[.int .i64 (ordI m x y), .bool true] by rw [orderV, if_pos hm]] at HC
    clear hm
    generalize ordI m x y = q at *
    go_enter Try.func38, Try.ntmps38
    go_wp2_with fail
    rw [HW.out]
    refine HC.out.mono ?_
    rintro e w2 ⟨rfl, hb2⟩
    have HB2 := Lib.hid (HB.out.trans (hb2.mono HB.out.size))
    clear hb2
    by_cases h0 : q = 0
    · have hqb : (q == 0) = true := by simp [h0]
      have HD := Lib.hid (decide_eq_true h0)
      clear h0
      go_wp2_with fail
      go_ret2
      exact ⟨by rw [HV.out, HD.out]; rfl, HB2.out⟩
    · have hqb : (q == 0) = false := by simp [h0]
      have HD := Lib.hid (decide_eq_false h0)
      clear h0
      go_wp2_with fail
      go_ret2
      exact ⟨by rw [HV.out, HD.out]; rfl, HB2.out⟩
  · have HV := Lib.hid (show sameV m x y = .tuple #[.bool false, .bool false] by rw [sameV, if_neg hm])
    rw [show orderV m x y = .tuple #[.int .i64 0, .bool false] by rw [orderV, if_neg hm]] at HC
    clear hm
    go_enter Try.func38, Try.ntmps38
    go_wp2_with fail
    rw [HW.out]
    refine HC.out.mono ?_
    rintro e w2 ⟨rfl, hb2⟩
    have HB2 := Lib.hid (HB.out.trans (hb2.mono HB.out.size))
    clear hb2
    go_wp2_with fail
    go_ret2
    exact ⟨by rw [HV.out]; rfl, HB2.out⟩
end Go.Proofs.Ytbdaaeffbhcflab
