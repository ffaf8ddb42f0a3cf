/-
  Where a rope of the document can be cut (l7Cut, l7Range).
-/
import Derived.Test.YtomebbapjolnlaaRpJ
namespace Go.Proofs.Ytomebbapjolnlaa
open Go.RowKit

theorem Watched.room64 {m : List (List Int)} {L : List Win} (h : Watched m L) : ∀ x ∈ L, 0 ≤ x.start ∧ x.start ≤ 64 ∧ 0 ≤ x.cap ∧ x.cap ≤ 64 := fun x hx => by
  obtain ⟨n, s, l, c, rfl, hn, hl, hc, h1, h64, h16⟩ := (h.2.2 x hx).nat
  exact ⟨by simp, by simp only []; omega, by simp, by simp only []; omega⟩
set_option maxRecDepth 100000 in
theorem specCut_calls (A : Option Addr) (c : Nat) (m : List (List Int)) (B : Option Addr) (k : Nat) (L : List Win) (i : Int) (w : World) (hr : Rd2 w w.heap.size A m) (hn : m.length ≤ maxLen) (hx : RdW w w.heap.size B L) (hl : L.length ≤ maxLen) :
    Calls Try.prog 90 #[.agg #[.slice A m.length c], .agg #[.slice B L.length k], .int .i64 i] w fun e w' => e = .returned (.bool (decide (CutOK m L i))) ∧ Below w.heap.size w w' := by
  obtain ⟨w0, hw0, hb0, hg0⟩ := enterMP A m.length c B L.length k w
  have HC := Lib.hid (specRope_calls A c m B k L w0 ((hr.below hb0).more hb0.size) hn ((hx.below hb0).more hb0.size) hl)
  have HX := Lib.hid hx
  have HB := Lib.hid hb0
  have HW := Lib.hid hw0
  have HG := Lib.hid hg0
  have c0 := one_cell hg0.m
  have c1 := one_cell hg0.p
  clear hr hx hb0 hw0 hg0
  go_enter Try.func90, Try.ntmps90
  go_wp2_with fail
  rw [HW.out]
  refine HC.out.mono ?_
  rintro e w2 ⟨rfl, hb2⟩
  have HB2 := Lib.hid hb2
  have c2 := one_cell (HG.out.below hb2).p
  clear hb2 c0 c1
  by_cases hw : Watched m L
  · rw [show decide (Watched m L) = true from decide_eq_true hw]
    have HLN := Lib.hid (specLength_calls B k L w2 ((HX.out.below (HB.out.trans (HB2.out.mono HB.out.size))).more (Nat.le_trans HB.out.size HB2.out.size)) hw.2.1 hw.len64)
    have HI := Lib.hid (fun W => specIn_calls i 0 (rpLen L) W)
    have HV : Hid (decide (CutOK m L i) = decide (0 ≤ i ∧ i ≤ rpLen L)) := Lib.hid (decide_eq_decide.2 ⟨fun h => h.2, fun h => ⟨hw, h⟩⟩)
    clear hw
    go_wp2_with fail
    refine HLN.out.mono ?_
    rintro e w3 ⟨rfl, hb3⟩
    have HB3 := Lib.hid (HB2.out.trans (hb3.mono HB2.out.size))
    clear hb3 c2
    go_wp2_with fail
    refine (HI.out _).mono ?_
    rintro e w4 ⟨rfl, rfl⟩
    go_wp2_with fail
    go_ret
    exact ⟨ret_bool (by rw [HV.out]; simp), HB.out.trans (HB3.out.mono HB.out.size)⟩
  · rw [show decide (Watched m L) = false from decide_eq_false hw]
    have HV : Hid (decide (CutOK m L i) = false) := Lib.hid (decide_eq_false fun h => hw h.1)
    clear hw
    go_wp2_with fail
    go_ret
    exact ⟨ret_bool (by rw [HV.out]), HB.out.trans (HB2.out.mono HB.out.size)⟩
set_option maxRecDepth 100000 in
theorem specRange_calls (A : Option Addr) (c : Nat) (m : List (List Int)) (B : Option Addr) (k : Nat) (L : List Win) (i j : Int) (w : World) (hr : Rd2 w w.heap.size A m) (hn : m.length ≤ maxLen) (hx : RdW w w.heap.size B L) (hl : L.length ≤ maxLen) :
    Calls Try.prog 96 #[.agg #[.slice A m.length c], .agg #[.slice B L.length k], .int .i64 i, .int .i64 j] w fun e w' => e = .returned (.bool (decide (RangeOK m L i j))) ∧ Below w.heap.size w w' := by
  obtain ⟨w0, hw0, hb0, hg0⟩ := enterMP A m.length c B L.length k w
  have HC := Lib.hid (specCut_calls A c m B k L j w0 ((hr.below hb0).more hb0.size) hn ((hx.below hb0).more hb0.size) hl)
  have HB := Lib.hid hb0
  have HW := Lib.hid hw0
  have c0 := one_cell hg0.m
  have c1 := one_cell hg0.p
  clear hr hx hb0 hw0 hg0
  go_enter Try.func96, Try.ntmps96
  go_wp2_with fail
  rw [HW.out]
  refine HC.out.mono ?_
  rintro e w2 ⟨rfl, hb2⟩
  have HB2 := Lib.hid hb2
  clear hb2 c0 c1
  by_cases hw : CutOK m L j
  · rw [show decide (CutOK m L j) = true from decide_eq_true hw]
    have HI := Lib.hid (fun W => specIn_calls i 0 j W)
    have HV : Hid (decide (RangeOK m L i j) = decide (0 ≤ i ∧ i ≤ j)) := Lib.hid (decide_eq_decide.2 ⟨fun h => h.2, fun h => ⟨hw, h⟩⟩)
    clear hw
    go_wp2_with fail
    refine (HI.out _).mono ?_
    rintro e w4 ⟨rfl, rfl⟩
    go_wp2_with fail
    go_ret
    exact ⟨ret_bool (by rw [HV.out]; simp), HB.out.trans (HB2.out.mono HB.out.size)⟩
  · rw [show decide (CutOK m L j) = false from decide_eq_false hw]
    have HV : Hid (decide (RangeOK m L i j) = false) := Lib.hid (decide_eq_false fun h => hw h.1)
    clear hw
    go_wp2_with fail
    go_ret
    exact ⟨ret_bool (by rw [HV.out]), HB.out.trans (HB2.out.mono HB.out.size)⟩
end Go.Proofs.Ytomebbapjolnlaa
