/-
  Growth of spec: IsGrowRule, NextCap, GrowsFast, SingleCost, SingleMoves.
-/
import Derived.Test.YtiimbojcnmbebabGrL
namespace Go.Proofs.Ytiimbojcnmbebab
open Go.RowKit

theorem enterG (g : GR) (w : World) : ∃ w0, w.alloc (.cells #[.int .i64 g.num, .int .i64 g.den, .int .i64 g.add] 25) = w0 ∧ Below w.heap.size w w0 ∧ w0.heap[w.heap.size]? = some (.cells #[.int .i64 g.num, .int .i64 g.den, .int .i64 g.add] 25) :=
  ⟨_, rfl, (Below.refl _ _).alloc (Nat.le_refl _) _, heap_alloc_new _ _⟩
/-- What GrowsFast answers. -/
def fastR (g : GR) : Bool × Bool := (decide (g.OK ∧ g.den < g.num), decide g.OK)
theorem specGrowsFast_calls (g : GR) (w : World) :
    Calls Try.prog 22 #[.agg #[.int .i64 g.num, .int .i64 g.den, .int .i64 g.add]] w fun e w' => e = .returned (.tuple #[.bool (fastR g).1, .bool (fastR g).2]) ∧ Below w.heap.size w w' := by
  obtain ⟨w0, hw0, hb0, hg0⟩ := enterG g w
  obtain ⟨c0, c1, c2⟩ := three_cells hg0
  have HU := Lib.hid (specRule_calls g w0)
  have HW := Lib.hid hw0
  have HB := Lib.hid hb0
  have HA : Hid (∀ W, Below w0.heap.size w0 W → W.cell? ⟨w.heap.size, 0, none⟩ = some (.int .i64 g.num) ∧ W.cell? ⟨w.heap.size, 1, none⟩ = some (.int .i64 g.den) ∧ W.cell? ⟨w.heap.size, 2, none⟩ = some (.int .i64 g.add)) := Lib.hid fun W hb => three_cells ((hb.block _ (Array.getElem?_eq_some_iff.1 hg0).1).trans hg0)
  clear hw0 hb0 hg0
  by_cases hg : g.OK
  · rw [decide_eq_true hg] at HU
    have HF : Hid (fastR g = (decide (g.den < g.num), true)) := Lib.hid (by unfold fastR; simp [hg])
    obtain ⟨p, hp⟩ : ∃ p, decide (g.den < g.num) = p := ⟨_, rfl⟩
    rw [hp] at HF
    clear hg
    go_enter Try.func22, Try.ntmps22
    go_wp2_with fail
    rw [HW.out]
    refine HU.out.mono ?_
    rintro e w1 ⟨rfl, hb1⟩
    clear c0 c1 c2
    obtain ⟨c0, c1, c2⟩ := HA.out w1 hb1
    go_wp2_with fail
    go_ret2
    exact ⟨by rw [HF.out]; rfl, HB.out.trans (hb1.mono HB.out.size)⟩
  · rw [decide_eq_false hg] at HU
    have HF : Hid (fastR g = (false, false)) := Lib.hid (by unfold fastR; simp [hg])
    clear hg
    go_enter Try.func22, Try.ntmps22
    go_wp2_with fail
    rw [HW.out]
    refine HU.out.mono ?_
    rintro e w1 ⟨rfl, hb1⟩
    go_wp2_with fail
    go_ret2
    exact ⟨by rw [HF.out]; rfl, HB.out.trans (hb1.mono HB.out.size)⟩
set_option maxHeartbeats 800000 in
theorem specNextCap_calls (g : GR) (len room n : Int) (w : World) :
    Calls Try.prog 26 #[.agg #[.int .i64 g.num, .int .i64 g.den, .int .i64 g.add], .int .i64 len, .int .i64 room, .int .i64 n] w fun e w' => e = .returned (.tuple #[.int .i64 (nextCapR g len room n).1, .bool (nextCapR g len room n).2]) ∧ Below w.heap.size w w' := by
  obtain ⟨w0, hw0, hb0, hg0⟩ := enterG g w
  obtain ⟨c0, c1, c2⟩ := three_cells hg0
  have HU := Lib.hid (specRule_calls g w0)
  have HW := Lib.hid hw0
  have HB := Lib.hid hb0
  have HA : Hid (∀ W, Below w0.heap.size w0 W → W.cell? ⟨w.heap.size, 0, none⟩ = some (.int .i64 g.num) ∧ W.cell? ⟨w.heap.size, 1, none⟩ = some (.int .i64 g.den) ∧ W.cell? ⟨w.heap.size, 2, none⟩ = some (.int .i64 g.add)) := Lib.hid fun W hb => three_cells ((hb.block _ (Array.getElem?_eq_some_iff.1 hg0).1).trans hg0)
  clear hw0 hb0 hg0
  go_enter Try.func26, Try.ntmps26
  by_cases hg : g.OK
  · rw [decide_eq_true hg] at HU
    go_wp2_with fail
    rw [HW.out]
    refine HU.out.mono ?_
    rintro e w1 ⟨rfl, hb1⟩
    clear c0 c1 c2
    obtain ⟨c0, c1, c2⟩ := HA.out w1 hb1
    have HX0 := Lib.hid (fun W => specSize_calls (len) W)

    by_cases hl : SzG len
    · rw [decide_eq_true hl] at HX0
      go_wp2_with fail
      refine (HX0.out _).mono ?_
      rintro e wz ⟨rfl, rfl⟩
      have HX1 := Lib.hid (fun W => specSize_calls (room) W)

      by_cases hr : SzG room
      · rw [decide_eq_true hr] at HX1
        go_wp2_with fail
        refine (HX1.out _).mono ?_
        rintro e wz ⟨rfl, rfl⟩
        have HX2 := Lib.hid (fun W => specSize_calls (n) W)

        by_cases hn : SzG n
        · rw [decide_eq_true hn] at HX2
          go_wp2_with fail
          refine (HX2.out _).mono ?_
          rintro e wz ⟨rfl, rfl⟩
          have HX3 := Lib.hid (fun W => specSize_calls (len + room) W)
          have b0_3 := hl.1; have d0_3 := hl.2
          have b1_3 := hr.1; have d1_3 := hr.2
          have b2_3 := hn.1; have d2_3 := hn.2
          by_cases hlr : SzG (len + room)
          · rw [decide_eq_true hlr] at HX3
            go_wp2_with fail
            refine (HX3.out _).mono ?_
            rintro e wz ⟨rfl, rfl⟩
            have HX4 := Lib.hid (fun W => specSize_calls (len + n) W)
            have b0_4 := hl.1; have d0_4 := hl.2
            have b1_4 := hr.1; have d1_4 := hr.2
            have b2_4 := hn.1; have d2_4 := hn.2
            by_cases hln : SzG (len + n)
            · rw [decide_eq_true hln] at HX4
              go_wp2_with fail
              refine (HX4.out _).mono ?_
              rintro e wz ⟨rfl, rfl⟩
              have HN := Lib.hid (specNext_calls g hg len (len + room) n (by have := hlr.1; omega) hlr.2 hl.1 hn.1 hln.2 w1)
              by_cases hx : SzG (nextG g len (len + room) n)
              · have HV : Hid (nextCapR g len room n = (nextG g len (len + room) n, true)) := Lib.hid (by unfold nextCapR; rw [if_pos ⟨hg, hl, hr, hn, hlr, hln, hx⟩])
                obtain ⟨nx, hnx⟩ : ∃ nx, nextG g len (len + room) n = nx := ⟨_, rfl⟩
                rw [hnx] at HN HV hx
                have HX := Lib.hid (fun W => specSize_calls nx W)
                rw [decide_eq_true hx] at HX
                clear hnx hx
                go_wp2_with fail
                refine HN.out.mono ?_
                rintro e w2 ⟨rfl, hb2⟩
                go_wp2_with fail
                refine (HX.out _).mono ?_
                rintro e w3 ⟨rfl, rfl⟩
                go_wp2_with fail
                go_ret2
                exact ⟨by rw [HV.out]; rfl, HB.out.trans ((hb1.trans (hb2.mono hb1.size)).mono HB.out.size)⟩
              · have HV : Hid (nextCapR g len room n = (0, false)) := Lib.hid (by unfold nextCapR; exact if_neg (fun h => hx h.2.2.2.2.2.2))
                obtain ⟨nx, hnx⟩ : ∃ nx, nextG g len (len + room) n = nx := ⟨_, rfl⟩
                rw [hnx] at HN hx
                have HX := Lib.hid (fun W => specSize_calls nx W)
                rw [decide_eq_false hx] at HX
                clear hnx hx
                go_wp2_with fail
                refine HN.out.mono ?_
                rintro e w2 ⟨rfl, hb2⟩
                go_wp2_with fail
                refine (HX.out _).mono ?_
                rintro e w3 ⟨rfl, rfl⟩
                go_wp2_with fail
                go_ret2
                exact ⟨by rw [HV.out]; rfl, HB.out.trans ((hb1.trans (hb2.mono hb1.size)).mono HB.out.size)⟩
            · rw [decide_eq_false hln] at HX4
              have HV : Hid (nextCapR g len room n = (0, false)) := Lib.hid (by unfold nextCapR; exact if_neg (fun h => hln h.2.2.2.2.2.1))
              go_wp2_with fail
              refine (HX4.out _).mono ?_
              rintro e wz ⟨rfl, rfl⟩
              go_wp2_with fail
              go_ret2
              exact ⟨by rw [HV.out]; rfl, by first | exact HB.out.trans (hb1.mono HB.out.size) | exact HB.out⟩
          · rw [decide_eq_false hlr] at HX3
            have HV : Hid (nextCapR g len room n = (0, false)) := Lib.hid (by unfold nextCapR; exact if_neg (fun h => hlr h.2.2.2.2.1))
            go_wp2_with fail
            refine (HX3.out _).mono ?_
            rintro e wz ⟨rfl, rfl⟩
            go_wp2_with fail
            go_ret2
            exact ⟨by rw [HV.out]; rfl, by first | exact HB.out.trans (hb1.mono HB.out.size) | exact HB.out⟩
        · rw [decide_eq_false hn] at HX2
          have HV : Hid (nextCapR g len room n = (0, false)) := Lib.hid (by unfold nextCapR; exact if_neg (fun h => hn h.2.2.2.1))
          go_wp2_with fail
          refine (HX2.out _).mono ?_
          rintro e wz ⟨rfl, rfl⟩
          go_wp2_with fail
          go_ret2
          exact ⟨by rw [HV.out]; rfl, by first | exact HB.out.trans (hb1.mono HB.out.size) | exact HB.out⟩
      · rw [decide_eq_false hr] at HX1
        have HV : Hid (nextCapR g len room n = (0, false)) := Lib.hid (by unfold nextCapR; exact if_neg (fun h => hr h.2.2.1))
        go_wp2_with fail
        refine (HX1.out _).mono ?_
        rintro e wz ⟨rfl, rfl⟩
        go_wp2_with fail
        go_ret2
        exact ⟨by rw [HV.out]; rfl, by first | exact HB.out.trans (hb1.mono HB.out.size) | exact HB.out⟩
    · rw [decide_eq_false hl] at HX0
      have HV : Hid (nextCapR g len room n = (0, false)) := Lib.hid (by unfold nextCapR; exact if_neg (fun h => hl h.2.1))
      go_wp2_with fail
      refine (HX0.out _).mono ?_
      rintro e wz ⟨rfl, rfl⟩
      go_wp2_with fail
      go_ret2
      exact ⟨by rw [HV.out]; rfl, by first | exact HB.out.trans (hb1.mono HB.out.size) | exact HB.out⟩
  · rw [decide_eq_false hg] at HU
    have HV : Hid (nextCapR g len room n = (0, false)) := Lib.hid (by unfold nextCapR; exact if_neg (fun h => hg h.1))
    go_wp2_with fail
    rw [HW.out]
    refine HU.out.mono ?_
    rintro e w1 ⟨rfl, hb1⟩
    go_wp2_with fail
    go_ret2
    exact ⟨by rw [HV.out]; rfl, by first | exact HB.out.trans (hb1.mono HB.out.size) | exact HB.out⟩
end Go.Proofs.Ytiimbojcnmbebab
