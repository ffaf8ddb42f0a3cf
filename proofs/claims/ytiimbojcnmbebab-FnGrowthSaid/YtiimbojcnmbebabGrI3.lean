/-
  Growth of the program: NextCap.
-/
import Derived.Test.YtiimbojcnmbebabGrI2
namespace Go.Proofs.Ytiimbojcnmbebab
open Go.RowKit

set_option maxHeartbeats 800000 in
theorem implNextCap_calls (g : GR) (len room n : Int) (w : World) (hga : GArg g) (hlen : (Lit.int .i64 len).wf = true) (hroom : (Lit.int .i64 room).wf = true) (hn : (Lit.int .i64 n).wf = true) :
    Calls Try.prog 25 #[.agg #[.int .i64 g.num, .int .i64 g.den, .int .i64 g.add], .int .i64 len, .int .i64 room, .int .i64 n] w fun e w' => e = .returned (.tuple #[.int .i64 (nextCapR g len room n).1, .bool (nextCapR g len room n).2]) ∧ Below w.heap.size w w' := by
  obtain ⟨l1, l2⟩ : -9223372036854775808 ≤ len ∧ len ≤ 9223372036854775807 := by simpa [Lit.wf, IntKind.min, IntKind.max, IntKind.signed, IntKind.bits] using hlen
  obtain ⟨r1, r2⟩ : -9223372036854775808 ≤ room ∧ room ≤ 9223372036854775807 := by simpa [Lit.wf, IntKind.min, IntKind.max, IntKind.signed, IntKind.bits] using hroom
  obtain ⟨w0, hw0, hb0, hg0⟩ := enterG g w
  obtain ⟨c0, c1, c2⟩ := three_cells hg0
  have HU := Lib.hid (implIsGrowRule_calls g w0 hga)
  have HW := Lib.hid hw0
  have HB := Lib.hid hb0
  have HA : Hid (∀ W, Below w0.heap.size w0 W → W.cell? ⟨w.heap.size, 0, none⟩ = some (.int .i64 g.num) ∧ W.cell? ⟨w.heap.size, 1, none⟩ = some (.int .i64 g.den) ∧ W.cell? ⟨w.heap.size, 2, none⟩ = some (.int .i64 g.add)) := Lib.hid fun W hb => three_cells ((hb.block _ (Array.getElem?_eq_some_iff.1 hg0).1).trans hg0)
  clear hw0 hb0 hg0 hlen hroom
  go_enter Try.func25, Try.ntmps25
  by_cases hg : g.OK
  · rw [decide_eq_true hg] at HU
    go_wp2_with fail
    rw [HW.out]
    refine HU.out.mono ?_
    rintro e w1 ⟨rfl, hb1⟩
    clear c0 c1 c2
    obtain ⟨c0, c1, c2⟩ := HA.out w1 hb1
    by_cases hl : 0 ≤ len
    · have k1 : IntKind.i64.wrap (1000000 - len) = 1000000 - len := IntWalk.i64_in _ (by omega)
      by_cases hr : 0 ≤ room
      · by_cases hlr : room ≤ 1000000 - len
        · have k2 : IntKind.i64.wrap (len + room) = len + room := IntWalk.i64_in _ (by omega)
          have HS := Lib.hid (fun W => implAppend_calls g hg ⟨0, 0, 0, len, len + room⟩ 0 ⟨hl, by simp only; omega, by simp only; omega, Int.le_refl _, Int.le_refl _, Int.le_refl _, by simp, Int.le_refl _, by simp⟩ (by omega) n hn W)
          have HV : Hid (nextCapR g len room n = ((stepR g 0 ⟨0, 0, 0, len, len + room⟩ n).1.cap, (stepR g 0 ⟨0, 0, 0, len, len + room⟩ n).2)) := Lib.hid (by
            have hge := nextG_ge g len (len + room) n
            unfold nextCapR stepR doG
            simp only [appG]
            by_cases hh : g.OK ∧ SzG len ∧ SzG room ∧ SzG n ∧ SzG (len + room) ∧ SzG (len + n) ∧ SzG (nextG g len (len + room) n)
            · rw [if_pos hh]
              obtain ⟨_, q1, q2, q3, q4, q5, q6⟩ := hh
              rw [if_pos q3.1, if_pos ⟨q3.2, q5.2, q6.2⟩]
            · rw [if_neg hh]
              by_cases h0 : 0 ≤ n
              · rw [if_pos h0, if_neg (fun h => hh ⟨hg, ⟨hl, by omega⟩, ⟨hr, by omega⟩, ⟨h0, h.1⟩, ⟨by omega, by omega⟩, ⟨by omega, h.2.1⟩, ⟨by omega, h.2.2⟩⟩)]
                rfl
              · rw [if_neg h0, if_pos (Or.inl trivial)]
                rfl)
          obtain ⟨r', hr'⟩ : ∃ r', (stepR g 0 ⟨0, 0, 0, len, len + room⟩ n).1 = r' := ⟨_, rfl⟩
          obtain ⟨p, hp⟩ : ∃ p, (stepR g 0 ⟨0, 0, 0, len, len + room⟩ n).2 = p := ⟨_, rfl⟩
          rw [hr', hp] at HS HV
          clear hr' hp hn
          go_wp2_with fail
          refine (HS.out _).mono ?_
          rintro e w2 ⟨rfl, hb2⟩
          go_wp2_with fail
          go_ret2
          exact ⟨by rw [HV.out]; rfl, by have hB := HB.out.trans ((hb1.trans (hb2.mono hb1.size)).mono HB.out.size); first | exact hB | ((repeat (first | (with_reducible exact Below.refl _ _) | (with_reducible refine Below.drew ?_) | ((with_reducible refine Below.alloc ?_ ?hB _); case hB => (first | (with_reducible exact Nat.le_refl _) | omega | (simp; done) | (simp; omega))) | ((with_reducible refine Below.setCell ?_ ?hB _); case hB => (first | (with_reducible exact Nat.le_refl _) | omega | (simp; done) | (simp; omega))))); exact hB) | exact hB.alloc hB.size _⟩
        · have hlr' : 1000000 - len < room := by omega
          have HV : Hid (nextCapR g len room n = (0, false)) := Lib.hid (by unfold nextCapR; exact if_neg (fun h => hlr (by have := h.2.2.2.2.1.2; omega)))
          go_wp2_with fail
          go_ret2
          exact ⟨by rw [HV.out]; rfl, HB.out.trans (hb1.mono HB.out.size)⟩
      · have hr' : room < 0 := by omega
        have HV : Hid (nextCapR g len room n = (0, false)) := Lib.hid (by unfold nextCapR; exact if_neg (fun h => hr h.2.2.1.1))
        go_wp2_with fail
        go_ret2
        exact ⟨by rw [HV.out]; rfl, HB.out.trans (hb1.mono HB.out.size)⟩
    · have hl' : len < 0 := by omega
      have HV : Hid (nextCapR g len room n = (0, false)) := Lib.hid (by unfold nextCapR; exact if_neg (fun h => hl h.2.1.1))
      go_wp2_with fail
      go_ret2
      exact ⟨by rw [HV.out]; rfl, HB.out.trans (hb1.mono HB.out.size)⟩
  · rw [decide_eq_false hg] at HU
    have HV : Hid (nextCapR g len room n = (0, false)) := Lib.hid (by unfold nextCapR; exact if_neg (fun h => hg h.1))
    go_wp2_with fail
    rw [HW.out]
    refine HU.out.mono ?_
    rintro e w1 ⟨rfl, hb1⟩
    go_wp2_with fail
    go_ret2
    exact ⟨by rw [HV.out]; rfl, HB.out.trans (hb1.mono HB.out.size)⟩
end Go.Proofs.Ytiimbojcnmbebab
