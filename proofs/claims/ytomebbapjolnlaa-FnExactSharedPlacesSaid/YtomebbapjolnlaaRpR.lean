/-
  SharedPlaces of impl.
-/
import Derived.Test.YtomebbapjolnlaaRpQ
import Derived.Deep.DeepCutAuto
namespace Go.Proofs.Ytomebbapjolnlaa
open Go.RowKit

set_option maxRecDepth 100000 in
set_option maxHeartbeats 3200000 in
theorem implSharedPlaces_calls (A : Option Addr) (c : Nat) (m : List (List Int)) (B : Option Addr) (k : Nat) (L : List Win) (B2 : Option Addr) (k2 : Nat) (Q : List Win) (w : World) (hr : Rd2 w w.heap.size A m) (hn : m.length ≤ maxLen) (hx : RdW w w.heap.size B L) (hl : L.length ≤ maxLen) (hx2 : RdW w w.heap.size B2 Q) (hl2 : Q.length ≤ maxLen) (hwa : ∀ x ∈ L, WArg x) (hwa2 : ∀ x ∈ Q, WArg x) :
    Calls Try.prog 57 #[.agg #[.slice A m.length c], .agg #[.slice B L.length k], .agg #[.slice B2 Q.length k2]] w fun e w' => e = .returned (.tuple #[.int .i64 (sharedR m L Q).1, .bool (sharedR m L Q).2]) ∧ Below w.heap.size w w' := by
  obtain ⟨w0, hw0, hb0, hg0⟩ := enterMPP A m.length c B L.length k B2 Q.length k2 w
  have HC := Lib.hid (implRope_calls A c m B k L w0 ((hr.below hb0).more hb0.size) hn ((hx.below hb0).more hb0.size) hl hwa)
  have HC2 := Lib.hid (fun W (hb : Below w0.heap.size w0 W) => implRope_calls A c m B2 k2 Q W ((hr.below (hb0.trans (hb.mono hb0.size))).more (Nat.le_trans hb0.size hb.size)) hn ((hx2.below (hb0.trans (hb.mono hb0.size))).more (Nat.le_trans hb0.size hb.size)) hl2 hwa2)
  have HR := Lib.hid hr
  have HX := Lib.hid hx
  have HX2 := Lib.hid hx2
  have HB := Lib.hid hb0
  have HW := Lib.hid hw0
  have HG := Lib.hid hg0
  have c0 := hg0.cm
  have c1 := hg0.cp
  have c2 := hg0.cq
  clear hr hx hx2 hb0 hw0 hg0 hwa hwa2
  go_enter Try.func57, Try.ntmps57
  go_wp2_with fail
  rw [HW.out]
  refine HC.out.mono ?_
  rintro e w2 ⟨rfl, hb2⟩
  have HB2 := Lib.hid hb2
  clear hb2 c0 c1 c2
  have c0 := (HG.out.below HB2.out).cm
  have c2 := (HG.out.below HB2.out).cq
  by_cases hw : Watched m L
  · rw [show decide (Watched m L) = true from decide_eq_true hw]
    go_wp2_with fail
    refine (HC2.out w2 HB2.out).mono ?_
    rintro e w3 ⟨rfl, hb3⟩
    have HB3 := Lib.hid (HB2.out.trans (hb3.mono HB2.out.size))
    clear hb3 c0 c2
    by_cases hw2 : Watched m Q
    · have HV : Hid (sharedR m L Q = (((allCnt m L Q m.length : Nat) : Int), true)) := Lib.hid (if_pos ⟨hw, hw2⟩)
      have HN1 := Lib.hid (fun W (hb : Below w0.heap.size w0 W) (ar pl : Nat) => anySeen_calls B k L ar pl W ((HX.out.below (HB.out.trans (hb.mono HB.out.size))).more (Nat.le_trans HB.out.size hb.size)) hw.tameR hw.2.1)
      have HN2 := Lib.hid (fun W (hb : Below w0.heap.size w0 W) (ar pl : Nat) => anySeen_calls B2 k2 Q ar pl W ((HX2.out.below (HB.out.trans (hb.mono HB.out.size))).more (Nat.le_trans HB.out.size hb.size)) hw2.tameR hw2.2.1)
      have HAL := Lib.hid (fun a ha => allCnt_le hw.1 L Q a ha)
      have HRL := Lib.hid (fun a ar => rowCnt_le L Q a ar)
      have HM := Lib.hid hw.1
      have h16 := hw.1.1
      have hmf : ∀ (fn : Fn) (first cap : Array Value) (w : World), (Instr.makeFunc fn first cap).run Try.prog w = .ok (.func fn first cap) w := fun _ _ _ _ => rfl
      rw [show decide (Watched m Q) = true from decide_eq_true hw2]
      have d0 := (HG.out.below HB3.out).cm
      clear hw hw2
      go_wp2_with fail
      go_loopw [8, 26] (fun v i wr => ∃ a : Nat, a ≤ m.length ∧ i = .int .i64 a ∧ v = .int .i64 (allCnt m L Q a : Nat) ∧ Below w0.heap.size w0 wr) (fun _ i _ => m.length - (intOf i).toNat)
      case atStart => exact ⟨0, Nat.zero_le _, rfl, rfl, HB3.out⟩
      case round =>
        obtain ⟨a, ha, rfl, rfl, hbr⟩ := hrel
        have HBR := Lib.hid hbr
        by_cases hlt : a < m.length
        · obtain ⟨b, off, Ai, ci, rfl, hbb, hc, hci, hcm, hri⟩ := (HR.out.below (HB.out.trans (hbr.mono HB.out.size))).at_ hlt
          have h64 := (HM.out.2 m[a] (List.getElem_mem hlt)).2
          have hall := HAL.out a ha
          have HSTEP := Lib.hid (show allCnt m L Q (a + 1) = allCnt m L Q a + rowCnt L Q a m[a].length by rw [allCnt, getD_eq hlt])
          obtain ⟨S, hS⟩ : ∃ S, allCnt m L Q a = S := ⟨_, rfl⟩
          rw [hS] at HSTEP hall ⊢
          obtain ⟨N, hN⟩ : ∃ N, m[a].length = N := ⟨_, rfl⟩
          have HNN := Lib.hid hN
          rw [hN] at h64 HSTEP hc hci
          clear hS hN hri hbr d0
          go_wp2_with fail
          clear hc
          go_loopw [8, 33] (fun v i wr => ∃ p : Nat, p ≤ N ∧ i = .int .i64 p ∧ v = .int .i64 (S + rowCnt L Q a p : Nat) ∧ Below w0.heap.size w0 wr) (fun _ i _ => N - (intOf i).toNat)
          case atStart => exact ⟨0, Nat.zero_le _, rfl, rfl, HBR.out⟩
          case round =>
            obtain ⟨p, hp, rfl, rfl, hbq⟩ := hrel
            have HBQ := Lib.hid hbq
            have hcnt := HRL.out a p
            by_cases hlp : p < N
            · obtain ⟨w4, hw4⟩ : ∃ w4, wr.alloc (.cells #[.int .i64 a, .int .i64 p] 117) = w4 := ⟨_, rfl⟩
              have hb4 : Below wr.heap.size wr w4 := by rw [← hw4]; exact (Below.refl _ _).alloc (Nat.le_refl _) _
              have hp4 : w4.heap[wr.heap.size]? = some (.cells #[.int .i64 a, .int .i64 p] 117) := by rw [← hw4]; exact heap_alloc_new _ _
              have hc4 := hbq.trans (hb4.mono hbq.size)
              have HC4 := Lib.hid hc4
              have HP4 := Lib.hid hp4
              have HW4 := Lib.hid hw4
              have HC1 := Lib.hid (HN1.out w4 hc4 a p)
              obtain ⟨q0, q1⟩ := two_cells hp4
              have d1 := (HG.out.below hc4).cp
              have hst : rowCnt L Q a (p + 1) = rowCnt L Q a p + if bothB L Q a p then 1 else 0 := rfl
              obtain ⟨b1, hb1⟩ : ∃ b1, anyB L a p = b1 := ⟨_, rfl⟩
              obtain ⟨b2, hb2⟩ : ∃ b2, anyB Q a p = b2 := ⟨_, rfl⟩
              rw [bothB, hb1, hb2] at hst
              rw [hb1] at HC1
              have HST := Lib.hid hst
              have HBB2 := Lib.hid hb2
              clear hst hb1 hb2 hbq hb4 hp4 hc4 hw4
              go_upto_region 11 with fail
              rw [HW4.out]
              go_wp2_with fail
              refine HC1.out.mono ?_
              rintro e w5 ⟨rfl, hb5⟩
              have HB5 := Lib.hid (HC4.out.trans (hb5.mono HC4.out.size))
              have HC2' := Lib.hid (HN2.out w5 HB5.out a p)
              rw [HBB2.out] at HC2'
              have e2 := (HG.out.below HB5.out).cq
              clear q0 q1 d1
              obtain ⟨q0, q1⟩ := two_cells ((hb5.block _ (Array.getElem?_eq_some_iff.1 HP4.out).1).trans HP4.out)
              clear hb5
              cases b1
              · have HST2 := Lib.hid (show rowCnt L Q a (p + 1) = rowCnt L Q a p by rw [HST.out]; rfl)
                go_wp2_with fail
                go_roundw
                case rel => exact ⟨p + 1, by omega, by go_num, by rw [HST2.out]; go_num, HB5.out⟩
                case measure => simp [intOf]; omega
              · go_wp2_with fail
                refine HC2'.out.mono ?_
                rintro e w6 ⟨rfl, hb6⟩
                have HB6 := Lib.hid (HB5.out.trans (hb6.mono HB5.out.size))
                clear hb6 e2 q0 q1
                cases b2
                · have HST2 := Lib.hid (show rowCnt L Q a (p + 1) = rowCnt L Q a p by rw [HST.out]; rfl)
                  go_wp2_with fail
                  go_roundw
                  case rel => exact ⟨p + 1, by omega, by go_num, by rw [HST2.out]; go_num, HB6.out⟩
                  case measure => simp [intOf]; omega
                · have HST2 := Lib.hid (show rowCnt L Q a (p + 1) = rowCnt L Q a p + 1 by rw [HST.out]; rfl)
                  go_wp2_with fail
                  go_roundw
                  case rel => exact ⟨p + 1, by omega, by go_num, by rw [HST2.out]; go_num, HB6.out⟩
                  case measure => simp [intOf]; omega
            · obtain rfl : p = N := by omega
              clear hbq
              go_wp2_with fail
              go_roundw
              case rel => exact ⟨a + 1, by omega, by go_num, by rw [HSTEP.out], HBQ.out⟩
              case measure => simp [intOf]; omega
        · obtain rfl : a = m.length := by omega
          clear hbr
          go_wp2_with fail
          go_ret2
          exact ⟨by rw [HV.out]; rfl, HB.out.trans (HBR.out.mono HB.out.size)⟩
    · have HV : Hid (sharedR m L Q = (0, false)) := Lib.hid (if_neg fun h => hw2 h.2)
      rw [show decide (Watched m Q) = false from decide_eq_false hw2]
      clear hw hw2
      go_wp2_with fail
      go_ret2
      exact ⟨by rw [HV.out]; rfl, HB.out.trans (HB3.out.mono HB.out.size)⟩
  · have HV : Hid (sharedR m L Q = (0, false)) := Lib.hid (if_neg fun h => hw h.1)
    rw [show decide (Watched m L) = false from decide_eq_false hw]
    clear hw
    go_wp2_with fail
    go_ret2
    exact ⟨by rw [HV.out]; rfl, HB.out.trans (HB2.out.mono HB.out.size)⟩
end Go.Proofs.Ytomebbapjolnlaa
