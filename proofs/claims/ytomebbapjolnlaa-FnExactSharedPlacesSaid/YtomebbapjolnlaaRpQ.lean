/-
  SharedPlaces of spec and impl.
-/
import Derived.Test.YtomebbapjolnlaaRpK
import Derived.Test.YtomebbapjolnlaaRpP
namespace Go.Proofs.Ytomebbapjolnlaa
open Go.RowKit

/-- Whether both lists see the place pl of the array ar. -/
def bothB (L Q : List Win) (ar pl : Nat) : Bool := anyB L ar pl && anyB Q ar pl
/-- Places of the array ar that both see, of the first n ones. -/
def rowCnt (L Q : List Win) (ar : Nat) : Nat → Nat
  | 0 => 0
  | n + 1 => rowCnt L Q ar n + if bothB L Q ar n then 1 else 0
/-- Places that both see, of the first a arrays. -/
def allCnt (m : List (List Int)) (L Q : List Win) : Nat → Nat
  | 0 => 0
  | a + 1 => allCnt m L Q a + rowCnt L Q a (m.getD a []).length
theorem rowCnt_le (L Q : List Win) (ar n : Nat) : rowCnt L Q ar n ≤ n := by
  induction n with
  | zero => exact Nat.le_refl _
  | succ n ih => rw [rowCnt]; split <;> omega
theorem allCnt_le {m : List (List Int)} (h : MemOK m) (L Q : List Win) (a : Nat) (ha : a ≤ m.length) : allCnt m L Q a ≤ 64 * a := by
  induction a with
  | zero => exact Nat.le_refl _
  | succ a ih =>
    have h1 := ih (by omega)
    have h2 := rowCnt_le L Q a (m.getD a []).length
    have h3 := (h.2 m[a] (List.getElem_mem (by omega))).2
    rw [allCnt]
    rw [getD_eq (by omega)] at h2 ⊢
    omega
/-- What SharedPlaces answers. -/
def sharedR (m : List (List Int)) (L Q : List Win) : Int × Bool := if Watched m L ∧ Watched m Q then (((allCnt m L Q m.length : Nat) : Int), true) else (0, false)
theorem Watched.tameR {m : List (List Int)} {L : List Win} (h : Watched m L) : ∀ x ∈ L, Tame x := fun x hx => (h.2.2 x hx).tame

set_option maxRecDepth 100000 in
set_option maxHeartbeats 3200000 in
theorem specSharedPlaces_calls (A : Option Addr) (c : Nat) (m : List (List Int)) (B : Option Addr) (k : Nat) (L : List Win) (B2 : Option Addr) (k2 : Nat) (Q : List Win) (w : World) (hr : Rd2 w w.heap.size A m) (hn : m.length ≤ maxLen) (hx : RdW w w.heap.size B L) (hl : L.length ≤ maxLen) (hx2 : RdW w w.heap.size B2 Q) (hl2 : Q.length ≤ maxLen) :
    Calls Try.prog 56 #[.agg #[.slice A m.length c], .agg #[.slice B L.length k], .agg #[.slice B2 Q.length k2]] w fun e w' => e = .returned (.tuple #[.int .i64 (sharedR m L Q).1, .bool (sharedR m L Q).2]) ∧ Below w.heap.size w w' := by
  obtain ⟨w0, hw0, hb0, hg0⟩ := enterMPP A m.length c B L.length k B2 Q.length k2 w
  have HC := Lib.hid (specRope_calls A c m B k L w0 ((hr.below hb0).more hb0.size) hn ((hx.below hb0).more hb0.size) hl)
  have HC2 := Lib.hid (fun W (hb : Below w0.heap.size w0 W) => specRope_calls A c m B2 k2 Q W ((hr.below (hb0.trans (hb.mono hb0.size))).more (Nat.le_trans hb0.size hb.size)) hn ((hx2.below (hb0.trans (hb.mono hb0.size))).more (Nat.le_trans hb0.size hb.size)) hl2)
  have HR := Lib.hid hr
  have HX := Lib.hid hx
  have HX2 := Lib.hid hx2
  have HB := Lib.hid hb0
  have HW := Lib.hid hw0
  have HG := Lib.hid hg0
  have c0 := hg0.cm
  have c1 := hg0.cp
  have c2 := hg0.cq
  clear hr hx hx2 hb0 hw0 hg0
  go_enter Try.func56, Try.ntmps56
  go_wp2_with fail
  rw [HW.out]
  refine HC.out.mono ?_
  rintro e w2 ⟨rfl, hb2⟩
  have HB2 := Lib.hid hb2
  clear hb2 c0 c1 c2
  have c0 := (HG.out.below HB2.out).cm
  have c2 := (HG.out.below HB2.out).cq
  by_cases hw : Watched m L
  · rw [show decide (Watched m L) = true from decide_eq_true hw]
    go_wp2_with fail
    refine (HC2.out w2 HB2.out).mono ?_
    rintro e w3 ⟨rfl, hb3⟩
    have HB3 := Lib.hid (HB2.out.trans (hb3.mono HB2.out.size))
    clear hb3 c0 c2
    by_cases hw2 : Watched m Q
    · have HV : Hid (sharedR m L Q = (((allCnt m L Q m.length : Nat) : Int), true)) := Lib.hid (if_pos ⟨hw, hw2⟩)
      have HN1 := Lib.hid (fun W (hb : Below w0.heap.size w0 W) (ar pl : Nat) => specNoticed_calls B k L ar pl W ((HX.out.below (HB.out.trans (hb.mono HB.out.size))).more (Nat.le_trans HB.out.size hb.size)) hw.tameR hw.2.1)
      have HN2 := Lib.hid (fun W (hb : Below w0.heap.size w0 W) (ar pl : Nat) => specNoticed_calls B2 k2 Q ar pl W ((HX2.out.below (HB.out.trans (hb.mono HB.out.size))).more (Nat.le_trans HB.out.size hb.size)) hw2.tameR hw2.2.1)
      have HAL := Lib.hid (fun a ha => allCnt_le hw.1 L Q a ha)
      have HRL := Lib.hid (fun a ar => rowCnt_le L Q a ar)
      have HM := Lib.hid hw.1
      have h16 := hw.1.1
      have h12 := hw.2.1
      have hq12 := hw2.2.1
      rw [show decide (Watched m Q) = true from decide_eq_true hw2]
      clear hw hw2
      go_wp2_with fail
      go_loopw [8, 9] (fun v i wr => ∃ a : Nat, a ≤ m.length ∧ i = .int .i64 a ∧ v = .int .i64 (allCnt m L Q a : Nat) ∧ Below w0.heap.size w0 wr) (fun _ i _ => m.length - (intOf i).toNat)
      case atStart => exact ⟨0, Nat.zero_le _, rfl, rfl, HB3.out⟩
      case round =>
        obtain ⟨a, ha, rfl, rfl, hbr⟩ := hrel
        have HBR := Lib.hid hbr
        have d0 := (HG.out.below hbr).cm
        clear hbr
        by_cases hlt : a < m.length
        · have h64 := (HM.out.2 m[a] (List.getElem_mem hlt)).2
          have hall := HAL.out a ha
          have HSTEP := Lib.hid (show allCnt m L Q (a + 1) = allCnt m L Q a + rowCnt L Q a m[a].length by rw [allCnt, getD_eq hlt])
          obtain ⟨S, hS⟩ : ∃ S, allCnt m L Q a = S := ⟨_, rfl⟩
          rw [hS] at HSTEP hall ⊢
          obtain ⟨N, hN⟩ : ∃ N, m[a].length = N := ⟨_, rfl⟩
          have HNN := Lib.hid hN
          rw [hN] at h64 HSTEP
          clear hS hN
          go_wp2_with fail
          clear d0
          go_loopw [8, 10] (fun v i wr => ∃ p : Nat, p ≤ N ∧ i = .int .i64 p ∧ v = .int .i64 (S + rowCnt L Q a p : Nat) ∧ Below w0.heap.size w0 wr) (fun _ i _ => N - (intOf i).toNat)
          case atStart => exact ⟨0, Nat.zero_le _, rfl, rfl, HBR.out⟩
          case round =>
            obtain ⟨p, hp, rfl, rfl, hbq⟩ := hrel
            have HBQ := Lib.hid hbq
            have d0 := (HG.out.below hbq).cm
            have d1 := (HG.out.below hbq).cp
            obtain ⟨b, off, Ai, ci, rfl, hbb, hc, hci, hcm, hri⟩ := (HR.out.below (HB.out.trans (hbq.mono HB.out.size))).at_ hlt
            rw [HNN.out] at hc hci
            have hcnt := HRL.out a p
            clear hbq hri
            by_cases hlp : p < N
            · have HC1 := Lib.hid (HN1.out wr HBQ.out a p)
              have hst : rowCnt L Q a (p + 1) = rowCnt L Q a p + if bothB L Q a p then 1 else 0 := rfl
              obtain ⟨b1, hb1⟩ : ∃ b1, anyB L a p = b1 := ⟨_, rfl⟩
              obtain ⟨b2, hb2⟩ : ∃ b2, anyB Q a p = b2 := ⟨_, rfl⟩
              rw [bothB, hb1, hb2] at hst
              have HST := Lib.hid hst
              have HN1L : Hid (decide (0 < (idxsTo (seesB L a p) L.length).length) = b1) := Lib.hid hb1
              have HN2L : Hid (decide (0 < (idxsTo (seesB Q a p) Q.length).length) = b2) := Lib.hid hb2
              have hl1 : (idxsTo (seesB L a p) L.length).length ≤ 12 := Nat.le_trans (idxsTo_len _ _) h12
              have hl2 : (idxsTo (seesB Q a p) Q.length).length ≤ 12 := Nat.le_trans (idxsTo_len _ _) hq12
              generalize (idxsTo (seesB L a p) L.length) = I1 at *
              generalize hI2 : (idxsTo (seesB Q a p) Q.length) = I2 at *
              have HI2 := Lib.hid hI2
              clear hst hb1 hb2 hI2
              go_wp2_with fail
              refine HC1.out.mono ?_
              rintro e w5 ⟨g5, k5, rfl, ho5, hb5⟩
              have HB5 := Lib.hid (HBQ.out.trans (hb5.mono HBQ.out.size))
              have HC2' := Lib.hid (HN2.out w5 HB5.out a p)
              rw [HI2.out] at HC2'
              have e2 := (HG.out.below HB5.out).cq
              clear hb5 ho5 hc d0 d1
              by_cases hz1 : 0 < I1.length
              · have hb1 : b1 = true := by rw [← HN1L.out]; exact decide_eq_true hz1
                go_wp2_with fail
                refine HC2'.out.mono ?_
                rintro e w6 ⟨g6, k6, rfl, ho6, hb6⟩
                have HB6 := Lib.hid (HB5.out.trans (hb6.mono HB5.out.size))
                clear hb6 ho6 e2
                by_cases hz2 : 0 < I2.length
                · have hb2 : b2 = true := by rw [← HN2L.out]; exact decide_eq_true hz2
                  have HST2 := Lib.hid (show rowCnt L Q a (p + 1) = rowCnt L Q a p + 1 by rw [HST.out, hb1, hb2]; rfl)
                  clear hb1 hb2
                  go_wp2_with fail
                  go_roundw
                  case rel => exact ⟨p + 1, by omega, by go_num, by rw [HST2.out]; go_num, HB6.out⟩
                  case measure => simp [intOf]; omega
                · have hb2 : b2 = false := by rw [← HN2L.out]; exact decide_eq_false hz2
                  have HST2 := Lib.hid (show rowCnt L Q a (p + 1) = rowCnt L Q a p by rw [HST.out, hb1, hb2]; rfl)
                  clear hb1 hb2
                  go_wp2_with fail
                  go_roundw
                  case rel => exact ⟨p + 1, by omega, by go_num, by rw [HST2.out]; go_num, HB6.out⟩
                  case measure => simp [intOf]; omega
              · have hb1 : b1 = false := by rw [← HN1L.out]; exact decide_eq_false hz1
                have HST2 := Lib.hid (show rowCnt L Q a (p + 1) = rowCnt L Q a p by rw [HST.out, hb1]; rfl)
                clear hb1
                go_wp2_with fail
                go_roundw
                case rel => exact ⟨p + 1, by omega, by go_num, by rw [HST2.out]; go_num, HB5.out⟩
                case measure => simp [intOf]; omega
            · obtain rfl : p = N := by omega
              go_wp2_with fail
              go_roundw
              case rel => exact ⟨a + 1, by omega, by go_num, by rw [HSTEP.out], HBQ.out⟩
              case measure => simp [intOf]; omega
        · obtain rfl : a = m.length := by omega
          go_wp2_with fail
          go_ret2
          exact ⟨by rw [HV.out]; rfl, HB.out.trans (HBR.out.mono HB.out.size)⟩
    · have HV : Hid (sharedR m L Q = (0, false)) := Lib.hid (if_neg fun h => hw2 h.2)
      rw [show decide (Watched m Q) = false from decide_eq_false hw2]
      clear hw hw2
      go_wp2_with fail
      go_ret2
      exact ⟨by rw [HV.out]; rfl, HB.out.trans (HB3.out.mono HB.out.size)⟩
  · have HV : Hid (sharedR m L Q = (0, false)) := Lib.hid (if_neg fun h => hw h.1)
    rw [show decide (Watched m L) = false from decide_eq_false hw]
    clear hw
    go_wp2_with fail
    go_ret2
    exact ⟨by rw [HV.out]; rfl, HB.out.trans (HB2.out.mono HB.out.size)⟩
end Go.Proofs.Ytomebbapjolnlaa
