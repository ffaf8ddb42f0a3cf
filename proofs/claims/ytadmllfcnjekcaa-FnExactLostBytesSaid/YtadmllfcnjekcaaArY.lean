/-
  LostBytes of spec and impl.
-/
import Derived.Test.YtadmllfcnjekcaaArX
namespace Go.Proofs.Ytadmllfcnjekcaa
open Go.RowKit

theorem sumA_nil : sumA [] = 0 := rfl
theorem sumA_take (qs : List Ak) {i : Nat} (h : i < qs.length) : sumA (qs.take (i + 1)) = sumA (qs.take i) + qs[i].size := by
  rw [List.take_succ_eq_append_getElem h, sumA, List.foldl_append]
  rfl
theorem giveOK_list {m : List (List Int)} {a : An} {qs : List Ak} : GiveOK m a qs ↔ ListOK m a qs ∧ OkAt a.w.len a.us qs qs.length :=
  ⟨fun h => ⟨⟨fun i hi => (h.2.2 i hi).1, h.1, h.2.1⟩, h.2.2⟩, fun h => ⟨h.1.2.1, h.1.2.2, h.2⟩⟩
/-- Sums of what is given are small. -/
theorem sumA_range {l u : Int} {qs : List Ak} {n : Nat} (h : OkAt l u qs n) (hn : n ≤ qs.length) (h0 : 0 ≤ u) (h1 : u ≤ l) (hl : l ≤ 64) : 0 ≤ sumA (qs.take n) ∧ sumA (qs.take n) ≤ 64 * n := by
  induction n with
  | zero => rw [List.take_zero, sumA_nil]; omega
  | succ k ih =>
    have h2 := ih (fun i hi => h i (by omega)) (by omega)
    have h3 := (show OkAt l u qs k from fun i hi => h i (by omega)).used (by omega) h0 h1
    obtain ⟨⟨a1, a2, a3⟩, f1, f2⟩ := h.at_ (i := k) (by omega) (by omega)
    have h4 := upTo_range h3.1 a2
    rw [sumA_take qs (by omega)]
    omega

set_option maxRecDepth 100000 in
set_option maxHeartbeats 3200000 in
theorem specLostBytes_calls (A B : Option Addr) (cm d : Nat) (m : List (List Int)) (g : An) (Z : Option Addr) (kz : Nat) (qs : List Ak) (w : World) (hr : RdA w w.heap.size A B m g.ms) (hn : m.length ≤ maxLen) (hkl : g.ms.length ≤ maxLen) (hy : RdK w w.heap.size Z qs) (hll : qs.length ≤ maxLen) :
    Calls Try.prog 53 #[.agg #[.slice A m.length cm, .int .i64 g.w.arr, .int .i64 g.w.start, .int .i64 g.w.len, .int .i64 g.w.cap, .int .i64 g.us, .slice B g.ms.length d], .slice Z qs.length kz] w fun e w' => e = .returned (.tuple #[.int .i64 (lostR m g qs).1, .bool (lostR m g qs).2]) ∧ Below w.heap.size w w' := by
  obtain ⟨w0, hw0, hb0, hz0, hg0⟩ := enterA A B m.length cm g.ms.length d g w
  have HC := Lib.hid (specList_calls A B cm d m g Z kz qs w0 (hr.on hb0) hn hkl (hy.on hb0) hll)
  have HY := Lib.hid hy
  have HB := Lib.hid hb0
  have HW := Lib.hid hw0
  have HG := Lib.hid hg0
  obtain ⟨c0, d0, d1, d2, d3, d4, d5⟩ := ar_cells hg0
  clear hb0 hg0 hw0 hz0 hy hr
  go_enter Try.func53, Try.ntmps53
  go_wp2_with fail
  rw [HW.out]
  refine HC.out.mono ?_
  rintro e w2 ⟨rfl, hb2⟩
  have HB2 := Lib.hid (HB.out.trans (hb2.mono HB.out.size))
  have HG2 := Lib.hid ((hb2.block _ (Array.getElem?_eq_some_iff.1 HG.out).1).trans HG.out)
  clear hb2 c0 d0 d1 d2 d3 d4 d5
  by_cases hok : ListOK m g qs
  · have hd : decide (ListOK m g qs) = true := decide_eq_true hok
    have HOK := Lib.hid hok
    obtain ⟨hb0', hb1', hb2', hb3', hb4'⟩ := hok.2.1.bounds
    have hl6 : qs.length ≤ 6 := hok.2.2
    have HCN := Lib.hid (fun W => specCount_calls qs.length (by omega) W)
    have HQ := Lib.hid (fun (W : World) (hb : Below w2.heap.size w2 W) => ar_cells ((hb.block _ (Array.getElem?_eq_some_iff.1 HG2.out).1).trans HG2.out))
    have hc0 : Below w2.heap.size w2 w2.drew := (Below.refl _ _).drew
    obtain ⟨c0, d0, d1, d2, d3, d4, d5⟩ := HQ.out w2.drew hc0
    have HU := Lib.hid (fun (W : World) (hb : Below w2.heap.size w2 W) (C : Option Addr) (cn : Nat) (ho : Rd W W.heap.size C (intV .i64 (countL qs.length))) => specUsed_calls A B m.length cm d g Z kz qs C cn W ⟨hb0', hb4'⟩ hb3' (HY.out.on (HB2.out.trans (hb.mono HB2.out.size))) hl6 HOK.out.1 ho)
    clear hok
    go_wp2_with fail
    go_region_held3 (fun W => W.cell? ⟨w.heap.size, 0, none⟩ = some (.slice A m.length cm) ∧ W.cell? ⟨w.heap.size, 1, none⟩ = some (.int .i64 g.w.arr) ∧ W.cell? ⟨w.heap.size, 2, none⟩ = some (.int .i64 g.w.start) ∧ W.cell? ⟨w.heap.size, 3, none⟩ = some (.int .i64 g.w.len) ∧ W.cell? ⟨w.heap.size, 4, none⟩ = some (.int .i64 g.w.cap) ∧ W.cell? ⟨w.heap.size, 5, none⟩ = some (.int .i64 g.us) ∧ W.cell? ⟨w.heap.size, 6, none⟩ = some (.slice B g.ms.length d))
      (first | (with_reducible exact ⟨c0, d0, d1, d2, d3, d4, d5⟩) | (with_reducible exact HQ.out _ hc4) | (with_reducible exact HQ.out _ hc3) | fail)
      (first | (go_at_call 104; refine (HCN.out _).mono ?_; rintro e w3 ⟨v, rfl, hv, hb3⟩; obtain ⟨C, cn, rfl⟩ := own_form hv; have hc3 : Below w2.heap.size w2 w3 := hc0.trans hb3) | (go_at_call 103; refine (HU.out _ hc3 C cn (Rd.of_own hv)).mono ?_; rintro e w4 ⟨rfl, hb4⟩; have hc4 : Below w2.heap.size w2 w4 := hc3.trans (hb4.mono hc3.size)))
    have HB4 := Lib.hid (HB2.out.trans (hc4.mono HB2.out.size))
    clear hb3 hb4 hv c0 d0 d1 d2 d3 d4 d5
    obtain ⟨c0, d0, d1, d2, d3, d4, d5⟩ := HQ.out w4 hc4
    by_cases hat : OkAt g.w.len g.us qs qs.length
    · have HUV := Lib.hid (show usedV g.w.len g.us qs = usedA g.us qs by rw [usedV, if_pos hat])
      rw [HUV.out]
      have HV : Hid (lostR m g qs = (usedA g.us qs - g.us - sumA qs, true)) := Lib.hid (by rw [lostR, if_pos (giveOK_list.2 ⟨HOK.out, hat⟩)])
      have hU := hat.used (Nat.le_refl _) hb0' hb4'
      rw [List.take_length] at hU
      have HAT := Lib.hid hat
      generalize hUe : usedA g.us qs = U at *
      have hneg : ¬ U < 0 := by omega
      have k0 : IntKind.i64.wrap (U - g.us) = U - g.us := IntWalk.i64_in _ (by omega)
      have HC4 := Lib.hid hc4
      clear hat hUe
      go_wp2_with fail
      clear c0 d0 d1 d2 d3 d4 d5 hc4
      go_loopw [7, 8] (fun u i wr => ∃ k : Nat, k ≤ qs.length ∧ i = .int .i64 k ∧ u = .int .i64 (U - g.us - sumA (qs.take k)) ∧ wr = w4) (fun _ i _ => qs.length - (intOf i).toNat)
      case atStart => exact ⟨0, Nat.zero_le _, rfl, by rw [List.take_zero, sumA_nil, Int.sub_zero], rfl⟩
      case round =>
        obtain ⟨k, hk, rfl, rfl, rfl⟩ := hrel
        by_cases hlt : k < qs.length
        · obtain ⟨b, off, rfl, hbb, e0, e1⟩ := (HY.out.on HB4.out).at_ hlt
          have HST := Lib.hid (sumA_take qs hlt)
          have hs1 := sumA_range (show OkAt g.w.len g.us qs k from fun i hi => HAT.out i (by omega)) hk hb0' hb4' hb3'
          have hs2 := sumA_range (show OkAt g.w.len g.us qs (k + 1) from fun i hi => HAT.out i (by omega)) (by omega) hb0' hb4' hb3'
          rw [HST.out] at hs2
          generalize sumA (qs.take k) = T at *
          generalize hge : qs[k] = x at *
          clear hge
          have k1 : IntKind.i64.wrap (U - g.us - T - x.size) = U - g.us - T - x.size := IntWalk.i64_in _ (by omega)
          go_wp2_with fail
          go_roundw
          case rel => exact ⟨k + 1, by omega, by go_num, by rw [HST.out]; congr 1; omega, by first | rfl | trivial⟩
          case measure => simp [intOf]; omega
        · have he : k = qs.length := by omega
          have HT : Hid (sumA (qs.take k) = sumA qs) := Lib.hid (by rw [he, List.take_length])
          clear he
          rw [HT.out]
          generalize sumA qs = T at *
          go_wp2_with fail
          refine bodyPost_ret (v := .tuple #[.int .i64 (U - g.us - T), .bool true]) (by simp [results, Try.results53, go_sem]) rfl ⟨by rw [HV.out], HB4.out⟩
    · have HUV := Lib.hid (show usedV g.w.len g.us qs = -1 by rw [usedV, if_neg hat])
      rw [HUV.out]
      have HV : Hid (lostR m g qs = (0, false)) := Lib.hid (by rw [lostR, if_neg (fun h => hat (giveOK_list.1 h).2)])
      clear hat
      go_wp2_with fail
      refine bodyPost_ret (v := .tuple #[.int .i64 0, .bool false]) (by simp [results, Try.results53, go_sem]) rfl ⟨by rw [HV.out], HB4.out⟩
  · have hd : decide (ListOK m g qs) = false := decide_eq_false hok
    have HV : Hid (lostR m g qs = (0, false)) := Lib.hid (by rw [lostR, if_neg (fun h => hok (giveOK_list.1 h).1)])
    clear hok
    go_wp2_with fail
    refine bodyPost_ret (v := .tuple #[.int .i64 0, .bool false]) (by simp [results, Try.results53, go_sem]) rfl ⟨by rw [HV.out], HB2.out⟩

theorem giveAll_some {m : List (List Int)} {g : An} {qs : List Ak} (h : GiveOK m g qs) : giveAllR m g qs = (m, ⟨g.w, usedA g.us qs, g.ms⟩, winsA g.w g.us qs qs.length, true) := by rw [giveAllR, if_pos h]
set_option maxRecDepth 100000 in
set_option maxHeartbeats 3200000 in
theorem implLostBytes_calls (A B : Option Addr) (cm d : Nat) (m : List (List Int)) (g : An) (Z : Option Addr) (kz : Nat) (qs : List Ak) (w : World) (hr : RdA w w.heap.size A B m g.ms) (hn : m.length ≤ maxLen) (hkl : g.ms.length ≤ maxLen) (hx : AArgW g) (hy : RdK w w.heap.size Z qs) (hll : qs.length ≤ maxLen) (hka : ∀ x ∈ qs, KArg x) :
    Calls Try.prog 54 #[.agg #[.slice A m.length cm, .int .i64 g.w.arr, .int .i64 g.w.start, .int .i64 g.w.len, .int .i64 g.w.cap, .int .i64 g.us, .slice B g.ms.length d], .slice Z qs.length kz] w fun e w' => e = .returned (.tuple #[.int .i64 (lostR m g qs).1, .bool (lostR m g qs).2]) ∧ Below w.heap.size w w' := by
  obtain ⟨w0, hw0, hb0, hz0, hg0⟩ := enterA A B m.length cm g.ms.length d g w
  have HC := Lib.hid (implGiveAll_calls A B cm d m g Z kz qs w0 (hr.on hb0) hn hkl hx (hy.on hb0) hll hka)
  have HB := Lib.hid hb0
  have HW := Lib.hid hw0
  have HG := Lib.hid hg0
  obtain ⟨c0, d0, d1, d2, d3, d4, d5⟩ := ar_cells hg0
  clear hb0 hg0 hw0 hz0 hy hr
  by_cases hok : GiveOK m g qs
  · have HV : Hid (lostR m g qs = (usedA g.us qs - g.us - sumA qs, true)) := Lib.hid (by rw [lostR, if_pos hok])
    rw [giveAll_some hok] at HC
    obtain ⟨hb0', hb1', hb2', hb3', hb4'⟩ := hok.1.bounds
    have HAT := Lib.hid hok.2.2
    have hl6 := hok.2.1
    have hU := hok.2.2.used (Nat.le_refl _) hb0' hb4'
    rw [List.take_length] at hU
    have HWN : Hid (∀ (k : Nat) (h : k < qs.length) (y : Win), (winsA g.w g.us qs qs.length)[k]? = some y → y.len = qs[k].size) := Lib.hid fun k h y hy => by
      rw [winsA, List.getElem?_map, List.getElem?_range h] at hy
      injection hy with hy
      rw [← hy, winA, getD_ak h]
    have HWL := Lib.hid (winsA_len g.w g.us qs qs.length)
    dsimp only at HC
    generalize winsA g.w g.us qs qs.length = V at *
    generalize hUe : usedA g.us qs = U at *
    have k0 : IntKind.i64.wrap (U - g.us) = U - g.us := IntWalk.i64_in _ (by omega)
    clear hok hUe
    go_enter Try.func54, Try.ntmps54
    go_wp2_with fail
    rw [HW.out]
    refine HC.out.mono ?_
    rintro e w2 ⟨v, u, s, mid, rfl, hm1, hm2, hoa, how, hb2⟩
    obtain ⟨A3, c3, B3, e3, rfl, rfl, _⟩ := hoa.form
    obtain ⟨S3, s3, rfl⟩ := how.form
    have HRW := Lib.hid how.rd
    have HB2 := Lib.hid (HB.out.trans (hb2.mono HB.out.size))
    have HG2 := Lib.hid ((hb2.block _ (Array.getElem?_eq_some_iff.1 HG.out).1).trans HG.out)
    obtain ⟨w3, hw3⟩ : ∃ w3, w2.alloc (.cells #[.slice A3 m.length c3, .int .i64 g.w.arr, .int .i64 g.w.start, .int .i64 g.w.len, .int .i64 g.w.cap, .int .i64 U, .slice B3 g.ms.length e3] 35) = w3 := ⟨_, rfl⟩
    have hb3 : Below w2.heap.size w2 w3 := by rw [← hw3]; exact (Below.refl _ _).alloc (Nat.le_refl _) _
    have hx3 : w3.heap[w2.heap.size]? = some (.cells #[.slice A3 m.length c3, .int .i64 g.w.arr, .int .i64 g.w.start, .int .i64 g.w.len, .int .i64 g.w.cap, .int .i64 U, .slice B3 g.ms.length e3] 35) := by rw [← hw3]; exact heap_alloc_new _ _
    have hg3 := (hb3.block _ (Array.getElem?_eq_some_iff.1 HG2.out).1).trans HG2.out
    have HB3 := Lib.hid (HB2.out.trans (hb3.mono HB2.out.size))
    have HRW3 := Lib.hid ((HRW.out.below hb3).more hb3.size)
    have HW3 := Lib.hid hw3
    clear hw3 hb3 hb2 hoa how hm1 hm2 c0 d0 d1 d2 d3 d4 d5
    obtain ⟨c0, d0, d1, d2, d3, d4, d5⟩ := ar_cells hg3
    obtain ⟨x0, x1, x2, x3, x4, x5, x6⟩ := ar_cells hx3
    clear hg3 hx3
    rw [HWL.out]
    go_upto_region 2 with fail
    rw [HW3.out]
    go_wp2_with fail
    clear c0 d0 d1 d2 d3 d4 d5 x0 x1 x2 x3 x4 x5 x6
    go_loopw [9, 28] (fun u i wr => ∃ k : Nat, k ≤ qs.length ∧ i = .int .i64 k ∧ u = .int .i64 (U - g.us - sumA (qs.take k)) ∧ Below w3.heap.size w3 wr) (fun _ i _ => qs.length - (intOf i).toNat)
    case atStart => exact ⟨0, Nat.zero_le _, rfl, by rw [List.take_zero, sumA_nil, Int.sub_zero], Below.refl _ _⟩
    case round =>
      obtain ⟨k, hk, rfl, rfl, hb⟩ := hrel
      have HBr := Lib.hid hb
      clear hb
      by_cases hlt : k < qs.length
      · have hltV : k < V.length := by rw [HWL.out]; exact hlt
        obtain ⟨b, off, rfl, hbb, e0, e1, e2, e3'⟩ := (HRW3.out.below HBr.out).at_ hltV
        have HST := Lib.hid (sumA_take qs hlt)
        have hs1 := sumA_range (show OkAt g.w.len g.us qs k from fun i hi => HAT.out i (by omega)) hk hb0' hb4' hb3'
        have hs2 := sumA_range (show OkAt g.w.len g.us qs (k + 1) from fun i hi => HAT.out i (by omega)) (by omega) hb0' hb4' hb3'
        rw [HST.out] at hs2
        have hwl := HWN.out k hlt _ (List.getElem?_eq_getElem hltV)
        generalize sumA (qs.take k) = T at *
        rw [hwl] at e2
        generalize hge : qs[k] = x at *
        generalize V[k] = y at *
        clear hge hwl
        have k1 : IntKind.i64.wrap (U - g.us - T - x.size) = U - g.us - T - x.size := IntWalk.i64_in _ (by omega)
        obtain ⟨w4, hw4⟩ : ∃ w4, wr.alloc (.cells #[.int .i64 y.arr, .int .i64 y.start, .int .i64 x.size, .int .i64 y.cap] 33) = w4 := ⟨_, rfl⟩
        have hb4 : Below wr.heap.size wr w4 := by rw [← hw4]; exact (Below.refl _ _).alloc (Nat.le_refl _) _
        obtain ⟨y0, y1, y2, y3⟩ := four_cells (show w4.heap[wr.heap.size]? = some (.cells #[.int .i64 y.arr, .int .i64 y.start, .int .i64 x.size, .int .i64 y.cap] 33) by rw [← hw4]; exact heap_alloc_new _ _)
        have HB4 := Lib.hid (HBr.out.trans (hb4.mono HBr.out.size))
        have HW4 := Lib.hid hw4
        clear hb4 hw4
        go_upto_region 8 with fail
        rw [HW4.out]
        go_wp2_with fail
        go_roundw
        case rel => exact ⟨k + 1, by omega, by go_num, by rw [HST.out]; congr 1; omega, HB4.out⟩
        case measure => simp [intOf]; omega
      · have he : k = qs.length := by omega
        have HT : Hid (sumA (qs.take k) = sumA qs) := Lib.hid (by rw [he, List.take_length])
        clear he
        rw [HT.out]
        generalize sumA qs = T at *
        go_wp2_with fail
        refine bodyPost_ret (v := .tuple #[.int .i64 (U - g.us - T), .bool true]) (by simp [results, Try.results54, go_sem]) rfl ⟨by rw [HV.out], HB3.out.trans (HBr.out.mono HB3.out.size)⟩
  · have HV : Hid (lostR m g qs = (0, false)) := Lib.hid (by rw [lostR, if_neg hok])
    rw [giveAll_none hok] at HC
    dsimp only [zeroAn] at HC
    clear hok
    go_enter Try.func54, Try.ntmps54
    go_wp2_with fail
    rw [HW.out]
    refine HC.out.mono ?_
    rintro e w2 ⟨v, u, s, mid, rfl, hm1, hm2, hoa, how, hb2⟩
    have HB2 := Lib.hid (HB.out.trans (hb2.mono HB.out.size))
    obtain ⟨A3, c3, B3, e3, rfl, rfl, _⟩ := hoa.form
    obtain ⟨S3, s3, rfl⟩ := how.form
    have hs2 := HB2.out.size
    clear hb2 hoa how hm1 hm2
    go_wp2_with fail
    refine bodyPost_ret (v := .tuple #[.int .i64 0, .bool false]) (by simp [results, Try.results54, go_sem]) rfl ⟨by rw [HV.out], by (repeat (first | (with_reducible exact Below.refl _ _) | (with_reducible refine Below.drew ?_) | ((with_reducible refine Below.alloc ?_ ?hB _); case hB => (first | (with_reducible exact Nat.le_refl _) | omega | (simp; done) | (simp; omega))) | ((with_reducible refine Below.setCell ?_ ?hB _); case hB => (first | (with_reducible exact Nat.le_refl _) | omega | (simp; done) | (simp; omega))))); exact HB2.out⟩
end Go.Proofs.Ytadmllfcnjekcaa
