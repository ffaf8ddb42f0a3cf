/-
  The length of a rope of spec; FindPart of both.
-/
import Derived.Test.YtomebbapjolnlaaRpS
namespace Go.Proofs.Ytomebbapjolnlaa
open Go.RowKit

theorem enterP (B : Option Addr) (l k : Nat) (w : World) :
    ∃ w0, w.alloc (.cells #[.slice B l k] 36) = w0 ∧ Below w.heap.size w w0 ∧ w0.heap[w.heap.size]? = some (.cells #[.slice B l k] 36) :=
  ⟨_, rfl, (Below.refl _ _).alloc (Nat.le_refl _) _, heap_alloc_new _ _⟩

set_option maxRecDepth 100000 in
theorem specLength_calls (B : Option Addr) (k : Nat) (L : List Win) (w : World) (hx : RdW w w.heap.size B L) (hl : L.length ≤ 12) (hq : ∀ x ∈ L, 0 ≤ x.len ∧ x.len ≤ 64) :
    Calls Try.prog 83 #[.agg #[.slice B L.length k]] w fun e w' => e = .returned (.int .i64 (rpLen L)) ∧ Below w.heap.size w w' := by
  obtain ⟨w0, hw0, hb0, hg0⟩ := enterP B L.length k w
  have c0 := one_cell hg0
  have HX := Lib.hid (hx.below hb0)
  have HB := Lib.hid hb0
  have HW := Lib.hid hw0
  have HQ := Lib.hid hq
  clear hx hb0 hw0 hg0 hq
  go_enter Try.func83, Try.ntmps83
  go_wp2_with fail
  rw [HW.out]
  go_loop [3, 4] (fun s i => ∃ j : Nat, j ≤ L.length ∧ i = .int .i64 j ∧ s = .int .i64 (rpLen (L.take j))) (fun _ i => L.length - (intOf i).toNat)
  case atStart => exact ⟨0, Nat.zero_le _, rfl, rfl⟩
  case round =>
    obtain ⟨j, hj, rfl, rfl⟩ := hrel
    by_cases hlt : j < L.length
    · obtain ⟨b, off, rfl, hbb, e0, e1, e2, e3⟩ := HX.out.at_ hlt
      have HS := Lib.hid (rpLen_take L j hlt)
      have hx0 := HQ.out L[j] (List.getElem_mem hlt)
      have hb := rpLen_bounds (L := L.take j) fun x hx => HQ.out x (List.mem_of_mem_take hx)
      have hlt2 : (L.take j).length ≤ 12 := by rw [List.length_take]; omega
      generalize L[j] = x at *
      have hb1 := hb.1
      have hb2 := hb.2
      have hx1 := hx0.1
      have hx2 := hx0.2
      clear e0 e1 e3 hb hx0
      go_wp2_with fail
      go_round
      case rel => exact ⟨j + 1, by omega, by go_num, by rw [HS.out]⟩
      case measure => simp [intOf]; omega
    · obtain rfl : j = L.length := by omega
      go_wp2_with fail
      go_ret
      exact ⟨ret_int (by first | rfl | rw [List.take_length]), HB.out⟩

/-- How far FindPart comes: all parts ahead of j lie ahead of i. -/
theorem find_step {L : List Win} {i : Int} {j : Nat} (h : ∀ q, q < j → rpLen (L.take (q + 1)) ≤ i) (hlt : j < L.length) (hge : L[j].len ≤ skipP L i j) : ∀ q, q < j + 1 → rpLen (L.take (q + 1)) ≤ i := fun q hq => by
  rcases Nat.lt_or_ge q j with hq2 | hq2
  · exact h q hq2
  · obtain rfl : q = j := by omega
    rw [rpLen_take L q hlt]
    unfold skipP at hge
    omega
theorem skip_step (L : List Win) (i : Int) (j : Nat) (hlt : j < L.length) : skipP L i (j + 1) = skipP L i j - L[j].len := by
  unfold skipP
  rw [rpLen_take L j hlt]
  omega
theorem ret_find {L : List Win} {i : Int} {j : Nat} {m : List (List Int)} (hw : Watched m L) (h0 : 0 ≤ i) (h1 : i < rpLen L) (hk : j < L.length) (h : ∀ q, q < j → rpLen (L.take (q + 1)) ≤ i) (hlt : skipP L i j < L[j].len) : findPartR m L i = ((j : Int), skipP L i j, true) := by
  rw [findPartR, if_pos ⟨hw, h0, h1⟩, findP_here hk h hlt]
theorem ret_none {L : List Win} {i : Int} {m : List (List Int)} (h : ¬ (Watched m L ∧ 0 ≤ i ∧ i < rpLen L)) : findPartR m L i = (0, 0, false) := if_neg h

set_option maxRecDepth 100000 in
set_option maxHeartbeats 800000 in
theorem specFindPart_calls (A : Option Addr) (c : Nat) (m : List (List Int)) (B : Option Addr) (k : Nat) (L : List Win) (i : Int) (w : World) (hr : Rd2 w w.heap.size A m) (hn : m.length ≤ maxLen) (hx : RdW w w.heap.size B L) (hl : L.length ≤ maxLen) :
    Calls Try.prog 35 #[.agg #[.slice A m.length c], .agg #[.slice B L.length k], .int .i64 i] w fun e w' => e = .returned (.tuple #[.int .i64 (findPartR m L i).1, .int .i64 (findPartR m L i).2.1, .bool (findPartR m L i).2.2]) ∧ Below w.heap.size w w' := by
  obtain ⟨w0, hw0, hb0, hg0⟩ := enterMP A m.length c B L.length k w
  have HC := Lib.hid (specRope_calls A c m B k L w0 ((hr.below hb0).more hb0.size) hn ((hx.below hb0).more hb0.size) hl)
  have HX := Lib.hid hx
  have HB := Lib.hid hb0
  have HW := Lib.hid hw0
  have HG := Lib.hid hg0
  have c0 := hg0.cm
  have c1 := hg0.cp
  clear hr hx hb0 hw0 hg0
  by_cases hw : Watched m L
  · rw [show decide (Watched m L) = true from decide_eq_true hw] at HC
    have HWT := Lib.hid hw
    have hl12 := hw.2.1
    have hlo := rpLen_ok hw
    have hp := hlo.1
    have hp2 := hlo.2
    clear hw hlo
    have HLN := Lib.hid (fun W (hb : Below w0.heap.size w0 W) => specLength_calls B k L W ((HX.out.below (HB.out.trans (hb.mono HB.out.size))).more (Nat.le_trans HB.out.size hb.size)) hl12 HWT.out.len64)
    have HI := Lib.hid (fun W => specIn_calls i 0 (rpLen L - 1) W)
    go_enter Try.func35, Try.ntmps35
    go_wp2_with fail
    rw [HW.out]
    refine HC.out.mono ?_
    rintro e w2 ⟨rfl, hb2⟩
    have HB2 := Lib.hid hb2
    have c2 := (HG.out.below hb2).cp
    clear hb2 c0 c1
    go_wp2_with fail
    refine (HLN.out _ HB2.out).mono ?_
    rintro e w3 ⟨rfl, hb3⟩
    have HB3 := Lib.hid (HB2.out.trans (hb3.mono HB2.out.size))
    have c3 := (HG.out.below HB3.out).cp
    clear hb3 c2
    go_wp2_with fail
    refine (HI.out _).mono ?_
    rintro e w4 ⟨rfl, rfl⟩
    by_cases hin : 0 ≤ i ∧ i ≤ rpLen L - 1
    · rw [show decide (0 ≤ i ∧ i ≤ rpLen L - 1) = true from decide_eq_true hin]
      have hi0 := hin.1
      have hi1 := hin.2
      clear hin
      go_wp2_with fail
      go_loop [2, 9] (fun u v => ∃ j : Nat, j < L.length ∧ v = .int .i64 j ∧ u = .int .i64 (skipP L i j) ∧ ∀ q, q < j → rpLen (L.take (q + 1)) ≤ i) (fun _ v => L.length - (intOf v).toNat)
      case atStart => exact ⟨0, by rcases Nat.eq_zero_or_pos L.length with h | h; (have h9 : rpLen L = 0 := by rw [List.eq_nil_of_length_eq_zero h]; rfl); omega; exact h, rfl, by simp [skipP, rpLen], fun q hq => absurd hq (Nat.not_lt_zero q)⟩
      case round =>
        obtain ⟨j, hlt, rfl, rfl, hall⟩ := hrel
        have HALL := Lib.hid hall
        clear hall
        obtain ⟨b, off, rfl, hbb, e0, e1, e2, e3⟩ := (HX.out.below (HB.out.trans (HB3.out.mono HB.out.size))).at_ hlt
        have hx0 := HWT.out.len64 L[j] (List.getElem_mem hlt)
        have hb := rpLen_take_ok HWT.out j
        have HSK := Lib.hid (skip_step L i j hlt)
        have hsk : skipP L i j ≤ 1000 ∧ -1000 ≤ skipP L i j := by unfold skipP; omega
        have HF := Lib.hid (fun h => ret_find HWT.out hi0 (by omega) hlt HALL.out h)
        have HST := Lib.hid (fun h => find_step HALL.out hlt h)
        have HEND := Lib.hid (show j + 1 = L.length → rpLen (L.take (j + 1)) ≤ i → False from fun h1 h2 => by rw [h1, List.take_length] at h2; omega)
        generalize hxx : L[j] = x at *
        obtain ⟨s, hs⟩ : ∃ s, skipP L i j = s := ⟨_, rfl⟩
        rw [hs] at HSK HF HST hsk ⊢
        have h1 := hsk.1
        have h2 := hsk.2
        have hx1 := hx0.1
        have hx2 := hx0.2
        clear e0 e1 e3 hb hx0 hsk hxx hs
        by_cases hlt2 : s < x.len
        · have HR := Lib.hid (HF.out hlt2)
          go_wp2_with fail
          go_ret3
          rw [HR.out]
          exact ⟨rfl, HB.out.trans (HB3.out.mono HB.out.size)⟩
        · have HAL := Lib.hid (HST.out (by omega))
          have hge : x.len ≤ s := by omega
          clear hlt2
          go_wp2_with fail
          go_round
          case rel => exact ⟨j + 1, by rcases Nat.lt_or_ge (j + 1) L.length with h | h; exact h; exact (HEND.out (by omega) (HAL.out j (by omega))).elim, by go_num, by rw [HSK.out], HAL.out⟩
          case measure => simp [intOf]; omega
    · rw [show decide (0 ≤ i ∧ i ≤ rpLen L - 1) = false from decide_eq_false hin]
      have HR := Lib.hid (ret_none (m := m) (L := L) (i := i) fun h => hin ⟨h.2.1, by omega⟩)
      clear hin
      go_wp2_with fail
      go_ret3
      rw [HR.out]
      exact ⟨rfl, HB.out.trans (HB3.out.mono HB.out.size)⟩
  · rw [show decide (Watched m L) = false from decide_eq_false hw] at HC
    have HR := Lib.hid (ret_none (m := m) (L := L) (i := i) fun h => hw h.1)
    clear hw
    go_enter Try.func35, Try.ntmps35
    go_wp2_with fail
    rw [HW.out]
    refine HC.out.mono ?_
    rintro e w2 ⟨rfl, hb2⟩
    have HB2 := Lib.hid (HB.out.trans (hb2.mono HB.out.size))
    clear hb2 c0 c1
    go_wp2_with fail
    go_ret3
    rw [HR.out]
    exact ⟨rfl, HB2.out⟩

set_option maxRecDepth 100000 in
set_option maxHeartbeats 800000 in
theorem implFindPart_calls (A : Option Addr) (c : Nat) (m : List (List Int)) (B : Option Addr) (k : Nat) (L : List Win) (i : Int) (w : World) (hr : Rd2 w w.heap.size A m) (hn : m.length ≤ maxLen) (hx : RdW w w.heap.size B L) (hl : L.length ≤ maxLen) (hwa : ∀ x ∈ L, WArg x) (hi : (Lit.int .i64 i).wf = true) :
    Calls Try.prog 36 #[.agg #[.slice A m.length c], .agg #[.slice B L.length k], .int .i64 i] w fun e w' => e = .returned (.tuple #[.int .i64 (findPartR m L i).1, .int .i64 (findPartR m L i).2.1, .bool (findPartR m L i).2.2]) ∧ Below w.heap.size w w' := by
  obtain ⟨w0, hw0, hb0, hg0⟩ := enterMP A m.length c B L.length k w
  have HC := Lib.hid (implRope_calls A c m B k L w0 ((hr.below hb0).more hb0.size) hn ((hx.below hb0).more hb0.size) hl hwa)
  have hib := bounds_i64 hi
  have HX := Lib.hid hx
  have HB := Lib.hid hb0
  have HW := Lib.hid hw0
  have HG := Lib.hid hg0
  have c0 := hg0.cm
  have c1 := hg0.cp
  clear hr hx hb0 hw0 hg0 hi hwa
  by_cases hw : Watched m L
  · rw [show decide (Watched m L) = true from decide_eq_true hw] at HC
    have HWT := Lib.hid hw
    have hl12 := hw.2.1
    clear hw
    by_cases hi0 : 0 ≤ i
    · go_enter Try.func36, Try.ntmps36
      go_wp2_with fail
      rw [HW.out]
      refine HC.out.mono ?_
      rintro e w2 ⟨rfl, hb2⟩
      have HB2 := Lib.hid (HB.out.trans (hb2.mono HB.out.size))
      have c2 := (HG.out.below hb2).cp
      clear hb2 c0 c1
      go_wp2_with fail
      go_loopw [2, 22] (fun u v wr => ∃ j : Nat, j ≤ L.length ∧ v = .int .i64 j ∧ u = .int .i64 (skipP L i j) ∧ (∀ q, q < j → rpLen (L.take (q + 1)) ≤ i) ∧ Below w2.heap.size w2 wr) (fun _ v _ => L.length - (intOf v).toNat)
      case atStart => exact ⟨0, Nat.zero_le _, rfl, by simp [skipP, rpLen], fun q hq => absurd hq (Nat.not_lt_zero q), Below.refl _ _⟩
      case round =>
        obtain ⟨j, hj, rfl, rfl, hall, hbr⟩ := hrel
        have HALL := Lib.hid hall
        have HBR := Lib.hid hbr
        clear hall hbr
        by_cases hlt : j < L.length
        · obtain ⟨b, off, rfl, hbb, e0, e1, e2, e3⟩ := (HX.out.below (HB2.out.trans (HBR.out.mono HB2.out.size))).at_ hlt
          have hx0 := HWT.out.len64 L[j] (List.getElem_mem hlt)
          have hb := rpLen_take_ok HWT.out j
          have hb' := rpLen_take_ok HWT.out (j + 1)
          have HSK := Lib.hid (skip_step L i j hlt)
          have hsk : skipP L i j ≤ i ∧ i - 768 ≤ skipP L i j := by unfold skipP; omega
          have HLE : Hid (skipP L i j < L[j].len → i < rpLen L) := Lib.hid fun h => by
            have e := rpLen_take L j hlt
            have e2 : rpLen L = rpLen (L.take (j + 1)) + rpLen (L.drop (j + 1)) := by rw [← rpLen_append, List.take_append_drop]
            have e3 := rpLen_bounds (L := L.drop (j + 1)) fun x hx => HWT.out.len64 x (List.mem_of_mem_drop hx)
            unfold skipP at h
            omega
          have HF := Lib.hid (fun h => ret_find HWT.out hi0 (HLE.out h) hlt HALL.out h)
          have HST := Lib.hid (fun h => find_step HALL.out hlt h)
          generalize hxx : L[j] = x at *
          obtain ⟨s, hs⟩ : ∃ s, skipP L i j = s := ⟨_, rfl⟩
          rw [hs] at HSK HF HST hsk ⊢
          have h1 := hsk.1
          have h2 := hsk.2
          have hx1 := hx0.1
          have hx2 := hx0.2
          have hil := hib.1
          have hiu := hib.2
          have HBN := Lib.hid (HB2.out.trans ((HBR.out.alloc HBR.out.size (.cells #[.int .i64 x.arr, .int .i64 x.start, .int .i64 x.len, .int .i64 x.cap] 90)).mono HB2.out.size))
          have HBN2 := Lib.hid (HBR.out.alloc HBR.out.size (.cells #[.int .i64 x.arr, .int .i64 x.start, .int .i64 x.len, .int .i64 x.cap] 90))
          clear hb hb' hx0 hsk hxx hs HLE
          by_cases hlt2 : s < x.len
          · have HR := Lib.hid (HF.out hlt2)
            go_wp2_with fail
            go_ret3
            rw [HR.out]
            exact ⟨rfl, HBN.out⟩
          · have HAL := Lib.hid (HST.out (by omega))
            have hge : x.len ≤ s := by omega
            clear hlt2
            go_wp2_with fail
            go_roundw
            case rel => exact ⟨j + 1, by omega, by go_num, by rw [HSK.out], HAL.out, HBN2.out⟩
            case measure => simp [intOf]; omega
        · obtain rfl : j = L.length := by omega
          have HR : Hid (findPartR m L i = (0, 0, false)) := Lib.hid (ret_none fun h => by
            rcases Nat.eq_zero_or_pos L.length with h9 | h9
            · have : rpLen L = 0 := by rw [List.eq_nil_of_length_eq_zero h9]; rfl
              omega
            · have := HALL.out (L.length - 1) (by omega)
              rw [Nat.sub_add_cancel h9, List.take_length] at this
              omega)
          go_wp2_with fail
          go_ret3
          rw [HR.out]
          exact ⟨rfl, HB2.out.trans (HBR.out.mono HB2.out.size)⟩
    · have hi1 : i < 0 := by omega
      have HR := Lib.hid (ret_none (m := m) (L := L) (i := i) fun h => hi0 h.2.1)
      clear hi0
      go_enter Try.func36, Try.ntmps36
      go_wp2_with fail
      rw [HW.out]
      refine HC.out.mono ?_
      rintro e w2 ⟨rfl, hb2⟩
      have HB2 := Lib.hid (HB.out.trans (hb2.mono HB.out.size))
      clear hb2 c0 c1
      go_wp2_with fail
      go_ret3
      rw [HR.out]
      exact ⟨rfl, HB2.out⟩
  · rw [show decide (Watched m L) = false from decide_eq_false hw] at HC
    have HR := Lib.hid (ret_none (m := m) (L := L) (i := i) fun h => hw h.1)
    clear hw
    go_enter Try.func36, Try.ntmps36
    go_wp2_with fail
    rw [HW.out]
    refine HC.out.mono ?_
    rintro e w2 ⟨rfl, hb2⟩
    have HB2 := Lib.hid (HB.out.trans (hb2.mono HB.out.size))
    clear hb2 c0 c1
    go_wp2_with fail
    go_ret3
    rw [HR.out]
    exact ⟨rfl, HB2.out⟩
end Go.Proofs.Ytomebbapjolnlaa
