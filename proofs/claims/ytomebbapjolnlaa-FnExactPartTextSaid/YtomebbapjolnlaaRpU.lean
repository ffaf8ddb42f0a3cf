/-
  strandOf of impl; RopeLength of both.
-/
import Derived.Test.YtomebbapjolnlaaRpT
import Derived.Deep.DeepCutAuto
namespace Go.Proofs.Ytomebbapjolnlaa
open Go.RowKit

theorem info_strand : (Try.prog.info? 95).map (fun i => (i.zero, i.size, i.bytes)) = some (some .nilIface, 1, 16) := by kernel_rfl
/-- Each window as a strand. -/
def strV1 (L : List Win) : List Value := L.map winI
def ones (L : List Win) : List (List Win) := L.map fun x => [x]
theorem strV1_len (L : List Win) : (strV1 L).length = L.length := by simp [strV1]
theorem ones_flat (L : List Win) : (ones L).flatten = L := by
  induction L with
  | nil => rfl
  | cons x xs ih => simp [ones] at ih ⊢; exact ih
theorem fill_strand {z : Value} (L : List Win) (k : Nat) (h : k < L.length) :
    (strV1 (L.take k) ++ List.replicate (L.length - k) z).set k (winI L[k]) = strV1 (L.take (k + 1)) ++ List.replicate (L.length - (k + 1)) z := by
  rw [fill_step _ _ _ h (by simp [strV1]; omega)]
  unfold strV1
  rw [List.take_succ_eq_append_getElem h, List.map_append]; rfl
theorem ones_el (L : List Win) (w : World) (B : Nat) : ∀ (i : Nat) (u : Value) (Q : List Win), (strV1 L)[i]? = some u → (ones L)[i]? = some Q → Str w B 0 u Q := fun i u Q hu hQ => by
  unfold strV1 at hu
  unfold ones at hQ
  rw [List.getElem?_map] at hu hQ
  rcases h : L[i]? with _ | x
  · rw [h] at hu; cases hu
  · rw [h] at hu hQ
    injection hu with hu
    injection hQ with hQ
    exact ⟨x, hu.symm, hQ.symm⟩

set_option maxRecDepth 100000 in
theorem strandOf_calls (B : Option Addr) (k : Nat) (L : List Win) (w : World) (hx : RdW w w.heap.size B L) (hl : L.length ≤ 12) :
    Calls Try.prog 84 #[.agg #[.slice B L.length k]] w fun e w' => ∃ A c, e = .returned (brI A L.length c) ∧ L.length ≤ c ∧ Br w' w'.heap.size 0 A (strV1 L) (ones L) ∧ Below w.heap.size w w' := by
  obtain ⟨w0, hw0, hb0, hg0⟩ := enterP B L.length k w
  obtain ⟨i0, hi0, hz0, hz1, hz2⟩ := info_parts info_strand
  obtain ⟨w1, hrun, hown, hg⟩ := run_make_full (P := Try.prog) w0 w0.heap.size 112 95 i0 _ 1 Try.underlying112 hi0 hz0 hz1 .i64 .i64 L.length (by rw [hz2]; omega) (by simp only [maxLen]; omega) (Nat.le_refl _)
  have hb1 : Below w0.heap.size w0 w1 := (Below.refl _ _).grown hg (Nat.le_refl _) (by simp)
  rw [show (madeCells Value.nilIface.cells (L.length * 1)).toList = List.replicate L.length .nilIface by rw [Nat.mul_one]; exact toList_madeCells_one _ _] at hown
  have hg1 : w1.heap[w.heap.size]? = some (.cells #[.slice B L.length k] 36) := (hb1.block _ (Array.getElem?_eq_some_iff.1 hg0).1).trans hg0
  have HO := Lib.hid hown
  have HX := Lib.hid hx
  have HB := Lib.hid hb0
  have HB1 := Lib.hid hb1
  have HW := Lib.hid hw0
  have HG := Lib.hid hg1
  have hsz : w.heap.size < w0.heap.size := (Array.getElem?_eq_some_iff.1 hg0).1
  have c0 := one_cell hg0
  have c1 := one_cell hg1
  clear hown hx hb0 hb1 hw0 hg0 hg1 hg
  go_enter Try.func84, Try.ntmps84
  go_wp2_with fail
  rw [HW.out, hrun]
  go_wp2_with fail
  clear hrun
  go_loopw [13] (fun i wr => ∃ j : Nat, j ≤ L.length ∧ i = .int .i64 j ∧ wr.ownsRow w0.heap.size 95 1 (.slice (some ⟨w0.heap.size, 0, none⟩) L.length L.length) L.length (strV1 (L.take j) ++ List.replicate (L.length - j) .nilIface) ∧ Below w0.heap.size w0 wr) (fun i _ => L.length - (intOf i).toNat)
  case atStart => exact ⟨0, Nat.zero_le _, rfl, by simpa [strV1] using HO.out, HB1.out⟩
  case round =>
    obtain ⟨j, hj, rfl, ho, hb⟩ := hrel
    by_cases hlt : j < L.length
    · obtain ⟨b, off, rfl, hbb, e0, e1, e2, e3⟩ := (HX.out.below (HB.out.trans (hb.mono HB.out.size))).at_ hlt
      have HST := Lib.hid (fill_strand (z := .nilIface) L j hlt)
      generalize hxx : L[j] = x at *
      obtain ⟨w4, hw4⟩ : ∃ w4, wr.alloc (.cells #[.int .i64 x.arr, .int .i64 x.start, .int .i64 x.len, .int .i64 x.cap] 90) = w4 := ⟨_, rfl⟩
      have hb4 : Below wr.heap.size wr w4 := by rw [← hw4]; exact (Below.refl _ _).alloc (Nat.le_refl _) _
      have h4 : w4.heap[wr.heap.size]? = some (.cells #[.int .i64 x.arr, .int .i64 x.start, .int .i64 x.len, .int .i64 x.cap] 90) := by rw [← hw4]; exact heap_alloc_new _ _
      have ho4 := own_below ho hb4
      have hf := ho4.frozenAt j
      have hd : w4.cell? ⟨w0.heap.size, j, none⟩ = some .nilIface := by
        rw [ho4.cellAt j (by omega), List.getElem?_append_right (by simp [strV1]; omega), List.getElem?_replicate, if_pos (by simp [strV1]; omega)]
      have HO2 := Lib.hid (ho4.stored j (winI x))
      have HB2 := Lib.hid (hb.trans (hb4.mono hb.size))
      have HW4 := Lib.hid hw4
      obtain ⟨d0, d1, d2, d3⟩ := four_cells h4
      clear ho hb hb4 h4 ho4 hw4 hxx
      go_upto_region 5 with fail
      rw [HW4.out]
      clear e0 e1 e2 e3
      go_wp2_with fail
      go_roundw
      case rel => exact ⟨j + 1, by omega, by go_num, by rw [← HST.out]; exact HO2.out.1, HB2.out.setCell (p := ⟨w0.heap.size, j, none⟩) (Nat.le_refl _) _⟩
      case measure => simp [intOf]; omega
    · obtain rfl : j = L.length := by omega
      have HO2 := Lib.hid ho
      have HB2 := Lib.hid hb
      clear ho hb
      go_wp2_with fail
      go_ret
      refine ⟨_, _, rfl, Nat.le_refl _, ⟨by simp [ones, strV1], by rw [strV1_len]; exact hl, ?_, ones_el L _ _⟩, HB.out.trans (HB2.out.mono HB.out.size)⟩
      have h2 := HO2.out
      rw [List.take_length, Nat.sub_self, List.replicate_zero, List.append_nil] at h2
      exact Rd.of_own h2
set_option maxRecDepth 100000 in
theorem specRopeLength_calls (A : Option Addr) (c : Nat) (m : List (List Int)) (B : Option Addr) (k : Nat) (L : List Win) (w : World) (hr : Rd2 w w.heap.size A m) (hn : m.length ≤ maxLen) (hx : RdW w w.heap.size B L) (hl : L.length ≤ maxLen) :
    Calls Try.prog 33 #[.agg #[.slice A m.length c], .agg #[.slice B L.length k]] w fun e w' => e = .returned (.tuple #[.int .i64 (lengthR m L).1, .bool (lengthR m L).2]) ∧ Below w.heap.size w w' := by
  obtain ⟨w0, hw0, hb0, hg0⟩ := enterMP A m.length c B L.length k w
  have HC := Lib.hid (specRope_calls A c m B k L w0 ((hr.below hb0).more hb0.size) hn ((hx.below hb0).more hb0.size) hl)
  have HX := Lib.hid hx
  have HB := Lib.hid hb0
  have HW := Lib.hid hw0
  have HG := Lib.hid hg0
  have c0 := hg0.cm
  have c1 := hg0.cp
  clear hr hx hb0 hw0 hg0
  by_cases hw : Watched m L
  · rw [show decide (Watched m L) = true from decide_eq_true hw] at HC
    have HF := Lib.hid (show lengthR m L = (rpLen L, true) from if_pos hw)
    have HLN := Lib.hid (fun W (hb : Below w0.heap.size w0 W) => specLength_calls B k L W ((HX.out.below (HB.out.trans (hb.mono HB.out.size))).more (Nat.le_trans HB.out.size hb.size)) hw.2.1 hw.len64)
    clear hw
    go_enter Try.func33, Try.ntmps33
    go_wp2_with fail
    rw [HW.out]
    refine HC.out.mono ?_
    rintro e w2 ⟨rfl, hb2⟩
    have HB2 := Lib.hid hb2
    have c2 := (HG.out.below hb2).cp
    clear hb2 c0 c1
    go_wp2_with fail
    refine (HLN.out _ HB2.out).mono ?_
    rintro e w3 ⟨rfl, hb3⟩
    have HB3 := Lib.hid (HB2.out.trans (hb3.mono HB2.out.size))
    clear hb3 c2
    go_wp2_with fail
    go_ret2
    rw [HF.out]
    exact ⟨rfl, HB.out.trans (HB3.out.mono HB.out.size)⟩
  · rw [show decide (Watched m L) = false from decide_eq_false hw] at HC
    have HF := Lib.hid (show lengthR m L = (0, false) from if_neg hw)
    clear hw
    go_enter Try.func33, Try.ntmps33
    go_wp2_with fail
    rw [HW.out]
    refine HC.out.mono ?_
    rintro e w2 ⟨rfl, hb2⟩
    have HB2 := Lib.hid (HB.out.trans (hb2.mono HB.out.size))
    clear hb2 c0 c1
    go_wp2_with fail
    go_ret2
    rw [HF.out]
    exact ⟨rfl, HB2.out⟩

set_option maxRecDepth 100000 in
theorem implRopeLength_calls (A : Option Addr) (c : Nat) (m : List (List Int)) (B : Option Addr) (k : Nat) (L : List Win) (w : World) (hr : Rd2 w w.heap.size A m) (hn : m.length ≤ maxLen) (hx : RdW w w.heap.size B L) (hl : L.length ≤ maxLen) (hwa : ∀ x ∈ L, WArg x) :
    Calls Try.prog 34 #[.agg #[.slice A m.length c], .agg #[.slice B L.length k]] w fun e w' => e = .returned (.tuple #[.int .i64 (lengthR m L).1, .bool (lengthR m L).2]) ∧ Below w.heap.size w w' := by
  obtain ⟨w0, hw0, hb0, hg0⟩ := enterMP A m.length c B L.length k w
  have HC := Lib.hid (implRope_calls A c m B k L w0 ((hr.below hb0).more hb0.size) hn ((hx.below hb0).more hb0.size) hl hwa)
  have HX := Lib.hid hx
  have HB := Lib.hid hb0
  have HW := Lib.hid hw0
  have HG := Lib.hid hg0
  have c0 := hg0.cm
  have c1 := hg0.cp
  clear hr hx hb0 hw0 hg0 hwa
  by_cases hw : Watched m L
  · rw [show decide (Watched m L) = true from decide_eq_true hw] at HC
    have HF := Lib.hid (show lengthR m L = (rpLen L, true) from if_pos hw)
    have hl12 := hw.2.1
    have HT : Hid (Tiny L) := Lib.hid hw.len64
    have HLN := Lib.hid (fun W (hb : Below w0.heap.size w0 W) => strandOf_calls B k L W ((HX.out.below (HB.out.trans (hb.mono HB.out.size))).more (Nat.le_trans HB.out.size hb.size)) hw.2.1)
    clear hw
    go_enter Try.func34, Try.ntmps34
    go_wp2_with fail
    rw [HW.out]
    refine HC.out.mono ?_
    rintro e w2 ⟨rfl, hb2⟩
    have HB2 := Lib.hid hb2
    have c2 := (HG.out.below hb2).cp
    clear hb2 c0 c1
    go_wp2_with fail
    refine (HLN.out _ HB2.out).mono ?_
    rintro e w3 ⟨A3, k3, rfl, hk3, hbr3, hb3⟩
    have HB3 := Lib.hid (HB2.out.trans (hb3.mono HB2.out.size))
    have HBR := Lib.hid (braidLength_calls 0 A3 k3 (strV1 L) (ones L) w3 hbr3 (by rw [ones_flat]; exact HT.out) (by rw [ones_flat]; omega))
    rw [strV1_len, ones_flat] at HBR
    have hm : ∀ w : World, (method 269 112 (.slice A3 L.length k3) "loop.example/g01179/impl.length").run Try.prog w = .ok (153, .slice A3 L.length k3) w := fun _ => by kernel_rfl
    unfold brI
    clear hb3 c2 hbr3
    go_wp2_with fail
    refine HBR.out.mono ?_
    rintro e w4 ⟨rfl, hb4⟩
    have HB4 := Lib.hid (HB3.out.trans (hb4.mono HB3.out.size))
    clear hb4 hm
    go_wp2_with fail
    go_ret2
    rw [HF.out]
    exact ⟨rfl, HB.out.trans (HB4.out.mono HB.out.size)⟩
  · rw [show decide (Watched m L) = false from decide_eq_false hw] at HC
    have HF := Lib.hid (show lengthR m L = (0, false) from if_neg hw)
    clear hw
    go_enter Try.func34, Try.ntmps34
    go_wp2_with fail
    rw [HW.out]
    refine HC.out.mono ?_
    rintro e w2 ⟨rfl, hb2⟩
    have HB2 := Lib.hid (HB.out.trans (hb2.mono HB.out.size))
    clear hb2 c0 c1
    go_wp2_with fail
    go_ret2
    rw [HF.out]
    exact ⟨rfl, HB2.out⟩
end Go.Proofs.Ytomebbapjolnlaa
