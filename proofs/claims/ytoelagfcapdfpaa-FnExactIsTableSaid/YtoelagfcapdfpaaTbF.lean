/-
  Tables: the law's test of two lists; IsTable of both.
-/
import Derived.Test.YtoelagfcapdfpaaTbE
namespace Go.Proofs.Ytoelagfcapdfpaa
open Go.RowKit Go.ChangeShapes Go.WideShapes Go.Joins Go.Deep

set_option maxRecDepth 100000 in
/-- eqEntryS, where both read alike. -/
theorem eqEntryS_calls (A B : Option Addr) (c d : Nat) (xs : List En) (w : World) (hr : RdE w w.heap.size A xs) (hq : RdE w w.heap.size B xs) (hn : xs.length ≤ 1048576) :
    Calls Try.prog 36 #[.slice A xs.length c, .slice B xs.length d] w fun e w' => e = .returned (.bool true) ∧ Below w.heap.size w w' := by
  have HZ := Lib.hid hr
  have HY := Lib.hid hq
  clear hr hq
  have hne : ((xs.length : Int) != (xs.length : Int)) = false := by simp
  go_enter Try.func36, Try.ntmps36
  go_wp2_with fail
  go_loopw [5] (fun i wr => ∃ k : Nat, k ≤ xs.length ∧ i = .int .i64 k ∧ Below w.heap.size w wr) (fun i _ => xs.length - (intOf i).toNat)
  case atStart => exact ⟨0, Nat.zero_le _, rfl, Below.refl _ _⟩
  case round =>
    obtain ⟨k, hk, rfl, hb⟩ := hrel
    by_cases hlt : k < xs.length
    · obtain ⟨b, off, rfl, hbb, hkl, h1⟩ := (HZ.out.below hb).at_ hlt
      obtain ⟨b2, off2, rfl, hbb2, _, h2⟩ := (HY.out.below hb).at_ hlt
      have HC := Lib.hid (fun W => eqEntrySame_calls xs[k] W hkl)
      have HB := Lib.hid hb
      have HSI := Lib.hid (size_entL2 hkl)
      have hs := hb.size
      obtain ⟨x, hx⟩ : ∃ x, xs[k] = x := ⟨_, rfl⟩
      rw [hx] at HC HSI h1 h2
      have HA : Hid (∀ W, Below wr.heap.size wr W → W.rangeAt b (off + k * 20) (enL x) ∧ W.rangeAt b2 (off2 + k * 20) (enL x)) := Lib.hid fun W h =>
        ⟨fun j v hv => (h.cell (Nat.lt_of_lt_of_le hbb hs)).trans (h1 j v hv), fun j v hv => (h.cell (Nat.lt_of_lt_of_le hbb2 hs)).trans (h2 j v hv)⟩
      have hc0 : Below wr.heap.size wr wr.drew := (Below.refl _ _).drew
      clear hb hx h1 h2 hkl
      go_wp2_with fail
      refine wp_region_held_drew (S := (fun W => W.rangeAt b (off + k * 20) (enL x) ∧ W.rangeAt b2 (off2 + k * 20) (enL x))) (by kernel_rfl) ?_ (fun hHeld => ?_)
      · (first | (with_reducible exact HA.out _ hc0) | exact HA.out _ hc2)
      refine takeD (i := 0) (d := 17) (v := ?_) rfl rfl (by kernel_rfl) (by kernel_rfl) (by kernel_rfl) (fun _ _ _ h => h) (by rfl) ?_ (by assumption) ?_
      rotate_left
      · (intro w hSw; (try dsimp only at hSw); go_simp; (try (with_reducible rfl)))
      simp only [Act.put, List.setIfInBounds_toArray, List.set_cons_zero, List.set_cons_succ]
      refine takeD (i := 1) (d := 18) (v := ?_) rfl rfl (by kernel_rfl) (by kernel_rfl) (by kernel_rfl) (fun _ _ _ h => h) (by rfl) ?_ (by assumption) ?_
      rotate_left
      · (intro w hSw; (try dsimp only at hSw); go_simp; (try (with_reducible rfl)))
      simp only [Act.put, List.setIfInBounds_toArray, List.set_cons_zero, List.set_cons_succ]
      refine takeD (i := 2) (d := 19) (v := ?_) rfl rfl (by kernel_rfl) (by kernel_rfl) (by kernel_rfl) (fun _ _ _ h => h) (by rfl) ?_ (by assumption) ?_
      rotate_left
      · (intro w hSw; (try dsimp only at hSw); go_simp; (try (with_reducible rfl)))
      simp only [Act.put, List.setIfInBounds_toArray, List.set_cons_zero, List.set_cons_succ]
      refine' wpAnyH_take (i := 3) (oi := _) (v := _) rfl (by kernel_rfl) (by kernel_rfl) (by kernel_rfl) (fun _ _ _ h => h) (yieldsIf_load_mid (by rfl) _ _ rfl _ _ rfl (enL x) _ (fun _ h => h.1) Try.underlying93 rfl HSI.out) hHeld ?_
      simp only [Act.put, List.setIfInBounds_toArray]
      refine takeD (i := 4) (d := 21) (v := ?_) rfl rfl (by kernel_rfl) (by kernel_rfl) (by kernel_rfl) (fun _ _ _ h => h) (by rfl) ?_ (by assumption) ?_
      rotate_left
      · (intro w hSw; (try dsimp only at hSw); go_simp; (try (with_reducible rfl)))
      simp only [Act.put]
      refine takeD (i := 5) (d := 22) (v := ?_) rfl rfl (by kernel_rfl) (by kernel_rfl) (by kernel_rfl) (fun _ _ _ h => h) (by rfl) ?_ (by assumption) ?_
      rotate_left
      · (intro w hSw; (try dsimp only at hSw); go_simp; (try (with_reducible rfl)))
      simp only [Act.put]
      refine takeD (i := 6) (d := 23) (v := ?_) rfl rfl (by kernel_rfl) (by kernel_rfl) (by kernel_rfl) (fun _ _ _ h => h) (by rfl) ?_ (by assumption) ?_
      rotate_left
      · (intro w hSw; (try dsimp only at hSw); go_simp; (try (with_reducible rfl)))
      simp only [Act.put]
      refine' wpAnyH_take (i := 7) (oi := _) (v := _) rfl (by kernel_rfl) (by kernel_rfl) (by kernel_rfl) (fun _ _ _ h => h) (yieldsIf_load_mid (by rfl) _ _ rfl _ _ rfl (enL x) _ (fun _ h => h.2) Try.underlying93 rfl HSI.out) hHeld ?_
      simp only [Act.put]
      refine wpAnyH_ready (rs := [8]) (by kernel_rfl) (by simp) ?_
      refine AllReadyH.cons rfl (fun K hK => ?_) AllReadyH.nil
      (try go_simp)
      (go_at_call 83; refine (HC.out _).mono ?_; rintro e w2 ⟨rfl, hb2⟩; have hc2 := hc0.trans (hb2.mono hc0.size))
      refine hK.out _ _ ?_ (fun hHeld => ?_)
      · (first | (with_reducible exact HA.out _ hc0) | exact HA.out _ hc2)
      clear hK K
      try simp only [Act.put, List.setIfInBounds_toArray, List.set_cons_zero, List.set_cons_succ]
      refine takeD (i := 9) (d := 26) (v := ?_) rfl rfl (by kernel_rfl) (by kernel_rfl) (by kernel_rfl) (fun _ _ _ h => h) (by rfl) ?_ (by assumption) ?_
      rotate_left
      · (intro w hSw; (try dsimp only at hSw); go_simp; (try (with_reducible rfl)))
      simp only [Act.put, List.setIfInBounds_toArray, List.set_cons_zero, List.set_cons_succ]
      refine wpAnyH_done (by kernel_rfl) ?_ _
      have HB2 := Lib.hid (HB.out.trans (hc2.mono HB.out.size))
      clear hb2 hc2 hc0 hHeld
      go_wp2_with fail
      go_roundw
      case rel => exact ⟨k + 1, by omega, by go_num, HB2.out⟩
      case measure => simp [intOf]; omega
    · have HB := Lib.hid hb
      clear hb
      go_wp2_with fail
      go_ret
      exact ⟨rfl, HB.out⟩

/-- What IsTable answers. -/
def isTableR (m : List (List Int)) (L : List En) : Bool × Bool := if MemOK m then (decide (TabOK m L), true) else (false, false)
theorem specIsTable_calls (A : Option Addr) (cm : Nat) (m : List (List Int)) (B : Option Addr) (kc : Nat) (L : List En) (w : World) (hr : Rd2 w w.heap.size A m) (hn : m.length ≤ maxLen) (hx : RdE w w.heap.size B L) (hl : L.length ≤ maxLen) (ha : ∀ x ∈ L, EArg x) :
    Calls Try.prog 33 #[.agg #[.slice A m.length cm], .slice B L.length kc] w fun e w' => e = .returned (.tuple #[.bool (isTableR m L).1, .bool (isTableR m L).2]) ∧ Below w.heap.size w w' := by
  obtain ⟨w0, hw0, hb0, hz0, hg0⟩ := enterMem A m.length cm w
  have HCM := Lib.hid (specMemory_calls A cm m w0 ((hr.below hb0).more hb0.size) hn)
  have HCT := Lib.hid (fun W (hb : Below w.heap.size w W) => specTable_calls A cm m B kc L W ((hr.below hb).more hb.size) hn (hx.on hb) hl ha)
  have HB0 := Lib.hid hb0
  have HW := Lib.hid hw0
  have HG := Lib.hid hg0
  have c0 := one_cell hg0
  clear hr hx ha hb0 hw0 hz0 hg0
  go_enter Try.func33, Try.ntmps33
  go_upto_region 1 with fail
  rw [HW.out]
  go_wp2_with fail
  refine HCM.out.mono ?_
  rintro e w1 ⟨rfl, hb1⟩
  have HB1 := Lib.hid (HB0.out.trans (hb1.mono HB0.out.size))
  have c1 := one_cell ((hb1.block _ (Array.getElem?_eq_some_iff.1 HG.out).1).trans HG.out)
  clear hb1 c0
  by_cases hm : MemOK m
  · rw [show decide (MemOK m) = true from decide_eq_true hm]
    have HV : Hid (isTableR m L = (decide (TabOK m L), true)) := Lib.hid (by rw [isTableR, if_pos hm])
    have HT := Lib.hid (HCT.out w1 HB1.out)
    obtain ⟨q, hq⟩ : ∃ q, decide (TabOK m L) = q := ⟨_, rfl⟩
    rw [hq] at HV HT
    clear hm hq
    go_wp2_with fail
    refine HT.out.mono ?_
    rintro e w2 ⟨rfl, hb2⟩
    have HB2 := Lib.hid (HB1.out.trans (hb2.mono HB1.out.size))
    clear hb2 c1
    go_wp2_with fail
    go_ret2
    exact ⟨by rw [HV.out]; rfl, HB2.out⟩
  · rw [show decide (MemOK m) = false from decide_eq_false hm]
    have HV : Hid (isTableR m L = (false, false)) := Lib.hid (by rw [isTableR, if_neg hm])
    clear hm
    go_wp2_with fail
    go_ret2
    exact ⟨by rw [HV.out]; rfl, HB1.out⟩
set_option maxRecDepth 100000 in
theorem implIsTable_calls (A : Option Addr) (cm : Nat) (m : List (List Int)) (B : Option Addr) (kc : Nat) (L : List En) (w : World) (hr : Rd2 w w.heap.size A m) (hn : m.length ≤ maxLen) (hx : RdE w w.heap.size B L) (hl : L.length ≤ maxLen) (ha : ∀ x ∈ L, EArg x) :
    Calls Try.prog 35 #[.agg #[.slice A m.length cm], .slice B L.length kc] w fun e w' => e = .returned (.tuple #[.bool (isTableR m L).1, .bool (isTableR m L).2]) ∧ Below w.heap.size w w' := by
  obtain ⟨w0, hw0, hb0, hz0, hg0⟩ := enterMem A m.length cm w
  have HC := Lib.hid (fun W (hb : Below w0.heap.size w0 W) => implTable_calls A cm m B kc L W ((hr.below (hb0.trans (hb.mono hb0.size))).more (Nat.le_trans hb0.size hb.size)) hn (hx.on (hb0.trans (hb.mono hb0.size))) hl ha)
  have HM := Lib.hid (fun W (hb : Below w0.heap.size w0 W) => implIsMemory_calls A cm m W ((hr.below (hb0.trans (hb.mono hb0.size))).more (Nat.le_trans hb0.size hb.size)) hn)
  have HA := Lib.hid (fun W (hb : Below w0.heap.size w0 W) => show W.cell? ⟨w.heap.size, 0, none⟩ = some (.slice A m.length cm) from one_cell ((hb.block _ (Array.getElem?_eq_some_iff.1 hg0).1).trans hg0))
  have HF : Hid (isTableR m L = (decide (TabOK m L), decide (MemOK m))) := Lib.hid (by
    unfold isTableR
    by_cases hm : MemOK m
    · rw [if_pos hm, decide_eq_true hm]
    · rw [if_neg hm, decide_eq_false hm, decide_eq_false fun h => hm h.1])
  have HB := Lib.hid hb0
  have HW := Lib.hid hw0
  have c0 := one_cell hg0
  clear hr hx ha hb0 hw0 hg0
  go_enter Try.func35, Try.ntmps35
  go_wp2_with fail
  rw [HW.out]
  go_region_held3 (fun W => W.cell? ⟨w.heap.size, 0, none⟩ = some (.slice A m.length cm))
    (first | (with_reducible exact c0) | exact HA.out _ hc5 | exact HA.out _ hc4 | exact HA.out _ (by (repeat (first | (with_reducible exact Below.refl _ _) | (with_reducible refine Below.drew ?_) | ((with_reducible refine Below.alloc ?_ ?hB _); case hB => (first | (with_reducible exact Nat.le_refl _) | omega | (simp; done) | (simp; omega))) | ((with_reducible refine Below.setCell ?_ ?hB _); case hB => (first | (with_reducible exact Nat.le_refl _) | omega | (simp; done) | (simp; omega)))))))
    (first | (go_at_call 81; refine (HC.out _ (by (repeat (first | (with_reducible exact Below.refl _ _) | (with_reducible refine Below.drew ?_) | ((with_reducible refine Below.alloc ?_ ?hB _); case hB => (first | (with_reducible exact Nat.le_refl _) | omega | (simp; done) | (simp; omega))) | ((with_reducible refine Below.setCell ?_ ?hB _); case hB => (first | (with_reducible exact Nat.le_refl _) | omega | (simp; done) | (simp; omega))))))).mono ?_; rintro e w4 ⟨rfl, hb4⟩; have hc4 : Below w0.heap.size w0 w4 := ⟨hb4.os, hb4.tape, hb4.output, hb4.size, hb4.block⟩) | (go_at_call 82; refine (HM.out _ hc4).mono ?_; rintro e w5 ⟨rfl, hb5⟩; have hc5 : Below w0.heap.size w0 w5 := hc4.trans (hb5.mono hc4.size)))
  have HB5 := Lib.hid (HB.out.trans (hc5.mono HB.out.size))
  clear hb4 hb5 hc4 hc5
  go_wp2_with fail
  go_ret2
  exact ⟨by rw [HF.out]; rfl, HB5.out⟩
end Go.Proofs.Ytoelagfcapdfpaa
