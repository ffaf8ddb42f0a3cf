/-
  RopeText of impl.
-/
import Derived.Test.YtomebbapjolnlaaRpX
import Derived.IntWalk
namespace Go.Proofs.Ytomebbapjolnlaa
open Go.RowKit

theorem over_fill (xs ys : List Int) (N t : Nat) (ht : xs.length = t) (h : t + ys.length ≤ N) : over (xs ++ List.replicate (N - t) 0) t ys = (xs ++ ys) ++ List.replicate (N - (t + ys.length)) 0 := by
  subst ht
  unfold over
  rw [List.take_left, List.drop_append, List.drop_eq_nil_of_le (by omega), List.nil_append, List.drop_replicate]
  congr 2
  omega
theorem ropeT_prefix {m : List (List Int)} {L : List Win} (k : Nat) : (ropeT m (L.take k)).length ≤ (ropeT m L).length := by
  have e : ropeT m L = ropeT m (L.take k) ++ ropeT m (L.drop k) := by rw [← ropeT_append, List.take_append_drop]
  rw [e, List.length_append]
  omega

set_option maxRecDepth 100000 in
set_option maxHeartbeats 3200000 in
theorem implRopeText_ok (A : Option Addr) (c : Nat) (m : List (List Int)) (B : Option Addr) (k : Nat) (L : List Win) (w : World) (hr : Rd2 w w.heap.size A m) (hx : RdW w w.heap.size B L) (hwa : ∀ x ∈ L, WArg x) (hw : Watched m L) :
    Calls Try.prog 27 #[.agg #[.slice A m.length c], .agg #[.slice B L.length k]] w fun e w' => ∃ v, e = .returned (.tuple #[v, .bool true]) ∧ w'.ownsRow w.heap.size 5 1 v (ropeT m L).length (intV .u8 (ropeT m L)) ∧ Below w.heap.size w w' := by
  have hszu : (Try.prog.info? 5).map (·.size) = some 1 := by kernel_rfl
  have hn : m.length ≤ maxLen := by have := hw.1.1; simp only [maxLen]; omega
  have hl : L.length ≤ maxLen := by have := hw.2.1; simp only [maxLen]; omega
  obtain ⟨w0, hw0, hb0, hg0⟩ := enterMP A m.length c B L.length k w
  obtain ⟨N, hN⟩ : ∃ N, (ropeT m L).length = N := ⟨_, rfl⟩
  have hN768 : N ≤ 768 := by rw [← hN]; exact ropeT_ok hw
  have HV : Hid (lengthR m L = ((N : Int), true)) := Lib.hid (by rw [lengthR, if_pos hw, ← ropeT_len hw.2.2, hN])
  have HC := Lib.hid (implRopeLength_calls A c m B k L w0 ((hr.below hb0).more hb0.size) hn ((hx.below hb0).more hb0.size) hl hwa)
  rw [HV.out] at HC
  obtain ⟨mk, hmk⟩ : ∃ mk : World → World, ∀ W, (Instr.makeSlice 41 (.int .i64 N) (.int .i64 N)).run Try.prog W = .ok (.slice (some ⟨W.heap.size, 0, none⟩) N N) (mk W) ∧ (mk W).ownsRow W.heap.size 5 1 (.slice (some ⟨W.heap.size, 0, none⟩) N N) N (intV .u8 (List.replicate N 0)) ∧ Below W.heap.size W (mk W) :=
    ⟨fun W => (make_allR N (by omega) W).choose, fun W => (make_allR N (by omega) W).choose_spec⟩
  have HMK := Lib.hid hmk
  have HR := Lib.hid hr
  have HX := Lib.hid hx
  have HB := Lib.hid hb0
  have HW := Lib.hid hw0
  have HG := Lib.hid hg0
  have HWT := Lib.hid hw
  have HNN := Lib.hid hN
  have hl12 := hw.2.1
  have c0 := hg0.cm
  have c1 := hg0.cp
  clear hr hx hb0 hw0 hg0 hmk hw hwa hN
  go_enter Try.func27, Try.ntmps27
  go_wp2_with fail
  rw [HW.out]
  refine HC.out.mono ?_
  rintro e w2 ⟨rfl, hb2⟩
  have HB2 := Lib.hid hb2
  obtain ⟨hrun, hown3, hb3⟩ := HMK.out w2
  obtain ⟨w3, hw3⟩ : ∃ w3, mk w2 = w3 := ⟨_, rfl⟩
  rw [hw3] at hrun hown3 hb3
  have HB3 := Lib.hid (hb2.trans (hb3.mono hb2.size))
  have HO3 := Lib.hid hown3
  have c2 := (HG.out.below HB3.out).cp
  have hlo : w0.heap.size ≤ w2.heap.size := hb2.size
  clear hb2 hown3 hb3 hw3 c0 c1
  go_wp2_with fail
  clear hrun
  go_loopw [9, 26] (fun v i wr => ∃ (j : Nat), j ≤ L.length ∧ i = .int .i64 j ∧ v = .int .i64 (ropeT m (L.take j)).length ∧ wr.ownsRow w2.heap.size 5 1 (.slice (some ⟨w2.heap.size, 0, none⟩) N N) N (intV .u8 (ropeT m (L.take j) ++ List.replicate (N - (ropeT m (L.take j)).length) 0)) ∧ Below w0.heap.size w0 wr) (fun _ i _ => L.length - (intOf i).toNat)
  case atStart => exact ⟨0, Nat.zero_le _, rfl, by simp [ropeT], by simpa [ropeT] using HO3.out, HB3.out⟩
  case round =>
    obtain ⟨j, hj, rfl, rfl, hown, hbr⟩ := hrel
    by_cases hlt : j < L.length
    · obtain ⟨b, off, rfl, hbb, e0, e1, e2, e3⟩ := (HX.out.below (HB.out.trans (hbr.mono HB.out.size))).at_ hlt
      have hst := ropeT_take m L j hlt
      have hpre := ropeT_prefix (m := m) (L := L) (j + 1)
      rw [HNN.out] at hpre
      have hok := HWT.out.2.2 L[j] (List.getElem_mem hlt)
      generalize hxx : L[j] = x at *
      obtain ⟨n, s, l, c', rfl, hnl, hlc, hsc, h1m, h64, h16⟩ := hok.nat
      dsimp only at e0 e1 e2 e3
      simp only [Int.toNat_natCast] at hst
      have hwl := wb_len (m := m) hnl (show s + l ≤ m[n].length by omega)
      have HS := Lib.hid (fun W (hb : Below w0.heap.size w0 W) => seenR_calls A c m n s l c' W ((HR.out.below (HB.out.trans (hb.mono HB.out.size))).more (Nat.le_trans HB.out.size hb.size)) hnl h16 hlc hsc h1m h64)
      generalize wb m n s l = Z at *
      obtain ⟨w4, hw4⟩ : ∃ w4, wr.alloc (.cells #[.int .i64 n, .int .i64 s, .int .i64 l, .int .i64 c'] 90) = w4 := ⟨_, rfl⟩
      have hb4 : Below wr.heap.size wr w4 := by rw [← hw4]; exact (Below.refl _ _).alloc (Nat.le_refl _) _
      have h4 : w4.heap[wr.heap.size]? = some (.cells #[.int .i64 n, .int .i64 s, .int .i64 l, .int .i64 c'] 90) := by rw [← hw4]; exact heap_alloc_new _ _
      have hc4' : Below w0.heap.size w0 w4 := hbr.trans (hb4.mono hbr.size)
      have hc4 : Below w0.heap.size w0 w4.drew := hc4'.drew
      have hg4 := HG.out.below hc4'
      have ho4 := own_below hown hb4
      obtain ⟨t, ht⟩ : ∃ t, (ropeT m (L.take j)).length = t := ⟨_, rfl⟩
      rw [ht] at ho4
      have htl : (ropeT m (L.take j) ++ Z).length = t + l := by rw [List.length_append, ht, hwl]
      rw [hst, htl] at hpre
      have hov := over_fill (ropeT m (L.take j)) Z N t ht (by rw [hwl]; omega)
      rw [hwl] at hov
      have hrl : (ropeT m (L.take j) ++ List.replicate (N - t) 0).length = N := by rw [List.length_append, ht, List.length_replicate]; omega
      obtain ⟨R, hR⟩ : ∃ R, ropeT m (L.take j) ++ List.replicate (N - t) 0 = R := ⟨_, rfl⟩
      rw [hR] at ho4 hov hrl
      have HO4 : Hid (w4.ownsRow w2.heap.size 5 1 (.slice (some ⟨w2.heap.size, 0, none⟩) R.length N) R.length (intV .u8 R)) := Lib.hid (by rw [hrl]; exact ho4)
      have hlw : w.heap.size < w2.heap.size := Nat.lt_of_lt_of_le (Array.getElem?_eq_some_iff.1 HG.out.m).1 hlo
      have hl2 : w2.heap.size < wr.heap.size := by
        rcases hown.2 with ⟨hv, _⟩ | ⟨g, cap, cur, hv, _, hh, _⟩
        · cases hv
        · injection hv with hv; injection hv with hv; injection hv with hv; subst hv; exact (Array.getElem?_eq_some_iff.1 hh).1
      have HK : Hid (∀ W, Below w4.heap.size w4 W → W.cell? ⟨w.heap.size, 0, none⟩ = some (.slice A m.length c) ∧ W.cell? ⟨wr.heap.size, 0, none⟩ = some (.int .i64 n) ∧ W.cell? ⟨wr.heap.size, 1, none⟩ = some (.int .i64 s) ∧ W.cell? ⟨wr.heap.size, 2, none⟩ = some (.int .i64 l) ∧ W.cell? ⟨wr.heap.size, 3, none⟩ = some (.int .i64 c')) := Lib.hid fun W hb => by
        obtain ⟨q0, q1, q2, q3⟩ := four_cells ((hb.block _ (Array.getElem?_eq_some_iff.1 h4).1).trans h4)
        exact ⟨(hg4.below hb).cm, q0, q1, q2, q3⟩
      have HK6 : Hid (∀ V, Below w4.heap.size w4 V → ∀ W, V.grownBy W (some w2.heap.size) → W.cell? ⟨w.heap.size, 0, none⟩ = some (.slice A m.length c) ∧ W.cell? ⟨wr.heap.size, 0, none⟩ = some (.int .i64 n) ∧ W.cell? ⟨wr.heap.size, 1, none⟩ = some (.int .i64 s) ∧ W.cell? ⟨wr.heap.size, 2, none⟩ = some (.int .i64 l) ∧ W.cell? ⟨wr.heap.size, 3, none⟩ = some (.int .i64 c')) := Lib.hid fun V hb W hg => by
        obtain ⟨q0, q1, q2, q3, q4⟩ := HK.out V hb
        exact ⟨grown_cell hg q0 (by simp; omega), grown_cell hg q1 (by simp; omega), grown_cell hg q2 (by simp; omega), grown_cell hg q3 (by simp; omega), grown_cell hg q4 (by simp; omega)⟩
      have HW4 := Lib.hid hw4
      have HST := Lib.hid hst
      have HTL := Lib.hid htl
      have HOV := Lib.hid hov
      have HRL := Lib.hid hrl
      have HWL := Lib.hid hwl
      have HTT := Lib.hid ht
      have hl64 : l ≤ 64 := by omega
      have hwrap : IntKind.i64.wrap ((t : Int) + (l : Int)) = (t : Int) + (l : Int) := IntWalk.i64_in _ (by omega)
      have j1 : (0 : Int) ≤ (t : Int) := by omega
      have j2 : (t : Int) ≤ (N : Int) := by omega
      have HHF := Lib.hid (show t + Z.length ≤ R.length by rw [HWL.out, HRL.out]; omega)
      rw [HTT.out]
      have htr : ropeT m (L.take j) = ropeT m (L.take j) := rfl
      clear hown hbr hb4 hw4 hst htl hov hrl hwl hR hok hxx ho4 ht htr
      go_upto_region 8 with fail
      rw [HW4.out]
      obtain ⟨c3, d0, d1, d2, d3⟩ := HK.out w4.drew (Below.refl _ _).drew
      clear h4 hg4 e0 e1 e2 e3
      rcases (show t = N ∨ t < N by omega) with htn | htn
      · subst htn
        have HHN := Lib.hid (show l = Nat.min l 0 by show l = min l 0; omega)
        have HHP : Hid (0 < Z.length → ((some ⟨w2.heap.size, 0, none⟩) : Option Addr) = some ⟨w2.heap.size, t, none⟩) := Lib.hid (fun h0 => by rw [HWL.out] at h0; omega)
        go_wp2_with fail
        go_region_held3 (fun W => W.cell? ⟨w.heap.size, 0, none⟩ = some (.slice A m.length c) ∧ W.cell? ⟨wr.heap.size, 0, none⟩ = some (.int .i64 n) ∧ W.cell? ⟨wr.heap.size, 1, none⟩ = some (.int .i64 s) ∧ W.cell? ⟨wr.heap.size, 2, none⟩ = some (.int .i64 l) ∧ W.cell? ⟨wr.heap.size, 3, none⟩ = some (.int .i64 c'))
          (first | (with_reducible exact ⟨c3, d0, d1, d2, d3⟩) | (with_reducible exact HK.out _ hc5) | (with_reducible exact hk6))
          (first | (go_at_call 80; (with_reducible refine (HS.out w4.drew hc4).mono ?_); rintro e w5 ⟨⟨⟨b5, o5, p5⟩, hbb5, hsp5, rfl, hrd5⟩, hb5⟩; obtain rfl : p5 = none := hsp5; have hc5 : Below w4.heap.size w4 w5 := ⟨hb5.os, hb5.tape, hb5.output, hb5.size, hb5.block⟩; have HO5 := Lib.hid (own_below (w := w4.drew) HO4.out hb5); have HS5 : Hid (0 < Z.length → ∃ ad, (some (⟨b5, o5, none⟩ : Addr)) = some ad ∧ ∀ q v, (intV .u8 Z)[q]? = some v → w5.cell? (ad.add q) = some v) := Lib.hid fun _ => ⟨_, rfl, rd_cells (hrd5.below hb5)⟩) | (refine step_copy_row0 (by rfl) _ _ 41 41 (by rfl) Try.underlying41 hszu (some ⟨w2.heap.size, 0, none⟩) (some ⟨b5, o5, none⟩) (0) (0) l c' (by rfl) (by rfl) w2.heap.size w2.heap.size t R HO5.out t Z l HWL.out HHN.out HHP.out HHF.out HS5.out ?_; intro w6 hown6 hg6; have hc6 : Below w0.heap.size w0 w6 := (hc4'.trans (hc5.mono hc4'.size)).grown hg6 (Nat.le_trans hc4'.size hc5.size) (fun g e => by injection e with e; omega); have hk6 := HK6.out w5 hc5 w6 hg6))
        have HO6 : Hid (w6.ownsRow w2.heap.size 5 1 (.slice (some ⟨w2.heap.size, 0, none⟩) t t) t (intV .u8 (ropeT m (L.take (j + 1)) ++ List.replicate (t - (ropeT m (L.take (j + 1))).length) 0))) := Lib.hid (by
          rw [HRL.out, HOV.out] at hown6
          rw [HST.out, HTL.out]
          exact hown6)
        have HC6 := Lib.hid hc6
        clear hown6 hg6 hc6 hk6 hc5 hb5 c3 d0 d1 d2 d3
        go_wp2_with fail
        go_roundw
        case rel => exact ⟨j + 1, by omega, by go_num, by rw [HST.out, HTL.out]; go_num, HO6.out, HC6.out⟩
        case measure => simp [intOf]; omega
      · have hNt : ¬ N = t := by omega
        have HHN := Lib.hid (show l = Nat.min l (N - t) by show l = min l (N - t); omega)
        go_wp2_with fail
        go_region_held3 (fun W => W.cell? ⟨w.heap.size, 0, none⟩ = some (.slice A m.length c) ∧ W.cell? ⟨wr.heap.size, 0, none⟩ = some (.int .i64 n) ∧ W.cell? ⟨wr.heap.size, 1, none⟩ = some (.int .i64 s) ∧ W.cell? ⟨wr.heap.size, 2, none⟩ = some (.int .i64 l) ∧ W.cell? ⟨wr.heap.size, 3, none⟩ = some (.int .i64 c'))
          (first | (with_reducible exact ⟨c3, d0, d1, d2, d3⟩) | (with_reducible exact HK.out _ hc5) | (with_reducible exact hk6))
          (first | (go_at_call 80; (with_reducible refine (HS.out w4.drew hc4).mono ?_); rintro e w5 ⟨⟨⟨b5, o5, p5⟩, hbb5, hsp5, rfl, hrd5⟩, hb5⟩; obtain rfl : p5 = none := hsp5; have hc5 : Below w4.heap.size w4 w5 := ⟨hb5.os, hb5.tape, hb5.output, hb5.size, hb5.block⟩; have HO5 := Lib.hid (own_below (w := w4.drew) HO4.out hb5); have HS5 : Hid (0 < Z.length → ∃ ad, (some (⟨b5, o5, none⟩ : Addr)) = some ad ∧ ∀ q v, (intV .u8 Z)[q]? = some v → w5.cell? (ad.add q) = some v) := Lib.hid fun _ => ⟨_, rfl, rd_cells (hrd5.below hb5)⟩) | (refine step_copy_row0 (by rfl) _ _ 41 41 (by rfl) Try.underlying41 hszu (some ⟨w2.heap.size, t, none⟩) (some ⟨b5, o5, none⟩) (N - t) (N - t) l c' (by rfl) (by rfl) w2.heap.size w2.heap.size N R HO5.out t Z l HWL.out HHN.out (fun _ => rfl) HHF.out HS5.out ?_; intro w6 hown6 hg6; have hc6 : Below w0.heap.size w0 w6 := (hc4'.trans (hc5.mono hc4'.size)).grown hg6 (Nat.le_trans hc4'.size hc5.size) (fun g e => by injection e with e; omega); have hk6 := HK6.out w5 hc5 w6 hg6))
        have HO6 : Hid (w6.ownsRow w2.heap.size 5 1 (.slice (some ⟨w2.heap.size, 0, none⟩) N N) N (intV .u8 (ropeT m (L.take (j + 1)) ++ List.replicate (N - (ropeT m (L.take (j + 1))).length) 0))) := Lib.hid (by
          rw [HRL.out, HOV.out] at hown6
          rw [HST.out, HTL.out]
          exact hown6)
        have HC6 := Lib.hid hc6
        clear hown6 hg6 hc6 hk6 hc5 hb5 c3 d0 d1 d2 d3
        go_wp2_with fail
        go_roundw
        case rel => exact ⟨j + 1, by omega, by go_num, by rw [HST.out, HTL.out]; go_num, HO6.out, HC6.out⟩
        case measure => simp [intOf]; omega
    · obtain rfl : j = L.length := by omega
      rw [List.take_length, HNN.out, Nat.sub_self, List.replicate_zero, List.append_nil] at hown
      have HO2 := Lib.hid (own_monoR hown (Nat.le_trans HB.out.size hlo))
      have HB4 := Lib.hid (HB.out.trans (hbr.mono HB.out.size))
      clear hown hbr
      go_wp2_with fail
      go_ret2
      exact ⟨_, rfl, by rw [HNN.out]; exact HO2.out, HB4.out⟩

set_option maxRecDepth 100000 in
theorem implRopeText_calls (A : Option Addr) (c : Nat) (m : List (List Int)) (B : Option Addr) (k : Nat) (L : List Win) (w : World) (hr : Rd2 w w.heap.size A m) (hn : m.length ≤ maxLen) (hx : RdW w w.heap.size B L) (hl : L.length ≤ maxLen) (hwa : ∀ x ∈ L, WArg x) :
    Calls Try.prog 27 #[.agg #[.slice A m.length c], .agg #[.slice B L.length k]] w fun e w' => ∃ v, e = .returned (.tuple #[v, .bool (textR m L).2]) ∧ w'.ownsRow w.heap.size 5 1 v (textR m L).1.length (intV .u8 (textR m L).1) ∧ Below w.heap.size w w' := by
  by_cases hw : Watched m L
  · rw [show textR m L = (ropeT m L, true) from if_pos hw]
    exact implRopeText_ok A c m B k L w hr hx hwa hw
  · have HV := Lib.hid (show textR m L = ([], false) from if_neg hw)
    have HLV := Lib.hid (show lengthR m L = (0, false) from if_neg hw)
    obtain ⟨w0, hw0, hb0, hg0⟩ := enterMP A m.length c B L.length k w
    have HC := Lib.hid (implRopeLength_calls A c m B k L w0 ((hr.below hb0).more hb0.size) hn ((hx.below hb0).more hb0.size) hl hwa)
    rw [HLV.out] at HC
    have HB := Lib.hid hb0
    have HW := Lib.hid hw0
    have c0 := hg0.cm
    have c1 := hg0.cp
    clear hr hx hb0 hw0 hg0 hwa hw
    go_enter Try.func27, Try.ntmps27
    go_wp2_with fail
    rw [HW.out]
    refine HC.out.mono ?_
    rintro e w2 ⟨rfl, hb2⟩
    have HB2 := Lib.hid (HB.out.trans (hb2.mono HB.out.size))
    have HO := Lib.hid (World.ownsRow_made (base := w.heap.size) (e := 5) (size := 1) w2 #[] 0 HB2.out.size (Nat.zero_le _) rfl)
    clear hb2 c0 c1
    go_wp2_with fail
    go_ret2
    exact ⟨_, by rw [HV.out]; rfl, by rw [HV.out]; exact HO.out, by have hl := HB2.out.size; (repeat (first | (with_reducible exact Below.refl _ _) | (with_reducible refine Below.drew ?_) | ((with_reducible refine Below.alloc ?_ ?hB _); case hB => (first | (with_reducible exact Nat.le_refl _) | omega | (simp; done) | (simp; omega))) | ((with_reducible refine Below.setCell ?_ ?hB _); case hB => (first | (with_reducible exact Nat.le_refl _) | omega | (simp; done) | (simp; omega))))); exact HB2.out⟩
end Go.Proofs.Ytomebbapjolnlaa
