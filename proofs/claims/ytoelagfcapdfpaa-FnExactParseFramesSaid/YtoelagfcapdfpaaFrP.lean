/-
  ParseFrames of the model.
-/
import Derived.Test.YtoelagfcapdfpaaFrG
import Derived.Test.YtoelagfcapdfpaaFrH
namespace Go.Proofs.Ytoelagfcapdfpaa
open Go.RowKit

set_option maxRecDepth 100000 in
set_option maxHeartbeats 1600000 in
theorem specPayload9_calls (A : Option Addr) (cm : Nat) (m : List (List Int)) (n s l : Nat) (c : Int) (a : Nat) (w : World) (hr : Rd2 w w.heap.size A m) (hn : n < m.length) (h16 : m.length ≤ 16) (hsl : s + l ≤ m[n].length) (h64 : m[n].length ≤ 64) (hz : ∀ r ∈ m, ∀ z ∈ r, IsB z) (hf : frm ((wb m n s l).drop a) ≠ 0) (ha : a + frm ((wb m n s l).drop a) ≤ l) :
    Calls Try.prog 94 #[.agg #[.slice A m.length cm], .agg #[.int .i64 n, .int .i64 s, .int .i64 l, .int .i64 c], .int .i64 a] w fun e w' => e = .returned (.agg #[.int .i64 n, .int .i64 (s + (a + 2)), .int .i64 ((frm ((wb m n s l).drop a) : Int) - 3), .int .i64 ((frm ((wb m n s l).drop a) : Int) - 3)]) ∧ Below w.heap.size w w' := by
  obtain ⟨w0, hw0, hb0, hz0, hmw⟩ := enterMWR A m.length cm n s l c w
  have hge := frm_ge hf
  have HF := Lib.hid (specFrame9_calls A cm m n s l c a w0 ((hr.below hb0).more hb0.size) hn h16 hsl h64 hz (by omega))
  generalize frm ((wb m n s l).drop a) = f at *
  have HB := Lib.hid hb0
  have HW := Lib.hid hw0
  have HMW := Lib.hid hmw
  obtain ⟨t0, t1, t2, t3⟩ := four_cells hmw.mw.win
  have t4 := one_cell hmw.mw.mem
  have HSL : Hid (∀ W, Calls Try.prog 98 #[.agg #[.int .i64 n, .int .i64 s, .int .i64 l, .int .i64 c], .int .i64 (a + 2), .int .i64 (a + f - 1), .int .i64 (a + f - 1)] W fun e w' => e = .returned (.agg #[.int .i64 n, .int .i64 (s + (a + 2)), .int .i64 (f - 3), .int .i64 (f - 3)]) ∧ Below W.heap.size W w') := Lib.hid fun W => by
    have h := specSlice_calls n s l c (a + 2) (a + f - 1) (a + f - 1) W (by omega) (by omega) (by omega) (by omega)
    rw [show (a : Int) + f - 1 - (a + 2) = f - 3 by omega] at h
    exact h
  have i1 : (0 : Int) ≤ a := by omega
  have i2 : (a : Int) ≤ 64 := by omega
  have i3 : (3 : Int) ≤ f := by omega
  have i4 : (f : Int) ≤ 64 := by omega
  have hs0 : w.heap.size + 3 ≤ w0.heap.size := by omega
  clear hr hb0 hmw hw0 hz hf hz0
  go_enter Try.func94, Try.ntmps94
  go_upto_region 1 with fail
  rw [HW.out]
  go_wp2_with fail
  refine HF.out.mono ?_
  rintro e w2 ⟨rfl, hb2⟩
  have HB2 := Lib.hid (HB.out.trans (hb2.mono HB.out.size))
  have HM2 := Lib.hid (HMW.out.below hb2)
  obtain ⟨d0, d1, d2, d3⟩ := four_cells HM2.out.mw.win
  have hs2 := hb2.size
  clear hb2 t0 t1 t2 t3 t4
  go_wp2_with fail
  refine (HSL.out w2).mono ?_
  rintro e w3 ⟨rfl, hb3⟩
  have HB3 := Lib.hid (HB2.out.trans (hb3.mono HB2.out.size))
  have HM3 := Lib.hid (HM2.out.below hb3)
  obtain ⟨q0, q1, q2, q3⟩ := four_cells HM3.out.res
  obtain ⟨f0, f1, f2, f3⟩ := four_frozen HM3.out.res
  have HST := Lib.hid (four_set (v0 := .int .i64 n) (v1 := .int .i64 (s + (a + 2))) (v2 := .int .i64 (f - 3)) (v3 := .int .i64 (f - 3)) HM3.out.res)
  clear hb3 d0 d1 d2 d3
  go_wp2_with fail
  obtain ⟨r0, r1, r2, r3⟩ := four_cells HST.out
  refine bodyPost_ret (v := .agg #[.int .i64 n, .int .i64 (s + (a + 2)), .int .i64 (f - 3), .int .i64 (f - 3)]) (by simp [results, Try.results94, go_sem, r0, r1, r2, r3]) rfl ⟨rfl, ?_⟩
  exact (((HB3.out.setCell (p := ⟨w.heap.size + 1 + 1, 0, none⟩) (show w.heap.size ≤ w.heap.size + 1 + 1 by omega) _).setCell (p := ⟨w.heap.size + 1 + 1, 1, none⟩) (show w.heap.size ≤ w.heap.size + 1 + 1 by omega) _).setCell (p := ⟨w.heap.size + 1 + 1, 2, none⟩) (show w.heap.size ≤ w.heap.size + 1 + 1 by omega) _).setCell (p := ⟨w.heap.size + 1 + 1, 3, none⟩) (show w.heap.size ≤ w.heap.size + 1 + 1 by omega) _
theorem wins_grow {w6 w7 : World} {g gb k b0 : Nat} {A : Option Addr} {n c : Nat} {a1 s1 l1 c1 : Int} {ds : List Nat} {v u0 u1 u2 u3 : Value} {xs : List Value} (hM : MW w6 g A n c a1 s1 l1 c1) (hN : NatRow w6 gb ds) (hO : w6.ownsRow b0 33 4 v k xs)
    (hg : (w6.alloc (.cells #[u0, u1, u2, u3] 33)).grownBy w7 v.ownBlock) (hb : g + 1 < b0) : MW w7 g A n c a1 s1 l1 c1 ∧ NatRow w7 gb ds := by
  have ha := hO.alloc (.cells #[u0, u1, u2, u3] 33)
  refine ⟨⟨block_base ha hg (alloc_old _ hM.mem) (by omega), block_base ha hg (alloc_old _ hM.win) (by omega)⟩, ?_⟩
  obtain ⟨cs, hh, hc⟩ := hN
  have h3 := alloc_old (.cells #[u0, u1, u2, u3] 33) hh
  exact ⟨cs, block_grown hg h3 (ne_some (own_far ha h3 (by decide))), hc⟩

set_option maxRecDepth 100000 in
set_option maxHeartbeats 3200000 in
theorem specParseFrames_calls (A : Option Addr) (cm : Nat) (m : List (List Int)) (x : Win) (w : World) (hr : Rd2 w w.heap.size A m) (hn : m.length ≤ maxLen) (hz : ∀ r ∈ m, ∀ z ∈ r, IsB z) :
    Calls Try.prog 57 #[.agg #[.slice A m.length cm], .agg #[.int .i64 x.arr, .int .i64 x.start, .int .i64 x.len, .int .i64 x.cap]] w fun e w' => ∃ v, e = .returned (.tuple #[v, .int .i64 (parseR m x).2.1, .bool (parseR m x).2.2]) ∧ OwnW w' w.heap.size w'.heap.size v (parseR m x).1 ∧ Below w.heap.size w w' := by
  obtain ⟨w0, hw0, hb0, hz0, hmw⟩ := enterMW A m.length cm x.arr x.start x.len x.cap w
  obtain ⟨i0, hi0, hy, hy1, hy2⟩ := info_parts info_win9
  obtain ⟨w3, hw3⟩ : ∃ w3, w0.alloc (.cells #[] 33) = w3 := ⟨_, rfl⟩
  have hb3 : Below w0.heap.size w0 w3 := by rw [← hw3]; exact (Below.refl _ _).alloc (Nat.le_refl _) _
  have HB3 := Lib.hid (hb0.trans (hb3.mono hb0.size))
  have HO3 : Hid (WRow w3 (w.heap.size + 2) (.slice (some ⟨w0.heap.size, 0, none⟩) 0 0) 0 []) := Lib.hid (by rw [← hw3]; exact WRow.made w0 (by omega))
  have HMW := Lib.hid (hmw.below hb3)
  have HC := Lib.hid (specWindow_calls A cm m x w3 ((hr.below HB3.out).more HB3.out.size) hn)
  unfold Win.val at HC
  have HR := Lib.hid hr
  have hs0 : w0.heap.size = w.heap.size + 1 + 1 := by omega
  rw [← hw0] at hw3
  have HW := Lib.hid hw3
  rw [hs0] at HO3
  obtain ⟨t0, t1, t2, t3⟩ := four_cells HMW.out.win
  have t4 := one_cell HMW.out.mem
  clear hr hb0 hmw hw0 hw3 hb3 hs0
  go_enter Try.func57, Try.ntmps57
  go_upto_region 2 with fail
  rw [HW.out]
  go_wp2_with fail
  refine HC.out.mono ?_
  rintro e w4 ⟨rfl, hb4⟩
  have HB4 := Lib.hid (HB3.out.trans (hb4.mono HB3.out.size))
  have HO4 := Lib.hid (HO3.out.below hb4)
  have hs4 : w.heap.size + 2 ≤ w4.heap.size := by have := hb4.size; obtain ⟨_, cs, h, _⟩ := HO3.out; have := (h.lt _ rfl).1; have := (h.lt _ rfl).2; omega
  have HM4 := Lib.hid (HMW.out.below hb4)
  clear hb4 t0 t1 t2 t3 t4
  by_cases hm : WinOK m x
  · rw [show decide (WinOK m x) = true from decide_eq_true hm]
    have hmok := hm
    obtain ⟨n, s, l, c, rfl, hnl, hlc, hsc, h1, h64, h16⟩ := hm.nat
    have HV : Hid (parseR m ⟨n, s, l, c⟩ = ((frames (wb m n s l)).1.map (payW ⟨n, s, l, c⟩ (wb m n s l)), ((frames (wb m n s l)).2 : Int), true)) := Lib.hid (by rw [parseR, if_pos hmok]; simp only [seenL, Int.toNat_natCast])
    have hbl : (wb m n s l).length = l := wb_len hnl (by omega)
    have HFR := Lib.hid (specFrames9_calls A cm m n s l c w4 ((HR.out.below HB4.out).more HB4.out.size) hnl h16 (by omega) h64 hz)
    have hmem := frames_mem (wb m n s l)
    have HAT : Hid (∀ (a : Nat), frm ((wb m n s l).drop a) ≠ 0 → a + frm ((wb m n s l).drop a) ≤ l → ∀ W, Below w.heap.size w W → Calls Try.prog 94 #[.agg #[.slice A m.length cm], .agg #[.int .i64 n, .int .i64 s, .int .i64 l, .int .i64 c], .int .i64 a] W fun e w' => e = .returned (.agg #[.int .i64 n, .int .i64 (s + (a + 2)), .int .i64 ((frm ((wb m n s l).drop a) : Int) - 3), .int .i64 ((frm ((wb m n s l).drop a) : Int) - 3)]) ∧ Below W.heap.size W w') := Lib.hid fun a hf ha W hb => specPayload9_calls A cm m n s l c a W ((HR.out.below hb).more hb.size) hnl h16 (by omega) h64 hz hf ha
    obtain ⟨B, hB⟩ : ∃ B, wb m n s l = B := ⟨_, rfl⟩
    rw [hB] at HV HFR hmem hbl HAT
    have hml : ∀ a ∈ (frames B).1, frm (B.drop a) ≠ 0 ∧ a + frm (B.drop a) ≤ l := fun a ha => by
      have h := hmem.1 a ha
      rw [hbl] at h
      exact h
    have hd64 := hmem.2.2
    obtain ⟨ds, hds⟩ : ∃ ds, (frames B).1 = ds := ⟨_, rfl⟩
    obtain ⟨st, hst⟩ : ∃ st, (frames B).2 = st := ⟨_, rfl⟩
    rw [hds, hst] at HV HFR
    rw [hds] at hml hd64
    have HML := Lib.hid hml
    dsimp only at *
    clear hm hmok hB hmem hbl hml hds hst hz
    obtain ⟨c1, d0, d1, d2, d3⟩ := (show w4.cell? ⟨w.heap.size, 0, none⟩ = some (.slice A m.length cm) ∧ w4.cell? ⟨w.heap.size + 1, 0, none⟩ = some (.int .i64 n) ∧ w4.cell? ⟨w.heap.size + 1, 1, none⟩ = some (.int .i64 s) ∧ w4.cell? ⟨w.heap.size + 1, 2, none⟩ = some (.int .i64 l) ∧ w4.cell? ⟨w.heap.size + 1, 3, none⟩ = some (.int .i64 c) from ⟨one_cell HM4.out.mem, four_cells HM4.out.win⟩)
    go_wp2_with fail
    refine HFR.out.mono ?_
    rintro e w5 ⟨gb, kb, rfl, hob, hb5⟩
    have HNB := Lib.hid (NatRow.of_own hob)
    have HB5 := Lib.hid (HB4.out.trans (hb5.mono HB4.out.size))
    have HO5 := Lib.hid (HO4.out.below hb5)
    have hs5 := Nat.le_trans hs4 hb5.size
    have HM5 := Lib.hid (HM4.out.below hb5)
    clear hob hb5 c1 d0 d1 d2 d3
    go_wp2_with fail
    go_loopw [7, 10] (fun v i wr => ∃ k g cap : Nat, k ≤ ds.length ∧ v = .slice (some ⟨g, 0, none⟩) k cap ∧ i = .int .i64 k ∧ WRow wr (w.heap.size + 2) (.slice (some ⟨g, 0, none⟩) k cap) k ((ds.map (payW ⟨n, s, l, c⟩ B)).take k) ∧ Below w.heap.size w wr ∧ MW wr w.heap.size A m.length cm n s l c ∧ NatRow wr gb ds) (fun _ i _ => ds.length - (intOf i).toNat)
    case atStart => exact ⟨0, _, _, Nat.zero_le _, rfl, rfl, by rw [List.take_zero]; exact HO5.out, HB5.out, HM5.out, HNB.out⟩
    case round =>
      obtain ⟨k, g, cap, hk, rfl, rfl, hown, hbr, hmw, hnr⟩ := hrel
      have HO := Lib.hid hown
      have HBR := Lib.hid hbr
      have HM := Lib.hid hmw
      have HN := Lib.hid hnr
      clear hown hbr hmw hnr
      by_cases hlt : k < ds.length
      · have hmk := HML.out _ (List.getElem_mem hlt)
        have HATk := Lib.hid (HAT.out ds[k] hmk.1 hmk.2)
        have hge := frm_ge hmk.1
        have HTK : Hid ((ds.map (payW ⟨n, s, l, c⟩ B)).take (k + 1) = (ds.map (payW ⟨n, s, l, c⟩ B)).take k ++ [⟨n, s + (ds[k] + 2), (frm (B.drop ds[k]) : Int) - 3, (frm (B.drop ds[k]) : Int) - 3⟩]) := Lib.hid (by
          rw [List.take_succ_eq_append_getElem (by simpa using hlt), List.getElem_map]
          rfl)
        have hsr : w.heap.size + 2 ≤ wr.heap.size := by
          obtain ⟨_, cs, h, _⟩ := HO.out
          have := h.lt g rfl
          omega
        clear hmk
        have HS : Hid (∀ W, Below wr.heap.size wr W → W.cell? ⟨w.heap.size, 0, none⟩ = some (.slice A m.length cm) ∧ W.cell? ⟨w.heap.size + 1, 0, none⟩ = some (.int .i64 n) ∧ W.cell? ⟨w.heap.size + 1, 1, none⟩ = some (.int .i64 s) ∧ W.cell? ⟨w.heap.size + 1, 2, none⟩ = some (.int .i64 l) ∧ W.cell? ⟨w.heap.size + 1, 3, none⟩ = some (.int .i64 c) ∧ W.cell? ⟨gb, k, none⟩ = some (.int .i64 ds[k])) := Lib.hid fun W hb => by
          have h := HM.out.below hb
          obtain ⟨d0, d1, d2, d3⟩ := four_cells h.win
          exact ⟨one_cell h.mem, d0, d1, d2, d3, (HN.out.below hb).cell hlt⟩
        have HS7 : Hid (∀ W, MW W w.heap.size A m.length cm n s l c → NatRow W gb ds → W.cell? ⟨w.heap.size, 0, none⟩ = some (.slice A m.length cm) ∧ W.cell? ⟨w.heap.size + 1, 0, none⟩ = some (.int .i64 n) ∧ W.cell? ⟨w.heap.size + 1, 1, none⟩ = some (.int .i64 s) ∧ W.cell? ⟨w.heap.size + 1, 2, none⟩ = some (.int .i64 l) ∧ W.cell? ⟨w.heap.size + 1, 3, none⟩ = some (.int .i64 c) ∧ W.cell? ⟨gb, k, none⟩ = some (.int .i64 ds[k])) := Lib.hid fun W h hq => by
          obtain ⟨d0, d1, d2, d3⟩ := four_cells h.win
          exact ⟨one_cell h.mem, d0, d1, d2, d3, hq.cell hlt⟩
        have i1 : (0 : Int) ≤ k := by omega
        have i2 : (k : Int) < ds.length := by omega
        generalize ds[k] = a at *
        generalize frm (B.drop a) = f at *
        have hc0 : Below wr.heap.size wr wr.drew := (Below.refl _ _).drew
        have hzr := HBR.out.size
        have i3 : (3 : Int) ≤ f := by omega
        have i4 : (f : Int) ≤ 64 := by omega
        obtain ⟨e0, e1, e2, e3, e4, e5⟩ := HS.out wr.drew hc0
        go_upto_region 8 with fail
        go_region_held3 (fun W => W.cell? ⟨w.heap.size, 0, none⟩ = some (.slice A m.length cm) ∧ W.cell? ⟨w.heap.size + 1, 0, none⟩ = some (.int .i64 n) ∧ W.cell? ⟨w.heap.size + 1, 1, none⟩ = some (.int .i64 s) ∧ W.cell? ⟨w.heap.size + 1, 2, none⟩ = some (.int .i64 l) ∧ W.cell? ⟨w.heap.size + 1, 3, none⟩ = some (.int .i64 c) ∧ W.cell? ⟨gb, k, none⟩ = some (.int .i64 a))
          (first | (with_reducible exact ⟨e0, e1, e2, e3, e4, e5⟩) | (with_reducible exact HS.out _ hc1) | (with_reducible exact HS.out _ hcA) | (with_reducible exact HS7.out _ HM7.out HN7.out))
          (first | (go_at_call 94; (with_reducible refine (HATk.out _ (HBR.out.trans (hc0.mono hzr))).mono ?_); rintro e w6 ⟨rfl, hb6⟩; have hc1 := hc0.trans (hb6.mono hc0.size); have hcA : Below wr.heap.size wr (w6.alloc (.cells #[.int .i64 n, .int .i64 (s + (a + 2)), .int .i64 (f - 3), .int .i64 (f - 3)] 33)) := hc1.alloc hc1.size _; have hOp6 := HO.out.below hc1; obtain ⟨hl6, cs6, ho6, hwc6⟩ := hOp6; have HO6 := Lib.hid ho6; have HM6 := Lib.hid (HM.out.below hc1); have HN6 := Lib.hid (HN.out.below hc1); have hz6 : w.heap.size + 2 ≤ w6.heap.size := Nat.le_trans hsr hc1.size) | (refine step_append_ring rfl (.tmp 29) (.tmp 37) 71 rfl (w.heap.size + 2) 33 i0 _ 4 32 Try.underlying71 hi0 hy hy1 hy2 rfl (by decide) (.slice (some ⟨g, 0, none⟩) k cap) k _ (by simp [Act.eval]) (HO6.out.alloc _) ⟨w6.heap.size, 0, none⟩ 1 1 [.int .i64 n, .int .i64 (s + (a + 2)), .int .i64 (f - 3), .int .i64 (f - 3)] (by simp [Act.eval]) rfl (cell_four9 _ _ _ _ _ _) (by simp [Value.oneCell']) (by simp only [maxLen]; omega) (by omega) (by simp; omega) ?_; intro v7 w7 hown7 hgrow7; have HMN7 := wins_grow HM6.out HN6.out HO6.out hgrow7 (by omega); have HM7 := Lib.hid HMN7.1; have HN7 := Lib.hid HMN7.2))
        have hOA := HO6.out.alloc (.cells #[.int .i64 n, .int .i64 (s + (a + 2)), .int .i64 (f - 3), .int .i64 (f - 3)] 33)
        have HB7 : Hid (Below w.heap.size w w7) := Lib.hid (((HBR.out.trans (hc1.mono hzr)).alloc (by omega) _).grown hgrow7 (by simp; omega) (fun j hj => by have := (hOA.lt j hj).1; omega))
        have HO7 : Hid (WRow w7 (w.heap.size + 2) v7 (k + 1) ((ds.map (payW ⟨n, s, l, c⟩ B)).take (k + 1))) := Lib.hid ⟨by rw [HTK.out, List.length_append, hl6]; rfl, _, hown7, by
          rw [HTK.out]
          exact WC.snoc9 hwc6 (by rw [hl6]; exact ho6.1) ⟨n, s + (a + 2), f - 3, f - 3⟩⟩
        obtain ⟨g7, k7, rfl⟩ := own_some0 hown7 (by omega)
        clear HMN7 hOA hl6 ho6 hwc6 hb6 hc0 hc1 hcA hown7 hgrow7 e0 e1 e2 e3 e4 e5
        go_wp2_with fail
        go_roundw
        case rel => exact ⟨k + 1, g7, k7, by omega, rfl, by go_num, HO7.out, HB7.out, HM7.out, HN7.out⟩
        case measure => simp [intOf]; omega
      · obtain rfl : k = ds.length := by omega
        have HL : Hid ((ds.map (payW ⟨n, s, l, c⟩ B)).take ds.length = ds.map (payW ⟨n, s, l, c⟩ B)) := Lib.hid (List.take_of_length_le (by simp))
        rw [HL.out] at HO
        go_wp2_with fail
        exact bodyPost_ret (v := .tuple #[.slice (some ⟨g, 0, none⟩) ds.length cap, .int .i64 st, .bool true]) (by simp [results, Try.results57, go_sem]) rfl ⟨_, by rw [HV.out], by rw [HV.out]; exact HO.out.own (by omega), HBR.out⟩
  · rw [show decide (WinOK m x) = false from decide_eq_false hm]
    have HV : Hid (parseR m x = ([], 0, false)) := Lib.hid (by rw [parseR, if_neg hm])
    clear hm
    go_wp2_with fail
    exact bodyPost_ret (v := .tuple #[.slice (some ⟨w.heap.size + 1 + 1, 0, none⟩) 0 0, .int .i64 0, .bool false]) (by simp [results, Try.results57, go_sem]) rfl ⟨_, by rw [HV.out], by rw [HV.out]; exact HO4.out.own (by omega), HB4.out⟩
end Go.Proofs.Ytoelagfcapdfpaa
