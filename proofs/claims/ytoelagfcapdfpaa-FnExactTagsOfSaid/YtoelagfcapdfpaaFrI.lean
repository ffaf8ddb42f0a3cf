/-
  TagsOf of the program.
-/
import Derived.Test.YtoelagfcapdfpaaFrH
import Derived.Test.YtoelagfcapdfpaaCpy0
namespace Go.Proofs.Ytoelagfcapdfpaa
open Go.RowKit

theorem set_fill9 {T : List Int} {k : Nat} (hk : k < T.length) : (T.take k ++ List.replicate (T.length - k) 0).set k T[k] = T.take (k + 1) ++ List.replicate (T.length - (k + 1)) 0 := by
  have hl : (T.take k).length = k := by rw [List.length_take]; omega
  rw [List.set_append_right _ _ (by omega), hl, Nat.sub_self, show T.length - k = (T.length - (k + 1)) + 1 by omega, List.replicate_succ, List.set_cons_zero, List.take_succ_eq_append_getElem hk, List.append_assoc]
  rfl

set_option maxRecDepth 100000 in
set_option maxHeartbeats 1600000 in
theorem implTagsOf_calls (A : Option Addr) (cm : Nat) (m : List (List Int)) (x : Win) (w : World) (hr : Rd2 w w.heap.size A m) (hn : m.length ≤ maxLen) (hx : WArg x) (hz : ∀ r ∈ m, ∀ z ∈ r, IsB z) :
    Calls Try.prog 63 #[.agg #[.slice A m.length cm], .agg #[.int .i64 x.arr, .int .i64 x.start, .int .i64 x.len, .int .i64 x.cap]] w fun e w' => ∃ v, e = .returned (.tuple #[v, .bool (tagsR m x).2]) ∧ w'.ownsRow w.heap.size 5 1 v (tagsR m x).1.length (intV .u8 (tagsR m x).1) ∧ Below w.heap.size w w' := by
  obtain ⟨w0, hw0, hb0, hz0, hmw⟩ := enterMW A m.length cm x.arr x.start x.len x.cap w
  have HP := Lib.hid (implParseFrames_calls A cm m x w0 ((hr.below hb0).more hb0.size) hn hx hz)
  have HB := Lib.hid hb0
  have HR := Lib.hid hr
  have HW := Lib.hid hw0
  have HMW := Lib.hid hmw
  obtain ⟨t0, t1, t2, t3⟩ := four_cells hmw.win
  have t4 := one_cell hmw.mem
  clear hr hb0 hmw hw0 hz0 hx hz
  by_cases hm : WinOK m x
  · have hmok := hm
    obtain ⟨n, s, l, c, rfl, hnl, hlc, hsc, h1, h64, h16⟩ := hm.nat
    have HVP : Hid (parseR m ⟨n, s, l, c⟩ = ((frames (wb m n s l)).1.map (payW ⟨n, s, l, c⟩ (wb m n s l)), ((frames (wb m n s l)).2 : Int), true)) := Lib.hid (by rw [parseR, if_pos hmok]; simp only [seenL, Int.toNat_natCast])
    have HV : Hid (tagsR m ⟨n, s, l, c⟩ = ((frames (wb m n s l)).1.map (fun a => (wb m n s l).getD a 0), true)) := Lib.hid (by rw [tagsR, if_pos hmok]; simp only [seenL, Int.toNat_natCast])
    have hbl : (wb m n s l).length = l := wb_len hnl (by omega)
    have hmem := frames_mem (wb m n s l)
    have HGT : Hid (∀ a, (ha : a < l) → m[n][s + a]'(by omega) = (wb m n s l).getD a 0) := Lib.hid fun a ha => by
      rw [List.getD_eq_getElem?_getD, List.getElem?_eq_getElem (by omega), Option.getD_some, wb_get hnl (by omega) (by omega)]
    obtain ⟨B, hB⟩ : ∃ B, wb m n s l = B := ⟨_, rfl⟩
    rw [hB] at HV HVP hmem hbl HGT
    rw [HVP.out] at HP
    have hml : ∀ a ∈ (frames B).1, a < l := fun a ha => by
      have h := hmem.1 a ha
      have := frm_ge h.1
      omega
    have hd64 := hmem.2.2
    obtain ⟨ds, hds⟩ : ∃ ds, (frames B).1 = ds := ⟨_, rfl⟩
    obtain ⟨st, hst⟩ : ∃ st, (frames B).2 = st := ⟨_, rfl⟩
    rw [hds, hst] at HP
    rw [hds] at HV hml hd64
    have HML := Lib.hid hml
    obtain ⟨b, off, Ai, ci, rfl, hbb, hcell, hci, hcm, hri⟩ := HR.out.at_ hnl
    have hri0 := hri
    rcases hri0 with h | ⟨br, offr, rfl, hbr, hcr⟩
    · exfalso; have := congrArg List.length h; rw [intV_len] at this; simp only [List.length_nil] at this; omega
    have HCB : Hid (∀ a, a < l → ∀ W, Below w.heap.size w W → W.cell? ⟨b, off + n, none⟩ = some (.slice (some ⟨br, offr, none⟩) m[n].length ci) ∧ W.cell? ⟨br, offr + (s + a), none⟩ = some (.int .u8 (B.getD a 0))) := Lib.hid fun a ha W hb => by
      refine ⟨(hb.cell (p := ⟨b, off + n, none⟩) hbb).trans hcell, ?_⟩
      have h5 := hcr (s + a) (.int .u8 (m[n][s + a]'(by omega))) (by
        rw [intV, List.getElem?_map, List.getElem?_eq_getElem (by omega)]; rfl)
      rw [HGT.out a ha] at h5
      exact (hb.cell (p := ⟨br, offr + (s + a), none⟩) hbr).trans h5
    obtain ⟨ml, hml2⟩ : ∃ ml, m[n].length = ml := ⟨_, rfl⟩
    rw [hml2] at HCB hci hsc h64
    dsimp only at *
    clear hm hmok hB hmem hbl hml hds hst hri hcell hcr h1 hml2
    go_enter Try.func63, Try.ntmps63
    go_upto_region 1 with fail
    rw [HW.out]
    go_wp2_with fail
    refine HP.out.mono ?_
    rintro e w2 ⟨v2, rfl, ho2, hb2⟩
    obtain ⟨PA, pc, rfl⟩ := ho2.form
    have HRW := Lib.hid ho2.rd
    rw [List.length_map]
    have HB2 := Lib.hid (HB.out.trans (hb2.mono HB.out.size))
    have HM2 := Lib.hid (HMW.out.below hb2)
    obtain ⟨w4, hmk, ho4, hb4⟩ := make_allR ds.length (by omega) w2
    have HO4 := Lib.hid ho4
    have HB4 := Lib.hid hb4
    have i1 : (0 : Int) ≤ ds.length := by omega
    clear hb2 ho2 ho4 hb4 t0 t1 t2 t3 t4
    go_wp2_with fail
    clear hmk
    go_loopw [24] (fun i wr => ∃ k : Nat, k ≤ ds.length ∧ i = .int .i64 k ∧ wr.ownsRow w2.heap.size 5 1 (.slice (some ⟨w2.heap.size, 0, none⟩) ds.length ds.length) ds.length (intV .u8 ((ds.map (fun a => B.getD a 0)).take k ++ List.replicate ((ds.map (fun a => B.getD a 0)).length - k) 0)) ∧ Below w2.heap.size w2 wr ∧ w2.heap.size < wr.heap.size) (fun i _ => ds.length - (intOf i).toNat)
    case atStart => exact ⟨0, Nat.zero_le _, rfl, by rw [List.take_zero, List.nil_append, Nat.sub_zero, List.length_map]; exact HO4.out, HB4.out, (HO4.out.lt _ rfl).2⟩
    case round =>
      obtain ⟨k, hk, rfl, hown, hbr2, hgl⟩ := hrel
      have HO := Lib.hid hown
      have HBR := Lib.hid hbr2
      have HM := Lib.hid (HM2.out.below hbr2)
      clear hown hbr2
      by_cases hlt : k < ds.length
      · have hal := HML.out _ (List.getElem_mem hlt)
        have hkT : k < (ds.map (fun a => B.getD a 0)).length := by rw [List.length_map]; exact hlt
        have HSN := Lib.hid (set_fill9 hkT)
        obtain ⟨gp, op, rfl, hgp, y0, y1, y2, y3⟩ := (HRW.out.below HBR.out).at_ (i := k) (by rw [List.length_map]; exact hlt)
        have eT : (ds.map (fun a => B.getD a 0))[k] = B.getD ds[k] 0 := by simp
        rw [eT] at HSN
        rw [List.getElem_map] at y0 y1 y2 y3
        obtain ⟨a, ha⟩ : ∃ a, ds[k] = a := ⟨_, rfl⟩
        rw [ha] at hal y0 y1 y2 y3 HSN
        have HCA := Lib.hid (HCB.out a hal)
        obtain ⟨p, hp⟩ : ∃ p, s + a = p := ⟨_, rfl⟩
        obtain ⟨q, hq⟩ : ∃ q, p + 2 = q := ⟨_, rfl⟩
        obtain ⟨u2, hu2⟩ : ∃ u2, (payW ⟨n, s, l, c⟩ B a).len = u2 := ⟨_, rfl⟩
        obtain ⟨u3, hu3⟩ : ∃ u3, (payW ⟨n, s, l, c⟩ B a).cap = u3 := ⟨_, rfl⟩
        rw [hu2] at y2
        rw [hu3] at y3
        rw [hp] at HCA
        have y0' : wr.cell? ⟨gp, op + k * 4, none⟩ = some (.int .i64 n) := y0
        have y1' : wr.cell? ⟨gp, op + k * 4 + 1, none⟩ = some (.int .i64 q) := by
          have e : (payW ⟨n, s, l, c⟩ B a).start = (q : Int) := by
            show (s : Int) + (a + 2) = q
            omega
          rw [← e]; exact y1
        have hq2 : (q : Int) - 2 = (p : Int) := by omega
        have hwq : IntKind.i64.wrap ((q : Int) - 2) = (p : Int) := by rw [hq2]; exact IntWalk.i64_in _ (by omega)
        have j1 : (0 : Int) ≤ k := by omega
        have j2 : (k : Int) < ds.length := by omega
        have j3 : (0 : Int) ≤ n := by omega
        have j4 : (n : Int) < m.length := by omega
        have j5 : (0 : Int) ≤ p := by omega
        have j6 : (p : Int) < ml := by omega
        have j7 : p < ml := by omega
        generalize B.getD a 0 = z at *
        have HQ2 := Lib.hid hq2
        clear y0 y1 eT ha hal hu2 hu3 hp hq hq2
        obtain ⟨d0, d1, d2, d3⟩ := four_cells HM.out.win
        have c1 := one_cell HM.out.mem
        go_upto_region 6 with fail
        obtain ⟨V, hV⟩ : ∃ V, wr.alloc (.cells #[.int .i64 n, .int .i64 q, .int .i64 u2, .int .i64 u3] 33) = V := ⟨_, rfl⟩
        have hbV : Below wr.heap.size wr V := by rw [← hV]; exact (Below.refl _ _).alloc (Nat.le_refl _) _
        have hxV : V.heap[wr.heap.size]? = some (.cells #[.int .i64 n, .int .i64 q, .int .i64 u2, .int .i64 u3] 33) := by rw [← hV]; exact heap_alloc_new _ _
        rw [hV]
        have HOV := Lib.hid (own_below HO.out hbV)
        have HBRV := Lib.hid (HBR.out.trans (hbV.mono HBR.out.size))
        have hgV : w2.heap.size < V.heap.size := Nat.lt_of_lt_of_le hgl hbV.size
        have hw2 := HB2.out.size
        have hSV : V.cell? ⟨w.heap.size, 0, none⟩ = some (.slice (some ⟨b, off, none⟩) m.length cm) ∧ V.cell? ⟨wr.heap.size, 0, none⟩ = some (.int .i64 n) ∧ V.cell? ⟨wr.heap.size, 1, none⟩ = some (.int .i64 q) ∧ V.cell? ⟨b, off + n, none⟩ = some (.slice (some ⟨br, offr, none⟩) ml ci) ∧ V.cell? ⟨br, offr + p, none⟩ = some (.int .u8 z) := by
          obtain ⟨f0, f1, _, _⟩ := four_cells hxV
          have h := HCA.out V (HB2.out.trans (HBRV.out.mono HB2.out.size))
          exact ⟨one_cell (HM.out.below hbV).mem, f0, f1, h.1, h.2⟩
        have hw0' : w.heap.size < w2.heap.size := (Array.getElem?_eq_some_iff.1 HM2.out.mem).1
        have HKS : Hid (∀ u, (V.setCell ⟨w2.heap.size, k, none⟩ u).drew.cell? ⟨w.heap.size, 0, none⟩ = some (.slice (some ⟨b, off, none⟩) m.length cm) ∧ (V.setCell ⟨w2.heap.size, k, none⟩ u).drew.cell? ⟨wr.heap.size, 0, none⟩ = some (.int .i64 n) ∧ (V.setCell ⟨w2.heap.size, k, none⟩ u).drew.cell? ⟨wr.heap.size, 1, none⟩ = some (.int .i64 q) ∧ (V.setCell ⟨w2.heap.size, k, none⟩ u).drew.cell? ⟨b, off + n, none⟩ = some (.slice (some ⟨br, offr, none⟩) ml ci) ∧ (V.setCell ⟨w2.heap.size, k, none⟩ u).drew.cell? ⟨br, offr + p, none⟩ = some (.int .u8 z)) := Lib.hid fun u => by
          obtain ⟨e0, e1, e2, e3, e4⟩ := hSV
          have hh : ∀ (x : Addr), x.block ≠ w2.heap.size → (V.setCell ⟨w2.heap.size, k, none⟩ u).drew.cell? x = V.cell? x := fun x hx => World.cell?_setCell_other V _ _ _ (fun e => hx (by rw [← e]))
          exact ⟨(hh _ (by show w.heap.size ≠ _; omega)).trans e0, (hh _ (by show wr.heap.size ≠ _; omega)).trans e1, (hh _ (by show wr.heap.size ≠ _; omega)).trans e2, (hh _ (by show b ≠ _; omega)).trans e3, (hh _ (by show br ≠ _; omega)).trans e4⟩
        have hcd : V.drew.frozen? ⟨w2.heap.size, k, none⟩ = false := HOV.out.frozenAt k
        obtain ⟨u, hcu⟩ : ∃ u, V.drew.cell? ⟨w2.heap.size, k, none⟩ = some u := ⟨_, (HOV.out.cellAt k (by have := HOV.out.1; omega)).trans (List.getElem?_eq_getElem (by have := HOV.out.1; omega))⟩
        have HSTO := Lib.hid (HOV.out.stored k (.int .u8 z)).1
        have hSd : V.drew.cell? ⟨w.heap.size, 0, none⟩ = some (.slice (some ⟨b, off, none⟩) m.length cm) ∧ V.drew.cell? ⟨wr.heap.size, 0, none⟩ = some (.int .i64 n) ∧ V.drew.cell? ⟨wr.heap.size, 1, none⟩ = some (.int .i64 q) ∧ V.drew.cell? ⟨b, off + n, none⟩ = some (.slice (some ⟨br, offr, none⟩) ml ci) ∧ V.drew.cell? ⟨br, offr + p, none⟩ = some (.int .u8 z) := hSV
        obtain ⟨e0, e1, e2, e3, e4⟩ := hSd
        clear c1 d0 d1 d2 d3 hV hbV hxV hSV y0' y1' y2 y3
        go_region_held3 (fun W => W.cell? ⟨w.heap.size, 0, none⟩ = some (.slice (some ⟨b, off, none⟩) m.length cm) ∧ W.cell? ⟨wr.heap.size, 0, none⟩ = some (.int .i64 n) ∧ W.cell? ⟨wr.heap.size, 1, none⟩ = some (.int .i64 q) ∧ W.cell? ⟨b, off + n, none⟩ = some (.slice (some ⟨br, offr, none⟩) ml ci) ∧ W.cell? ⟨br, offr + p, none⟩ = some (.int .u8 z))
          (first | (with_reducible exact ⟨e0, e1, e2, e3, e4⟩) | (with_reducible exact HKS.out _))
          (fail)
        go_wp2_with fail
        refine ⟨⟨k + 1, by omega, by go_num, ?_, ?_, ?_⟩, by simp [intOf]; omega⟩
        · rw [← HSN.out]
          have e : ∀ X : List Int, intV .u8 (X.set k z) = (intV .u8 X).set k (.int .u8 z) := fun X => by simp [intV]
          rw [e]
          exact HSTO.out
        · exact (HBRV.out.setCell (p := ⟨w2.heap.size, k, none⟩) (Nat.le_refl _) _).drew
        · show w2.heap.size < (V.setCell ⟨w2.heap.size, k, none⟩ (.int .u8 z)).heap.size
          rw [World.size_setCell]
          exact hgV
      · obtain rfl : k = ds.length := by omega
        have HT : Hid ((ds.map (fun a => B.getD a 0)).take ds.length ++ List.replicate ((ds.map (fun a => B.getD a 0)).length - ds.length) 0 = ds.map (fun a => B.getD a 0)) := Lib.hid (by
          rw [List.length_map, Nat.sub_self, List.take_of_length_le (by simp)]; simp)
        rw [HT.out] at HO
        have HBE := Lib.hid (HB2.out.trans (HBR.out.mono HB2.out.size))
        have hl2 := HB2.out.size
        go_wp2_with fail
        exact bodyPost_ret (v := .tuple #[.slice (some ⟨w2.heap.size, 0, none⟩) ds.length ds.length, .bool true]) (by simp [results, Try.results63, go_sem]) rfl ⟨_, by rw [HV.out], by rw [HV.out, List.length_map]; exact own_monoR HO.out hl2, HBE.out⟩
  · have HVP : Hid (parseR m x = ([], 0, false)) := Lib.hid (by rw [parseR, if_neg hm])
    have HV : Hid (tagsR m x = ([], false)) := Lib.hid (by rw [tagsR, if_neg hm])
    rw [HVP.out] at HP
    clear hm
    go_enter Try.func63, Try.ntmps63
    go_upto_region 1 with fail
    rw [HW.out]
    go_wp2_with fail
    refine HP.out.mono ?_
    rintro e w2 ⟨v2, rfl, ho2, hb2⟩
    obtain ⟨PA, pc, rfl⟩ := ho2.form
    have HB2 := Lib.hid (HB.out.trans (hb2.mono HB.out.size))
    rw [List.length_nil]
    obtain ⟨w4, hmk, ho4, hb4⟩ := make_allR 0 (by omega) w2
    have HO4 := Lib.hid ho4
    have HB4 := Lib.hid (HB2.out.trans (hb4.mono HB2.out.size))
    have hl2 := HB2.out.size
    have hmk2 : (Instr.makeSlice 64 (.int .i64 0) (.int .i64 0)).run Try.prog w2 = .ok (.slice (some ⟨w2.heap.size, 0, none⟩) 0 0) w4 := hmk
    clear hb2 ho2 ho4 hb4 t0 t1 t2 t3 t4 hmk
    go_wp2_with fail
    clear hmk2
    go_loopw [24] (fun i wr => i = .int .i64 0 ∧ wr = w4) (fun _ _ => 0)
    case atStart => exact ⟨rfl, by first | rfl | trivial⟩
    case round =>
      obtain ⟨rfl, rfl⟩ := hrel
      go_wp2_with fail
      exact bodyPost_ret (v := .tuple #[.slice (some ⟨w2.heap.size, 0, none⟩) 0 0, .bool false]) (by simp [results, Try.results63, go_sem]) rfl ⟨_, by rw [HV.out], by rw [HV.out]; exact own_monoR HO4.out hl2, HB4.out⟩
end Go.Proofs.Ytoelagfcapdfpaa
