/-
  TakeSnapshot of impl.
-/
import Derived.Test.YtomgjhdknondmabSnapS
import Derived.Test.YtomgjhdknondmabCopyL
import Derived.Test.YtomgjhdknondmabCopyM
namespace Go.Proofs.Ytomgjhdknondmab
open Go.RowKit

theorem make_all9 (n : Nat) (hn : n ≤ 1000) : ∃ mk : World → World, ∀ W, (Instr.makeSlice 52 (.int .i64 n) (.int .i64 n)).run Try.prog W = .ok (.slice (some ⟨W.heap.size, 0, none⟩) n n) (mk W) ∧ (mk W).ownsRow W.heap.size 5 1 (.slice (some ⟨W.heap.size, 0, none⟩) n n) n (intV .u8 (List.replicate n 0)) ∧ Below W.heap.size W (mk W) := by
  obtain ⟨i1, hi1, hy0, hy1, hy2⟩ := info_parts info_u8
  suffices h : ∀ W, ∃ w4 : World, (Instr.makeSlice 52 (.int .i64 n) (.int .i64 n)).run Try.prog W = .ok (.slice (some ⟨W.heap.size, 0, none⟩) n n) w4 ∧ w4.ownsRow W.heap.size 5 1 (.slice (some ⟨W.heap.size, 0, none⟩) n n) n (intV .u8 (List.replicate n 0)) ∧ Below W.heap.size W w4 by
    exact ⟨fun W => Classical.choose (h W), fun W => Classical.choose_spec (h W)⟩
  intro W
  obtain ⟨w4, hrun, hown, hg⟩ := run_make_full (P := Try.prog) W W.heap.size 52 5 i1 _ 1 Try.underlying52 hi1 hy0 hy1 .i64 .i64 n (by rw [hy2]; omega) (by simp only [maxLen]; omega) (Nat.le_refl _)
  rw [show (madeCells (Value.int .u8 0).cells (n * 1)).toList = intV .u8 (List.replicate n 0) by rw [Nat.mul_one]; exact (toList_madeCells_one _ _).trans (by simp [intV])] at hown
  exact ⟨w4, hrun, hown, (Below.refl _ _).grown hg (Nat.le_refl _) (by simp)⟩

set_option maxRecDepth 100000 in
set_option maxHeartbeats 6400000 in
theorem implTakeSnapshot_calls (A : Option Addr) (c : Nat) (m : List (List Int)) (B : Option Addr) (ck : Nat) (L : List Win) (w : World) (hr : Rd2 w w.heap.size A m) (hn : m.length ≤ maxLen) (hx : RdW w w.heap.size B L) (hl : L.length ≤ maxLen) (hwa : ∀ x ∈ L, WArg x) :
    Calls Try.prog 32 #[.agg #[.slice A m.length c], .slice B L.length ck] w fun e w' => ∃ v, e = .returned (.tuple #[.agg #[v], .bool (snapR m L).2]) ∧ OwnM w' w.heap.size w'.heap.size v (snapR m L).1 ∧ Below w.heap.size w w' := by
  obtain ⟨i0, hi0, hz0, hz1, hz2⟩ := info_parts info_u8s
  obtain ⟨i1, hi1, hy0, hy1, hy2⟩ := info_parts info_u8
  have hszu : (Try.prog.info? 5).map (·.size) = some 1 := by rw [hi1]; simp [hy1]
  obtain ⟨hb0, g1, g2, g3⟩ := enter2 w (.cells #[.slice A m.length c] 31) (.cells #[.slice none 0 0] 31)
  obtain ⟨w0, hw0⟩ : ∃ w0, (w.alloc (.cells #[.slice A m.length c] 31)).alloc (.cells #[.slice none 0 0] 31) = w0 := ⟨_, rfl⟩
  rw [hw0] at hb0 g1 g2 g3
  have HC := Lib.hid (isWatched_calls A c m B ck L w0 ((hr.below hb0).more hb0.size) hn ((hx.below hb0).more hb0.size) hwa hl)
  have HR := Lib.hid hr
  have HX := Lib.hid hx
  have HB := Lib.hid hb0
  have HW := Lib.hid hw0
  have HG := Lib.hid (And.intro g1 g2)
  clear hr hx hb0 hw0 g1 g2 hy0 hy1 hy2 hi1
  go_enter Try.func32, Try.ntmps32
  go_wp2_with fail
  rw [HW.out]
  refine HC.out.mono ?_
  rintro e wS ⟨rfl, hb2⟩
  have HBS := Lib.hid (HB.out.trans (hb2.mono HB.out.size))
  have gm := (hb2.block _ (Array.getElem?_eq_some_iff.1 HG.out.1).1).trans HG.out.1
  have gr := (hb2.block _ (Array.getElem?_eq_some_iff.1 HG.out.2).1).trans HG.out.2
  have HGS := Lib.hid (And.intro gm gr)
  have r0 := one_cell gr
  have rf := one_frozen gr
  have hsz := hb2.size
  clear hb2 gm gr
  by_cases hw : Watched m L
  · rw [show decide (Watched m L) = true from decide_eq_true hw]
    have HWT := Lib.hid hw
    have h12 := hw.2.1
    have HV := Lib.hid (show snapR m L = (L.map (shotRow m), true) by rw [snapR, if_pos hw])
    clear hw
    obtain ⟨w1, hrun, hown, hg⟩ := run_make_full (P := Try.prog) wS wS.heap.size 22 52 i0 _ 1 Try.underlying22 hi0 hz0 hz1 .i64 .i64 L.length (by rw [hz2]; omega) (by simp only [maxLen]; omega) (Nat.le_refl _)
    have hb1 : Below wS.heap.size wS w1 := (Below.refl _ _).grown hg (Nat.le_refl _) (by simp)
    have hlt1 : wS.heap.size + 1 ≤ w1.heap.size := by
      rcases hown.2 with ⟨hv, _⟩ | ⟨g, cap, cur, hv, _, hh, _⟩
      · cases hv
      · injection hv with hv; injection hv with hv; injection hv with hv; subst hv; exact (Array.getElem?_eq_some_iff.1 hh).1
    rw [show (madeCells (Value.slice none 0 0).cells (L.length * 1)).toList = List.replicate L.length (.slice none 0 0) by rw [Nat.mul_one]; exact toList_madeCells_one _ _] at hown
    obtain ⟨gB, hgB⟩ : ∃ gB, w1.heap.size = gB := ⟨_, rfl⟩
    obtain ⟨w3, hw3⟩ : ∃ w3, w1.alloc (.cells #[.slice (some ⟨wS.heap.size, 0, none⟩) L.length L.length] 31) = w3 := ⟨_, rfl⟩
    have hb3 : Below wS.heap.size wS w3 := by rw [← hw3]; exact hb1.alloc hb1.size _
    have k3 : w3.heap[gB]? = some (.cells #[.slice (some ⟨wS.heap.size, 0, none⟩) L.length L.length] 31) := by rw [← hw3]; exact heap_alloc_at hgB
    have ko : w3.ownsRow wS.heap.size 52 1 (.slice (some ⟨wS.heap.size, 0, none⟩) L.length L.length) L.length (List.replicate L.length (.slice none 0 0)) := by rw [← hw3]; exact hown.alloc _
    have hz3 : w3.heap.size = gB + 1 := by rw [← hw3, ← hgB]; simp
    have HK := Lib.hid (show Below wS.heap.size wS w3 ∧ _ ∧ _ ∧ wS.heap.size + 1 + 1 ≤ w3.heap.size from ⟨hb3, k3, ko, by omega⟩)
    have hgB1 : wS.heap.size + 1 ≤ gB := by omega
    have HW3 := Lib.hid hw3
    have HGB := Lib.hid hgB
    clear hw3 hb3 k3 ko r0 rf hown hg hb1 hgB hz3 hlt1
    go_upto_region 4 with fail
    rw [HGB.out, HW3.out]
    clear hrun
    go_wp2_with fail
    go_loopw [20] (fun i wr => ∃ (k : Nat) (hd : List Value), k ≤ L.length ∧ i = .int .i64 k ∧ wS.heap.size + 1 + 1 ≤ wr.heap.size ∧ Below wS.heap.size wS wr ∧ wr.heap[gB]? = some (.cells #[.slice (some ⟨wS.heap.size, 0, none⟩) L.length L.length] 31) ∧
      wr.ownsRow wS.heap.size 52 1 (.slice (some ⟨wS.heap.size, 0, none⟩) L.length L.length) L.length (hd ++ List.replicate (L.length - k) (.slice none 0 0)) ∧ Rows wr (wS.heap.size + 1) wr.heap.size hd ((L.take k).map (shotRow m))) (fun i _ => L.length - (intOf i).toNat)
    case atStart => exact ⟨0, [], Nat.zero_le _, rfl, HK.out.2.2.2, HK.out.1, HK.out.2.1, by simpa using HK.out.2.2.1, by simpa using Rows.none_ _ _ _⟩
    case round =>
      obtain ⟨k, hd, hk, rfl, hszr, hb, hg3, ho, hrw⟩ := hrel
      have hdl : hd.length = k := by have := hrw.len; rw [List.length_map, List.length_take] at this; omega
      have hbs := hb.size
      have hbw := HBS.out.trans (hb.mono HBS.out.size)
      by_cases hlt : k < L.length
      · obtain ⟨b, off, rfl, hbb, e0, e1, e2, e3⟩ := (HX.out.below hbw).at_ hlt
        have hok := HWT.out.2.2 L[k] (List.getElem_mem hlt)
        have HTK0 := (show (L.take (k + 1)).map (shotRow m) = (L.take k).map (shotRow m) ++ [shotRow m L[k]] by rw [List.take_succ_eq_append_getElem hlt, List.map_append]; rfl)
        have hsl := (shotRow_len hok).1
        obtain ⟨n, s, l, cc, hxe, hnl, hlc, hsc, h1, h64, h16⟩ := hok.nat
        rw [hxe] at e0 e1 e2 e3 HTK0 hsl
        dsimp only at e0 e1 e2 e3
        simp only [shotN, Int.toNat_natCast] at hsl
        have HTK := Lib.hid HTK0
        have HSLM := Lib.hid hsl
        obtain ⟨w5, hw5⟩ : ∃ w5, wr.alloc (.cells #[.int .i64 n, .int .i64 s, .int .i64 l, .int .i64 cc] 55) = w5 := ⟨_, rfl⟩
        have hb5 : Below wr.heap.size wr w5 := by rw [← hw5]; exact (Below.refl _ _).alloc (Nat.le_refl _) _
        have hz5 : w5.heap.size = wr.heap.size + 1 := by rw [← hw5]; simp
        have HGW := Lib.hid (show w5.heap[wr.heap.size]? = some (.cells #[.int .i64 n, .int .i64 s, .int .i64 l, .int .i64 cc] 55) by rw [← hw5]; exact heap_alloc_new _ _)
        have HB5 := Lib.hid (hb.trans (hb5.mono hbs))
        have HO5 := Lib.hid (own_below ho hb5)
        have HR5 := Lib.hid (hrw.below hb5)
        have HG5 := Lib.hid ((hb5.block _ (Array.getElem?_eq_some_iff.1 hg3).1).trans hg3)
        have lB := (Array.getElem?_eq_some_iff.1 hg3).1
        have HW5 := Lib.hid hw5
        have HA5 : Hid (w5.cell? ⟨gB, 0, none⟩ = some (.slice (some ⟨wS.heap.size, 0, none⟩) L.length L.length) ∧ w5.cell? ⟨wr.heap.size, 2, none⟩ = some (.int .i64 l)) := Lib.hid ⟨one_cell HG5.out, (four_cells HGW.out).2.2.1⟩
        clear hok hxe HTK0 hsl hw5 hb5 hb hg3 ho hrw hbw
        have hl64 : l ≤ 64 := by omega
        go_wp2_with fail
        rw [HW5.out]
        clear e0 e1 e2 e3
        obtain ⟨q0, q5⟩ := HA5.out
        rcases Nat.lt_or_ge 0 l with hl0 | hl0
        · have hmx : (1 : Int) ≤ (l : Int) := by omega
          have HSL := Lib.hid (show (shotRow m ⟨n, s, l, cc⟩).length = l by rw [HSLM.out]; omega)
          have HSR : Hid (over (List.replicate l 0) 0 (wb m n s l) = shotRow m ⟨n, s, l, cc⟩) := Lib.hid (by
            have hwl : (wb m n s l).length = l := wb_len hnl (by omega)
            unfold over shotRow seenW
            rw [if_neg (show ¬ (l : Int) = 0 by omega)]
            simp only [Int.toNat_natCast, List.take_zero, List.nil_append, Nat.zero_add, hwl, List.drop_replicate, Nat.sub_self, List.replicate_zero, List.append_nil])
          clear hl0
          have hN1 : 1 ≤ l ∧ l ≤ 64 ∧ l ≤ l := by omega
          obtain ⟨mk, hmk⟩ := make_all9 l (by omega)
          have hmax : max (l : Int) 1 = (l : Int) := by omega
          have hrun : ∀ W, (Instr.makeSlice 52 (.int .i64 (max (l : Int) 1)) (.int .i64 (max (l : Int) 1))).run Try.prog W = .ok (.slice (some ⟨W.heap.size, 0, none⟩) l l) (mk W) := fun W => by rw [hmax]; exact (hmk W).1
          obtain ⟨wm, hwm⟩ : ∃ wm, mk w5.drew = wm := ⟨_, rfl⟩
          have hbm : Below w5.heap.size w5 wm := by rw [← hwm]; exact (Below.refl _ _).drew.trans (hmk w5.drew).2.2
          have hnew : wm.ownsRow w5.heap.size 5 1 (.slice (some ⟨w5.heap.size, 0, none⟩) l l) l (intV .u8 (List.replicate l 0)) := by rw [← hwm]; exact (hmk w5.drew).2.1
          have hzm : w5.heap.size + 1 ≤ wm.heap.size := by have := (hnew.lt w5.heap.size rfl).2; omega
          have harr := own_below HO5.out hbm
          have f1 := harr.frozenAt k
          have z1 : wm.cell? ⟨wS.heap.size, k, none⟩ = some (.slice none 0 0) := by
            rw [harr.cellAt k (by omega), List.getElem?_append_right (by omega), List.getElem?_replicate, if_pos (by omega)]
          have y1 : wm.cell? ⟨gB, 0, none⟩ = some (.slice (some ⟨wS.heap.size, 0, none⟩) L.length L.length) := (hbm.cell (cell_lt q0)).trans q0
          have q0d : w5.drew.cell? ⟨gB, 0, none⟩ = some (.slice (some ⟨wS.heap.size, 0, none⟩) L.length L.length) := q0
          have q5d : w5.drew.cell? ⟨wr.heap.size, 2, none⟩ = some (.int .i64 l) := q5
          have y5 : wm.cell? ⟨wr.heap.size, 2, none⟩ = some (.int .i64 l) := (hbm.cell (cell_lt q5)).trans q5
          have hst := harr.stored k (.slice (some ⟨w5.heap.size, 0, none⟩) l l)
          rw [fill_step hd _ _ hlt hdl] at hst
          have HST := Lib.hid hst
          have HNEW := Lib.hid hnew
          have HBM := Lib.hid hbm
          rw [← hwm] at f1 z1 y1 y5
          have HWM := Lib.hid hwm
          have HZ5 := Lib.hid hz5
          clear harr hst hnew hbm hmk hwm hmax hz5
          go_wp2_with fail
          go_region_law (fail)
          all_goals (
            rw [HWM.out]
            have hz5 := HZ5.out
            obtain ⟨w6, hw6⟩ : ∃ w6, wm.setCell ⟨wS.heap.size, k, none⟩ (.slice (some ⟨w5.heap.size, 0, none⟩) l l) = w6 := ⟨_, rfl⟩
            rw [hw6]
            have hst := HST.out
            rw [hw6] at hst
            have hs6 : w6.heap.size = wm.heap.size := by rw [← hw6]; exact World.size_setCell _ _ _
            have HO6 := Lib.hid hst.1
            have hn6 : w6.ownsRow w5.heap.size 5 1 (.slice (some ⟨w5.heap.size, 0, none⟩) l l) l (intV .u8 (List.replicate l 0)) := HNEW.out.kept hst.2 (.inr (by simp [Value.ownBlock]; omega))
            have hb6 : Below wS.heap.size wS w6 := by rw [← hw6]; exact (HB5.out.trans (HBM.out.mono HB5.out.size)).setCell (p := ⟨wS.heap.size, k, none⟩) (Nat.le_refl _) _
            have hspan : Span wS.heap.size (wS.heap.size + 1) wm w6 := Span.of_grown hst.2 (fun g e => by simp [Value.ownBlock] at e; omega)
            have hr6 : Rows w6 (wS.heap.size + 1) wr.heap.size hd ((L.take k).map (shotRow m)) := ((HR5.out.span (Span.of_below (lo := wr.heap.size) (hi := wr.heap.size) (HBM.out)) (.inl (Nat.le_refl _))).span hspan (.inr (Nat.le_refl _)))
            have hg6 : w6.heap[gB]? = some (.cells #[.slice (some ⟨wS.heap.size, 0, none⟩) L.length L.length] 31) := block_grown hst.2 ((HBM.out.block _ (Array.getElem?_eq_some_iff.1 HG5.out).1).trans HG5.out) (by simp [Value.ownBlock]; omega)
            have hw6c : w6.heap[wr.heap.size]? = some (.cells #[.int .i64 n, .int .i64 s, .int .i64 l, .int .i64 cc] 55) := block_grown hst.2 ((HBM.out.block _ (Array.getElem?_eq_some_iff.1 HGW.out).1).trans HGW.out) (by simp [Value.ownBlock]; omega)
            have hk6 : w6.cell? ⟨wS.heap.size, k, none⟩ = some (.slice (some ⟨w5.heap.size, 0, none⟩) l l) := by
              rw [HO6.out.cellAt k (by omega), List.getElem?_append_left (by simp; omega), List.getElem?_append_right (by omega), hdl]
              simp
            have HB6 := Lib.hid hb6
            have HN6 := Lib.hid hn6
            have HR6 := Lib.hid hr6
            have HG6 := Lib.hid hg6
            have HBW6 := Lib.hid (HBS.out.trans (hb6.mono HBS.out.size))
            have HS6 := Lib.hid hs6
            have HA6 : Hid (∀ W, Below w6.heap.size w6 W → W.cell? ⟨gB, 0, none⟩ = some (.slice (some ⟨wS.heap.size, 0, none⟩) L.length L.length) ∧ W.cell? ⟨wS.heap.size, k, none⟩ = some (.slice (some ⟨w5.heap.size, 0, none⟩) l l) ∧ W.cell? ⟨w.heap.size, 0, none⟩ = some (.slice A m.length c) ∧ W.cell? ⟨wr.heap.size, 0, none⟩ = some (.int .i64 n) ∧ W.cell? ⟨wr.heap.size, 1, none⟩ = some (.int .i64 s) ∧ W.cell? ⟨wr.heap.size, 2, none⟩ = some (.int .i64 l) ∧ W.cell? ⟨wr.heap.size, 3, none⟩ = some (.int .i64 cc)) := Lib.hid fun W h => by
              have hc := four_cells ((h.block _ (Array.getElem?_eq_some_iff.1 hw6c).1).trans hw6c)
              have hm := (hb6.trans (h.mono hb6.size)).block _ (Array.getElem?_eq_some_iff.1 HGS.out.1).1
              exact ⟨one_cell ((h.block _ (Array.getElem?_eq_some_iff.1 hg6).1).trans hg6), (h.cell (cell_lt hk6)).trans hk6, one_cell (hm.trans HGS.out.1), hc.1, hc.2.1, hc.2.2.1, hc.2.2.2⟩
            have HLEN := Lib.hid (show (wb m n s l).length = l from wb_len hnl (by omega))
            have HS1 := Lib.hid (fun W (hb : Below w6.heap.size w6 W) => seenR_calls A c m n s l cc W ((HR.out.below (HBW6.out.trans (hb.mono HBW6.out.size))).more (Nat.le_trans HBW6.out.size hb.size)) hnl h16 hlc hsc h1 h64)
            obtain ⟨Z, hZ⟩ : ∃ Z, List.replicate l (0 : Int) = Z := ⟨_, rfl⟩
            have hZl : Z.length = l := by rw [← hZ]; simp
            have HZV := Lib.hid hZ
            have HZL := Lib.hid hZl
            rw [hZ] at HN6
            clear hz5 hZ hZl f1 z1 y1 y5 q0 q5 q0d q5d hst hn6 hspan hr6 hg6 hw6c hk6 hb6 hs6 hw6
            have hc6 := (Below.refl w6.heap.size w6).drew
            obtain ⟨t0, t1, t2, t3, t4, t5, t6⟩ := HA6.out w6.drew hc6
            clear hrun
            go_wp2_with fail
            go_region_held3 (fun W => W.cell? ⟨gB, 0, none⟩ = some (.slice (some ⟨wS.heap.size, 0, none⟩) L.length L.length) ∧ W.cell? ⟨wS.heap.size, k, none⟩ = some (.slice (some ⟨w5.heap.size, 0, none⟩) l l) ∧ W.cell? ⟨w.heap.size, 0, none⟩ = some (.slice A m.length c) ∧ W.cell? ⟨wr.heap.size, 0, none⟩ = some (.int .i64 n) ∧ W.cell? ⟨wr.heap.size, 1, none⟩ = some (.int .i64 s) ∧ W.cell? ⟨wr.heap.size, 2, none⟩ = some (.int .i64 l) ∧ W.cell? ⟨wr.heap.size, 3, none⟩ = some (.int .i64 cc))
              (first | (with_reducible exact ⟨t0, t1, t2, t3, t4, t5, t6⟩) | (with_reducible exact HA6.out _ hc7) | (have h7 := HA6.out w7 hc7; exact ⟨grown_cell hg8 h7.1 (by simp; (have hz5 := HZ5.out; omega)), grown_cell hg8 h7.2.1 (by simp; (have hz5 := HZ5.out; omega)), grown_cell hg8 h7.2.2.1 (by simp; (have hz5 := HZ5.out; omega)), grown_cell hg8 h7.2.2.2.1 (by simp; (have hz5 := HZ5.out; omega)), grown_cell hg8 h7.2.2.2.2.1 (by simp; (have hz5 := HZ5.out; omega)), grown_cell hg8 h7.2.2.2.2.2.1 (by simp; (have hz5 := HZ5.out; omega)), grown_cell hg8 h7.2.2.2.2.2.2 (by simp; (have hz5 := HZ5.out; omega))⟩))
              (first
                | (go_at_call 97; (with_reducible refine (HS1.out _ hc6).mono ?_); rintro e w7 ⟨⟨⟨b7, o7, p7⟩, hbb7, hsp7, rfl, hrd7⟩, hb7⟩; obtain rfl : p7 = none := hsp7; have hc7 := hc6.trans hb7; have HN7 := Lib.hid (show w7.ownsRow w5.heap.size 5 1 (.slice (some ⟨w5.heap.size, 0, none⟩) Z.length l) Z.length (intV .u8 Z) by rw [HZL.out]; exact own_below HN6.out hc7); have HSRC := Lib.hid (rd_src (hrd7.below hb7)))
                | (refine step_copy_rowm (by rfl) _ _ 52 52 (by rfl) Try.underlying52 hszu (some ⟨w5.heap.size, 0, none⟩) (some ⟨b7, o7, none⟩) l l l cc (by rfl) (by rfl) w5.heap.size w5.heap.size l Z HN7.out (by rw [HZL.out]; (have hz5 := HZ5.out; omega)) 0 (wb m n s l) l HLEN.out (by show l = min l l; (have hz5 := HZ5.out; omega)) (fun _ => rfl) (by rw [HLEN.out, HZL.out]; (have hz5 := HZ5.out; omega)) HSRC.out ?_; intro w8 hown8 hg8))
            have hO8 := (own_below HO6.out hc7).kept hg8 (.inr (by simp [Value.ownBlock]; (have hz5 := HZ5.out; omega)))
            have HO8 := Lib.hid hO8
            have hg8b := block_grown hg8 ((hc7.block _ (Array.getElem?_eq_some_iff.1 HG6.out).1).trans HG6.out) (by simp; (have hz5 := HZ5.out; omega))
            have HG8 := Lib.hid hg8b
            have HB8 := Lib.hid ((HB6.out.trans (hc7.mono HB6.out.size)).grown hg8 (by have := HB6.out.size; have := hc7.size; (have hz5 := HZ5.out; omega)) (fun q e => by injection e with e; (have hz5 := HZ5.out; omega)))
            have hrow : over Z 0 (wb m n s l) = shotRow m ⟨n, s, l, cc⟩ := by
              rw [← HZV.out]
              exact HSR.out
            rw [hrow] at hown8
            have hs67 := hc7.size
            have hs8 := hg8.size
            have hx8 : OwnR w8 wr.heap.size w8.heap.size 5 (.slice (some ⟨w5.heap.size, 0, none⟩) l l) (intV .u8 (shotRow m ⟨n, s, l, cc⟩)) := ⟨by
              rw [intV_len, HSL.out]
              rw [HZL.out] at hown8
              exact own_mono0 hown8 (by (have hz5 := HZ5.out; omega)), fun g e => by simp [Value.ownBlock] at e; have := HS6.out; (have hz5 := HZ5.out; omega)⟩
            have hr8 := (HR6.out.span (Span.of_below (lo := wr.heap.size) (hi := wr.heap.size) hc7) (.inl (Nat.le_refl _))).of_grown hg8 (fun g e => .inl (by injection e with e; (have hz5 := HZ5.out; omega)))
            have HR8 := Lib.hid (hr8.snoc hx8 (by (have hz5 := HZ5.out; omega)) (by have := HS6.out; (have hz5 := HZ5.out; omega)))
            have HZ8 := Lib.hid (show wS.heap.size + 1 + 1 ≤ w8.heap.size by have := HS6.out; (have hz5 := HZ5.out; omega))
            clear hO8 hg8b hrow hown8 hg8 hx8 hr8 hs67 hs8 hrd7 hb7 hc7 hc6 hbb7 t0 t1 t2 t3 t4 t5 t6
            go_wp2_with fail
            go_roundw
            case rel => exact ⟨k + 1, hd ++ [.slice (some ⟨w5.heap.size, 0, none⟩) l l], by (have hz5 := HZ5.out; omega), by go_num, HZ8.out, HB8.out, HG8.out, by first | exact HO8.out | (have h := HO8.out; rw [List.append_assoc] at h; simpa using h), by rw [HTK.out]; exact HR8.out⟩
            case measure => simp [intOf]; omega)
        · have hmx : (l : Int) < (1 : Int) := by omega
          have HSL := Lib.hid (show (shotRow m ⟨n, s, l, cc⟩).length = 1 by rw [HSLM.out]; omega)
          have HSR : Hid (over (List.replicate 1 0) 0 (wb m n s l) = shotRow m ⟨n, s, l, cc⟩) := Lib.hid (by
            have hl : l = 0 := by omega
            subst hl
            simp [over, shotRow, wb])
          clear hl0
          have hN1 : 1 ≤ 1 ∧ 1 ≤ 64 ∧ l ≤ 1 := by omega
          obtain ⟨mk, hmk⟩ := make_all9 1 (by omega)
          have hmax : max (l : Int) 1 = (1 : Int) := by omega
          have hrun : ∀ W, (Instr.makeSlice 52 (.int .i64 (max (l : Int) 1)) (.int .i64 (max (l : Int) 1))).run Try.prog W = .ok (.slice (some ⟨W.heap.size, 0, none⟩) 1 1) (mk W) := fun W => by rw [hmax]; exact (hmk W).1
          obtain ⟨wm, hwm⟩ : ∃ wm, mk w5.drew = wm := ⟨_, rfl⟩
          have hbm : Below w5.heap.size w5 wm := by rw [← hwm]; exact (Below.refl _ _).drew.trans (hmk w5.drew).2.2
          have hnew : wm.ownsRow w5.heap.size 5 1 (.slice (some ⟨w5.heap.size, 0, none⟩) 1 1) 1 (intV .u8 (List.replicate 1 0)) := by rw [← hwm]; exact (hmk w5.drew).2.1
          have hzm : w5.heap.size + 1 ≤ wm.heap.size := by have := (hnew.lt w5.heap.size rfl).2; omega
          have harr := own_below HO5.out hbm
          have f1 := harr.frozenAt k
          have z1 : wm.cell? ⟨wS.heap.size, k, none⟩ = some (.slice none 0 0) := by
            rw [harr.cellAt k (by omega), List.getElem?_append_right (by omega), List.getElem?_replicate, if_pos (by omega)]
          have y1 : wm.cell? ⟨gB, 0, none⟩ = some (.slice (some ⟨wS.heap.size, 0, none⟩) L.length L.length) := (hbm.cell (cell_lt q0)).trans q0
          have q0d : w5.drew.cell? ⟨gB, 0, none⟩ = some (.slice (some ⟨wS.heap.size, 0, none⟩) L.length L.length) := q0
          have q5d : w5.drew.cell? ⟨wr.heap.size, 2, none⟩ = some (.int .i64 l) := q5
          have y5 : wm.cell? ⟨wr.heap.size, 2, none⟩ = some (.int .i64 l) := (hbm.cell (cell_lt q5)).trans q5
          have hst := harr.stored k (.slice (some ⟨w5.heap.size, 0, none⟩) 1 1)
          rw [fill_step hd _ _ hlt hdl] at hst
          have HST := Lib.hid hst
          have HNEW := Lib.hid hnew
          have HBM := Lib.hid hbm
          rw [← hwm] at f1 z1 y1 y5
          have HWM := Lib.hid hwm
          have HZ5 := Lib.hid hz5
          clear harr hst hnew hbm hmk hwm hmax hz5
          go_wp2_with fail
          go_region_law (fail)
          all_goals (
            rw [HWM.out]
            have hz5 := HZ5.out
            obtain ⟨w6, hw6⟩ : ∃ w6, wm.setCell ⟨wS.heap.size, k, none⟩ (.slice (some ⟨w5.heap.size, 0, none⟩) 1 1) = w6 := ⟨_, rfl⟩
            rw [hw6]
            have hst := HST.out
            rw [hw6] at hst
            have hs6 : w6.heap.size = wm.heap.size := by rw [← hw6]; exact World.size_setCell _ _ _
            have HO6 := Lib.hid hst.1
            have hn6 : w6.ownsRow w5.heap.size 5 1 (.slice (some ⟨w5.heap.size, 0, none⟩) 1 1) 1 (intV .u8 (List.replicate 1 0)) := HNEW.out.kept hst.2 (.inr (by simp [Value.ownBlock]; omega))
            have hb6 : Below wS.heap.size wS w6 := by rw [← hw6]; exact (HB5.out.trans (HBM.out.mono HB5.out.size)).setCell (p := ⟨wS.heap.size, k, none⟩) (Nat.le_refl _) _
            have hspan : Span wS.heap.size (wS.heap.size + 1) wm w6 := Span.of_grown hst.2 (fun g e => by simp [Value.ownBlock] at e; omega)
            have hr6 : Rows w6 (wS.heap.size + 1) wr.heap.size hd ((L.take k).map (shotRow m)) := ((HR5.out.span (Span.of_below (lo := wr.heap.size) (hi := wr.heap.size) (HBM.out)) (.inl (Nat.le_refl _))).span hspan (.inr (Nat.le_refl _)))
            have hg6 : w6.heap[gB]? = some (.cells #[.slice (some ⟨wS.heap.size, 0, none⟩) L.length L.length] 31) := block_grown hst.2 ((HBM.out.block _ (Array.getElem?_eq_some_iff.1 HG5.out).1).trans HG5.out) (by simp [Value.ownBlock]; omega)
            have hw6c : w6.heap[wr.heap.size]? = some (.cells #[.int .i64 n, .int .i64 s, .int .i64 l, .int .i64 cc] 55) := block_grown hst.2 ((HBM.out.block _ (Array.getElem?_eq_some_iff.1 HGW.out).1).trans HGW.out) (by simp [Value.ownBlock]; omega)
            have hk6 : w6.cell? ⟨wS.heap.size, k, none⟩ = some (.slice (some ⟨w5.heap.size, 0, none⟩) 1 1) := by
              rw [HO6.out.cellAt k (by omega), List.getElem?_append_left (by simp; omega), List.getElem?_append_right (by omega), hdl]
              simp
            have HB6 := Lib.hid hb6
            have HN6 := Lib.hid hn6
            have HR6 := Lib.hid hr6
            have HG6 := Lib.hid hg6
            have HBW6 := Lib.hid (HBS.out.trans (hb6.mono HBS.out.size))
            have HS6 := Lib.hid hs6
            have HA6 : Hid (∀ W, Below w6.heap.size w6 W → W.cell? ⟨gB, 0, none⟩ = some (.slice (some ⟨wS.heap.size, 0, none⟩) L.length L.length) ∧ W.cell? ⟨wS.heap.size, k, none⟩ = some (.slice (some ⟨w5.heap.size, 0, none⟩) 1 1) ∧ W.cell? ⟨w.heap.size, 0, none⟩ = some (.slice A m.length c) ∧ W.cell? ⟨wr.heap.size, 0, none⟩ = some (.int .i64 n) ∧ W.cell? ⟨wr.heap.size, 1, none⟩ = some (.int .i64 s) ∧ W.cell? ⟨wr.heap.size, 2, none⟩ = some (.int .i64 l) ∧ W.cell? ⟨wr.heap.size, 3, none⟩ = some (.int .i64 cc)) := Lib.hid fun W h => by
              have hc := four_cells ((h.block _ (Array.getElem?_eq_some_iff.1 hw6c).1).trans hw6c)
              have hm := (hb6.trans (h.mono hb6.size)).block _ (Array.getElem?_eq_some_iff.1 HGS.out.1).1
              exact ⟨one_cell ((h.block _ (Array.getElem?_eq_some_iff.1 hg6).1).trans hg6), (h.cell (cell_lt hk6)).trans hk6, one_cell (hm.trans HGS.out.1), hc.1, hc.2.1, hc.2.2.1, hc.2.2.2⟩
            have HLEN := Lib.hid (show (wb m n s l).length = l from wb_len hnl (by omega))
            have HS1 := Lib.hid (fun W (hb : Below w6.heap.size w6 W) => seenR_calls A c m n s l cc W ((HR.out.below (HBW6.out.trans (hb.mono HBW6.out.size))).more (Nat.le_trans HBW6.out.size hb.size)) hnl h16 hlc hsc h1 h64)
            obtain ⟨Z, hZ⟩ : ∃ Z, List.replicate 1 (0 : Int) = Z := ⟨_, rfl⟩
            have hZl : Z.length = 1 := by rw [← hZ]; simp
            have HZV := Lib.hid hZ
            have HZL := Lib.hid hZl
            rw [hZ] at HN6
            clear hz5 hZ hZl f1 z1 y1 y5 q0 q5 q0d q5d hst hn6 hspan hr6 hg6 hw6c hk6 hb6 hs6 hw6
            have hc6 := (Below.refl w6.heap.size w6).drew
            obtain ⟨t0, t1, t2, t3, t4, t5, t6⟩ := HA6.out w6.drew hc6
            clear hrun
            go_wp2_with fail
            go_region_held3 (fun W => W.cell? ⟨gB, 0, none⟩ = some (.slice (some ⟨wS.heap.size, 0, none⟩) L.length L.length) ∧ W.cell? ⟨wS.heap.size, k, none⟩ = some (.slice (some ⟨w5.heap.size, 0, none⟩) 1 1) ∧ W.cell? ⟨w.heap.size, 0, none⟩ = some (.slice A m.length c) ∧ W.cell? ⟨wr.heap.size, 0, none⟩ = some (.int .i64 n) ∧ W.cell? ⟨wr.heap.size, 1, none⟩ = some (.int .i64 s) ∧ W.cell? ⟨wr.heap.size, 2, none⟩ = some (.int .i64 l) ∧ W.cell? ⟨wr.heap.size, 3, none⟩ = some (.int .i64 cc))
              (first | (with_reducible exact ⟨t0, t1, t2, t3, t4, t5, t6⟩) | (with_reducible exact HA6.out _ hc7) | (have h7 := HA6.out w7 hc7; exact ⟨grown_cell hg8 h7.1 (by simp; (have hz5 := HZ5.out; omega)), grown_cell hg8 h7.2.1 (by simp; (have hz5 := HZ5.out; omega)), grown_cell hg8 h7.2.2.1 (by simp; (have hz5 := HZ5.out; omega)), grown_cell hg8 h7.2.2.2.1 (by simp; (have hz5 := HZ5.out; omega)), grown_cell hg8 h7.2.2.2.2.1 (by simp; (have hz5 := HZ5.out; omega)), grown_cell hg8 h7.2.2.2.2.2.1 (by simp; (have hz5 := HZ5.out; omega)), grown_cell hg8 h7.2.2.2.2.2.2 (by simp; (have hz5 := HZ5.out; omega))⟩))
              (first
                | (go_at_call 97; (with_reducible refine (HS1.out _ hc6).mono ?_); rintro e w7 ⟨⟨⟨b7, o7, p7⟩, hbb7, hsp7, rfl, hrd7⟩, hb7⟩; obtain rfl : p7 = none := hsp7; have hc7 := hc6.trans hb7; have HN7 := Lib.hid (show w7.ownsRow w5.heap.size 5 1 (.slice (some ⟨w5.heap.size, 0, none⟩) Z.length 1) Z.length (intV .u8 Z) by rw [HZL.out]; exact own_below HN6.out hc7); have HSRC := Lib.hid (rd_src (hrd7.below hb7)))
                | (refine step_copy_rowm (by rfl) _ _ 52 52 (by rfl) Try.underlying52 hszu (some ⟨w5.heap.size, 0, none⟩) (some ⟨b7, o7, none⟩) 1 1 l cc (by rfl) (by rfl) w5.heap.size w5.heap.size 1 Z HN7.out (by rw [HZL.out]; (have hz5 := HZ5.out; omega)) 0 (wb m n s l) l HLEN.out (by show l = min l 1; (have hz5 := HZ5.out; omega)) (fun _ => rfl) (by rw [HLEN.out, HZL.out]; (have hz5 := HZ5.out; omega)) HSRC.out ?_; intro w8 hown8 hg8))
            have hO8 := (own_below HO6.out hc7).kept hg8 (.inr (by simp [Value.ownBlock]; (have hz5 := HZ5.out; omega)))
            have HO8 := Lib.hid hO8
            have hg8b := block_grown hg8 ((hc7.block _ (Array.getElem?_eq_some_iff.1 HG6.out).1).trans HG6.out) (by simp; (have hz5 := HZ5.out; omega))
            have HG8 := Lib.hid hg8b
            have HB8 := Lib.hid ((HB6.out.trans (hc7.mono HB6.out.size)).grown hg8 (by have := HB6.out.size; have := hc7.size; (have hz5 := HZ5.out; omega)) (fun q e => by injection e with e; (have hz5 := HZ5.out; omega)))
            have hrow : over Z 0 (wb m n s l) = shotRow m ⟨n, s, l, cc⟩ := by
              rw [← HZV.out]
              exact HSR.out
            rw [hrow] at hown8
            have hs67 := hc7.size
            have hs8 := hg8.size
            have hx8 : OwnR w8 wr.heap.size w8.heap.size 5 (.slice (some ⟨w5.heap.size, 0, none⟩) 1 1) (intV .u8 (shotRow m ⟨n, s, l, cc⟩)) := ⟨by
              rw [intV_len, HSL.out]
              rw [HZL.out] at hown8
              exact own_mono0 hown8 (by (have hz5 := HZ5.out; omega)), fun g e => by simp [Value.ownBlock] at e; have := HS6.out; (have hz5 := HZ5.out; omega)⟩
            have hr8 := (HR6.out.span (Span.of_below (lo := wr.heap.size) (hi := wr.heap.size) hc7) (.inl (Nat.le_refl _))).of_grown hg8 (fun g e => .inl (by injection e with e; (have hz5 := HZ5.out; omega)))
            have HR8 := Lib.hid (hr8.snoc hx8 (by (have hz5 := HZ5.out; omega)) (by have := HS6.out; (have hz5 := HZ5.out; omega)))
            have HZ8 := Lib.hid (show wS.heap.size + 1 + 1 ≤ w8.heap.size by have := HS6.out; (have hz5 := HZ5.out; omega))
            clear hO8 hg8b hrow hown8 hg8 hx8 hr8 hs67 hs8 hrd7 hb7 hc7 hc6 hbb7 t0 t1 t2 t3 t4 t5 t6
            go_wp2_with fail
            go_roundw
            case rel => exact ⟨k + 1, hd ++ [.slice (some ⟨w5.heap.size, 0, none⟩) 1 1], by (have hz5 := HZ5.out; omega), by go_num, HZ8.out, HB8.out, HG8.out, by first | exact HO8.out | (have h := HO8.out; rw [List.append_assoc] at h; simpa using h), by rw [HTK.out]; exact HR8.out⟩
            case measure => simp [intOf]; omega)
      · obtain rfl : k = L.length := by omega
        have gr := (hb.block _ (Array.getElem?_eq_some_iff.1 HGS.out.2).1).trans HGS.out.2
        have l2 := (Array.getElem?_eq_some_iff.1 HGS.out.2).1
        have r0 := one_cell gr
        have rf := one_frozen gr
        have c3 := one_cell hg3
        have HO := Lib.hid ho
        have HBW := Lib.hid hbw
        have HRr := Lib.hid hrw
        clear ho hb hrw gr hbw
        go_wp2_with fail
        refine bodyPost_ret (v := .tuple #[.agg #[.slice (some ⟨wS.heap.size, 0, none⟩) L.length L.length], .bool true]) (by simp [results, Try.results32, go_sem, r0]) rfl ⟨_, by rw [HV.out], ?_, by (repeat (first | (with_reducible exact Below.refl _ _) | (with_reducible refine Below.drew ?_) | ((with_reducible refine Below.alloc ?_ ?hB _); case hB => (first | (with_reducible exact Nat.le_refl _) | omega | (simp; done) | (simp; omega))) | ((with_reducible refine Below.setCell ?_ ?hB _); case hB => (first | (with_reducible exact Nat.le_refl _) | omega | (simp; done) | (simp; omega))))); exact HBW.out⟩
        rw [HV.out, World.size_setCell]
        have hr2 := HRr.out
        rw [List.take_length] at hr2
        have ho2 := HO.out
        rw [Nat.sub_self, List.replicate_zero, List.append_nil] at ho2
        have hm2 : OwnM wr wS.heap.size wr.heap.size (.slice (some ⟨wS.heap.size, 0, none⟩) L.length L.length) (L.map (shotRow m)) := (hr2.mono (Nat.le_succ _) (Nat.le_refl _)).own ⟨by rw [hdl]; exact ho2, fun g e => by simp [Value.ownBlock] at e; omega⟩
        exact (own_setCell hm2 (.inl (by omega))).mono HBS.out.size (Nat.le_refl _)
  · rw [show decide (Watched m L) = false from decide_eq_false hw]
    have HV := Lib.hid (show snapR m L = ([], false) by rw [snapR, if_neg hw])
    clear hw
    go_wp2_with fail
    refine bodyPost_ret (v := .tuple #[.agg #[.slice none 0 0], .bool false]) (by simp [results, Try.results32, go_sem, r0]) rfl ⟨_, by rw [HV.out], by rw [HV.out]; exact own_none _ _ _, by (repeat (first | (with_reducible exact Below.refl _ _) | (with_reducible refine Below.drew ?_) | ((with_reducible refine Below.alloc ?_ ?hB _); case hB => (first | (with_reducible exact Nat.le_refl _) | omega | (simp; done) | (simp; omega))) | ((with_reducible refine Below.setCell ?_ ?hB _); case hB => (first | (with_reducible exact Nat.le_refl _) | omega | (simp; done) | (simp; omega))))); exact HBS.out⟩
end Go.Proofs.Ytomgjhdknondmab
