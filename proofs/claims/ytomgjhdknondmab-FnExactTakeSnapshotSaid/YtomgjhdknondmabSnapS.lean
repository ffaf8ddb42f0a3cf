/-
  TakeSnapshot of spec.
-/
import Derived.Test.YtomgjhdknondmabSnapM
import Derived.Test.YtomgjhdknondmabBox2
namespace Go.Proofs.Ytomgjhdknondmab
open Go.RowKit

/-- What one round of the taking leaves. -/
theorem snap_step {lo gB k : Nat} {wS wr w1 w2 : World} {Ao : Option Addr} {co : Nat} {M : List (List Int)} {hd : List Value} {row : List Int} {gg cap1 gg2 cap2 : Nat} {o2 : Obj}
    (hlo : lo = wS.heap.size) (hb : Below lo wS wr) (hgB : lo ≤ gB)
    (g3 : wr.heap[gB]? = some (.cells #[.slice Ao k co] 31))
    (ho : wr.ownsRow lo 52 1 (.slice Ao k co) k hd) (hrw : Rows wr lo wr.heap.size hd M)
    (hown1 : w1.ownsRow wr.heap.size 5 1 (.slice (some ⟨gg, 0, none⟩) row.length cap1) row.length (intV .u8 row)) (hb1 : Below wr.heap.size wr w1)
    (hown2 : w2.ownsRow lo 52 1 (.slice (some ⟨gg2, 0, none⟩) (k + 1) cap2) (k + 1) (hd ++ [.slice (some ⟨gg, 0, none⟩) row.length cap1])) (hgrow2 : (w1.alloc o2).grownBy w2 (Value.slice Ao k co).ownBlock) :
    Below lo wS (w2.setCell ⟨gB, 0, none⟩ (.slice (some ⟨gg2, 0, none⟩) (k + 1) cap2)) ∧
      (w2.setCell ⟨gB, 0, none⟩ (.slice (some ⟨gg2, 0, none⟩) (k + 1) cap2)).heap[gB]? = some (.cells #[.slice (some ⟨gg2, 0, none⟩) (k + 1) cap2] 31) ∧
      (w2.setCell ⟨gB, 0, none⟩ (.slice (some ⟨gg2, 0, none⟩) (k + 1) cap2)).ownsRow lo 52 1 (.slice (some ⟨gg2, 0, none⟩) (k + 1) cap2) (k + 1) (hd ++ [.slice (some ⟨gg, 0, none⟩) row.length cap1]) ∧
      Rows (w2.setCell ⟨gB, 0, none⟩ (.slice (some ⟨gg2, 0, none⟩) (k + 1) cap2)) lo (w2.setCell ⟨gB, 0, none⟩ (.slice (some ⟨gg2, 0, none⟩) (k + 1) cap2)).heap.size (hd ++ [.slice (some ⟨gg, 0, none⟩) row.length cap1]) (M ++ [row]) := by
  have hbs : lo ≤ wr.heap.size := by have := hb.size; omega
  have n3 := ne_some (own_far ho g3 (by decide))
  have l3 := (Array.getElem?_eq_some_iff.1 g3).1
  have s1 := hb1.size
  have s2 : w1.heap.size + 1 ≤ w2.heap.size := by have := hgrow2.size; simpa using this
  have b1 : Below lo wS w1 := hb.trans (hb1.mono hbs)
  have b2 : Below lo wS w2 := (b1.alloc (by omega) _).grown hgrow2 (by simp; omega) (fun g e => (ho.lt g e).1)
  have e3 : w2.heap[gB]? = some (.cells #[.slice Ao k co] 31) := block_grown hgrow2 (alloc_old _ ((hb1.block _ l3).trans g3)) n3
  have hn2 : (Value.slice (some ⟨gg2, 0, none⟩) (k + 1) cap2).ownBlock ≠ some gB := ne_some (own_far hown2 e3 (by decide))
  refine ⟨b2.setCell hgB _, one_set e3, hown2.kept (grown_setCell _ _ _) (.inr hn2), ?_⟩
  rw [World.size_setCell]
  have hnew : OwnR w1 wr.heap.size w1.heap.size 5 (.slice (some ⟨gg, 0, none⟩) row.length cap1) (intV .u8 row) := OwnR.new (by rw [intV_len]; exact hown1)
  have r2 : Rows w1 lo w1.heap.size (hd ++ [.slice (some ⟨gg, 0, none⟩) row.length cap1]) (M ++ [row]) := (hrw.below hb1).snoc hnew hbs s1
  have r3 : Rows (w1.alloc o2) lo w1.heap.size (hd ++ [.slice (some ⟨gg, 0, none⟩) row.length cap1]) (M ++ [row]) := r2.below ((Below.refl _ _).alloc (Nat.le_refl _) _)
  have r4 : Rows w2 lo w1.heap.size (hd ++ [.slice (some ⟨gg, 0, none⟩) row.length cap1]) (M ++ [row]) := r3.of_grown hgrow2 (fun g e => by
    right
    rcases ho.2 with ⟨hv, hn⟩ | ⟨g2', cap, cur, hv, _, hg2', _⟩
    · rw [hv] at e; simp [Value.ownBlock] at e
    · rw [hv] at e
      have e : g2' = g := by simpa [Value.ownBlock] using e
      subst e
      refine ⟨_, alloc_old _ ((hb1.block _ (Array.getElem?_eq_some_iff.1 hg2').1).trans hg2'), fun cs h => ?_⟩
      injection h with _ h
      exact absurd h (by decide))
  have r5 := r4.of_grown (grown_setCell w2 gB (.slice (some ⟨gg2, 0, none⟩) (k + 1) cap2)) (fun g e => by
    injection e with e
    subst e
    exact .inr ⟨_, e3, fun cs h => by injection h with _ h; exact absurd h (by decide)⟩)
  exact r5.mono (Nat.le_refl _) (by omega)

set_option maxRecDepth 100000 in
set_option maxHeartbeats 3200000 in
theorem specTakeSnapshot_calls (A : Option Addr) (c : Nat) (m : List (List Int)) (B : Option Addr) (ck : Nat) (L : List Win) (w : World) (hr : Rd2 w w.heap.size A m) (hn : m.length ≤ maxLen) (hx : RdW w w.heap.size B L) (hl : L.length ≤ maxLen) :
    Calls Try.prog 31 #[.agg #[.slice A m.length c], .slice B L.length ck] w fun e w' => ∃ v, e = .returned (.tuple #[.agg #[v], .bool (snapR m L).2]) ∧ OwnM w' w.heap.size w'.heap.size v (snapR m L).1 ∧ Below w.heap.size w w' := by
  obtain ⟨i0, hi0, hz0, hz1, hz2⟩ := info_parts info_u8s
  obtain ⟨hb0, g1, g2, g3⟩ := enter2 w (.cells #[.slice A m.length c] 31) (.cells #[.slice none 0 0] 31)
  obtain ⟨w0, hw0⟩ : ∃ w0, (w.alloc (.cells #[.slice A m.length c] 31)).alloc (.cells #[.slice none 0 0] 31) = w0 := ⟨_, rfl⟩
  rw [hw0] at hb0 g1 g2 g3
  have HC := Lib.hid (specWatched_calls A c m B ck L w0 ((hr.below hb0).more hb0.size) hn ((hx.below hb0).more hb0.size) hl)
  have HR := Lib.hid hr
  have HX := Lib.hid hx
  have HB := Lib.hid hb0
  have HW := Lib.hid hw0
  have HG := Lib.hid (And.intro g1 g2)
  clear hr hx hb0 hw0 g1 g2
  go_enter Try.func31, Try.ntmps31
  go_wp2_with fail
  rw [HW.out]
  refine HC.out.mono ?_
  rintro e wS ⟨rfl, hb2⟩
  have HBS := Lib.hid (HB.out.trans (hb2.mono HB.out.size))
  have gm := (hb2.block _ (Array.getElem?_eq_some_iff.1 HG.out.1).1).trans HG.out.1
  have gr := (hb2.block _ (Array.getElem?_eq_some_iff.1 HG.out.2).1).trans HG.out.2
  have HGS := Lib.hid (And.intro gm gr)
  have r0 := one_cell gr
  have rf := one_frozen gr
  have hsz := hb2.size
  clear hb2 gm gr
  by_cases hw : Watched m L
  · rw [show decide (Watched m L) = true from decide_eq_true hw]
    have HWT := Lib.hid hw
    have h12 := hw.2.1
    have HV := Lib.hid (show snapR m L = (L.map (shotRow m), true) by rw [snapR, if_pos hw])
    clear hw
    obtain ⟨w3, hw3⟩ : ∃ w3, (wS.alloc (.cells #[] 52)).alloc (.cells #[.slice (some ⟨wS.heap.size, 0, none⟩) 0 0] 31) = w3 := ⟨_, rfl⟩
    have hb3 : Below wS.heap.size wS w3 := by rw [← hw3]; (repeat (first | (with_reducible exact Below.refl _ _) | (with_reducible refine Below.drew ?_) | ((with_reducible refine Below.alloc ?_ ?hB _); case hB => (first | (with_reducible exact Nat.le_refl _) | omega | (simp; done) | (simp; omega))) | ((with_reducible refine Below.setCell ?_ ?hB _); case hB => (first | (with_reducible exact Nat.le_refl _) | omega | (simp; done) | (simp; omega)))))
    have k3 : w3.heap[wS.heap.size + 1]? = some (.cells #[.slice (some ⟨wS.heap.size, 0, none⟩) 0 0] 31) := by rw [← hw3]; exact heap_alloc_at (by simp)
    have ko : w3.ownsRow wS.heap.size 52 1 (.slice (some ⟨wS.heap.size, 0, none⟩) 0 0) 0 [] := by
      rw [← hw3]
      exact (World.ownsRow_made (base := wS.heap.size) (e := 52) (size := 1) wS #[] 0 (Nat.le_refl _) (Nat.zero_le _) rfl).alloc _
    have HK := Lib.hid (show Below wS.heap.size wS w3 ∧ _ ∧ _ from ⟨hb3, k3, ko⟩)
    have HW3 := Lib.hid hw3
    clear hw3 hb3 k3 ko r0 rf
    go_upto_region 4 with fail
    rw [HW3.out]
    go_wp2_with fail
    go_loopw [7] (fun i wr => ∃ (k : Nat) (hd : List Value) (ov : Value), k ≤ L.length ∧ i = .int .i64 k ∧ Below wS.heap.size wS wr ∧ wr.heap[wS.heap.size + 1]? = some (.cells #[ov] 31) ∧
      wr.ownsRow wS.heap.size 52 1 ov k hd ∧ Rows wr wS.heap.size wr.heap.size hd ((L.take k).map (shotRow m))) (fun i _ => L.length - (intOf i).toNat)
    case atStart => exact ⟨0, [], _, Nat.zero_le _, rfl, HK.out.1, HK.out.2.1, HK.out.2.2, by simpa using Rows.none_ _ _ _⟩
    case round =>
      obtain ⟨k, hd, ov, hk, rfl, hb, g3', ho, hrw⟩ := hrel
      have c3 := one_cell g3'
      have f3 := one_frozen g3'
      obtain ⟨Ao, co, rfl⟩ := own_form ho
      have hbs := hb.size
      have hbw := HBS.out.trans (hb.mono HBS.out.size)
      have c1 := one_cell ((hb.block _ (Array.getElem?_eq_some_iff.1 HGS.out.1).1).trans HGS.out.1)
      have l1 : w.heap.size < wr.heap.size := by omega
      by_cases hlt : k < L.length
      · obtain ⟨b, off, rfl, hbb, e0, e1, e2, e3⟩ := (HX.out.below hbw).at_ hlt
        have hok := HWT.out.2.2 L[k] (List.getElem_mem hlt)
        have HSH := Lib.hid (specShot_calls A c m L[k] wr.drew ((HR.out.below hbw.drew).more hbw.size) hok)
        have hrl := (shotRow_len hok).2.2
        have HTK := Lib.hid (show (L.take (k + 1)).map (shotRow m) = (L.take k).map (shotRow m) ++ [shotRow m L[k]] by rw [List.take_succ_eq_append_getElem hlt, List.map_append]; rfl)
        generalize shotRow m L[k] = row at *
        generalize L[k] = x at *
        have HO := Lib.hid ho
        have HBR := Lib.hid hb
        have HRr := Lib.hid hrw
        have HG3 := Lib.hid g3'
        have N3 := Lib.hid (ne_some (own_far ho g3' (by decide)))
        have l3 : wS.heap.size + 1 < wr.heap.size := (Array.getElem?_eq_some_iff.1 g3').1
        clear ho hb hrw g3' hok hbw
        go_upto_region 7 with fail
        have d1 : wr.drew.cell? ⟨w.heap.size, 0, none⟩ = some (.slice A m.length c) := c1
        have d3 : wr.drew.cell? ⟨wS.heap.size + 1, 0, none⟩ = some (.slice Ao k co) := c3
        have df : wr.drew.frozen? ⟨wS.heap.size + 1, 0, none⟩ = false := f3
        have q0 : wr.drew.cell? ⟨b, off + k * 4, none⟩ = some (.int .i64 x.arr) := e0
        have q1 : wr.drew.cell? ⟨b, off + k * 4 + 1, none⟩ = some (.int .i64 x.start) := e1
        have q2 : wr.drew.cell? ⟨b, off + k * 4 + 2, none⟩ = some (.int .i64 x.len) := e2
        have q3 : wr.drew.cell? ⟨b, off + k * 4 + 3, none⟩ = some (.int .i64 x.cap) := e3
        go_region_law (first | (go_simp; go_at_call 96; (with_reducible refine HSH.out.mono ?_); rintro e w1 ⟨gg, cap1, rfl, hown1, hb1⟩; have x3 := (hb1.cell (p := ⟨wS.heap.size + 1, 0, none⟩) l3).trans d3; have xf := (hb1.frozen (p := ⟨wS.heap.size + 1, 0, none⟩) l3).trans df; have HO1 := Lib.hid ((own_below (w := wr.drew) HO.out hb1).alloc (.cells #[.slice (some ⟨gg, 0, none⟩) row.length cap1] 52)); have x3b := cell_alloc x3 (.cells #[.slice (some ⟨gg, 0, none⟩) row.length cap1] 52); have HOW1 := Lib.hid hown1; have HB1 := Lib.hid hb1; have s1 := hb1.size; clear hown1 hb1) | (refine step_append_lies _ (by rfl) _ _ _ (by rfl) wS.heap.size 52 i0 _ 1 24 Try.underlying22 hi0 hz0 hz1 hz2 rfl (by decide) (.slice Ao k co) k hd (by rfl) HO1.out ⟨w1.heap.size, 0, none⟩ 1 1 [.slice (some ⟨gg, 0, none⟩) row.length cap1] (by rfl) (by rfl) (cell_one_new _ _ _) (by simp [Value.oneCell']) (by omega) (by simp only [maxLen]; omega) (by omega) (by simp at s1 ⊢; omega) (w1.heap.size + 1) (by simp) ?_; intro gg2 cap2 w2 hown2 hgrow2 hat2 hlt2; have y3 := cell_grown hgrow2 x3b N3.out; have yf := frozen_grown hgrow2 (frozen_alloc xf (cell_lt x3) (.cells #[.slice (some ⟨gg, 0, none⟩) row.length cap1] 52)) (cell_lt x3b) N3.out; have HOW2 := Lib.hid hown2; have HGR2 := Lib.hid hgrow2; clear hat2 hown2 hgrow2))
        all_goals (go_wp2_with fail; go_roundw; (case rel => (have hq := snap_step rfl HBR.out (Nat.le_succ _) HG3.out HO.out HRr.out HOW1.out (show Below wr.heap.size wr w1 from ⟨HB1.out.os, HB1.out.tape, HB1.out.output, HB1.out.size, HB1.out.block⟩) HOW2.out HGR2.out; exact ⟨k + 1, _, _, by omega, by go_num, hq.1, hq.2.1, hq.2.2.1, by rw [HTK.out]; exact hq.2.2.2⟩)); (case measure => simp [intOf]; omega))
      · obtain rfl : k = L.length := by omega
        have gr := (hb.block _ (Array.getElem?_eq_some_iff.1 HGS.out.2).1).trans HGS.out.2
        have l2 := (Array.getElem?_eq_some_iff.1 HGS.out.2).1
        have r0 := one_cell gr
        have rf := one_frozen gr
        have HO := Lib.hid ho
        have HBR := Lib.hid hb
        have HBW := Lib.hid hbw
        have HRr := Lib.hid hrw
        have HGR := Lib.hid gr
        clear ho hb hrw gr hbw c1
        go_wp2_with fail
        refine bodyPost_ret (v := .tuple #[.agg #[.slice Ao L.length co], .bool true]) (by simp [results, Try.results31, go_sem, r0]) rfl ⟨_, by rw [HV.out], ?_, by (repeat (first | (with_reducible exact Below.refl _ _) | (with_reducible refine Below.drew ?_) | ((with_reducible refine Below.alloc ?_ ?hB _); case hB => (first | (with_reducible exact Nat.le_refl _) | omega | (simp; done) | (simp; omega))) | ((with_reducible refine Below.setCell ?_ ?hB _); case hB => (first | (with_reducible exact Nat.le_refl _) | omega | (simp; done) | (simp; omega))))); exact HBW.out⟩
        rw [HV.out, World.size_setCell]
        have hr2 := HRr.out
        rw [List.take_length] at hr2
        have hl2 := hr2.len
        rw [List.length_map] at hl2
        have hm2 : OwnM wr wS.heap.size wr.heap.size (.slice Ao L.length co) (L.map (shotRow m)) := hr2.own ⟨by rw [hl2]; exact HO.out, fun g e => (HO.out.lt g e).2⟩
        exact (own_setCell hm2 (.inl (by omega))).mono HBS.out.size (Nat.le_refl _)
  · rw [show decide (Watched m L) = false from decide_eq_false hw]
    have HV := Lib.hid (show snapR m L = ([], false) by rw [snapR, if_neg hw])
    clear hw
    go_wp2_with fail
    refine bodyPost_ret (v := .tuple #[.agg #[.slice none 0 0], .bool false]) (by simp [results, Try.results31, go_sem, r0]) rfl ⟨_, by rw [HV.out], by rw [HV.out]; exact own_none _ _ _, by (repeat (first | (with_reducible exact Below.refl _ _) | (with_reducible refine Below.drew ?_) | ((with_reducible refine Below.alloc ?_ ?hB _); case hB => (first | (with_reducible exact Nat.le_refl _) | omega | (simp; done) | (simp; omega))) | ((with_reducible refine Below.setCell ?_ ?hB _); case hB => (first | (with_reducible exact Nat.le_refl _) | omega | (simp; done) | (simp; omega))))); exact HBS.out⟩
end Go.Proofs.Ytomgjhdknondmab
