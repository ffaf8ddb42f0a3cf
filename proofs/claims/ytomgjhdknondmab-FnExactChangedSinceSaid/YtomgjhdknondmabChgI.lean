/-
  ChangedSince of impl.
-/
import Derived.Test.YtomgjhdknondmabChgS
import Derived.Test.YtomgjhdknondmabCopyL
import Derived.Test.YtomgjhdknondmabShelf
namespace Go.Proofs.Ytomgjhdknondmab
open Go.RowKit

theorem bytesIn_rd {w : World} {B : Nat} {A : Option Addr} {xs : List Int} {n : Nat} (h : Rd w B A (intV .u8 xs)) (hn : xs.length = n) : Lib.BytesIn w A n xs := fun h0 => by
  obtain ⟨b, off, rfl, _⟩ := h.int (i := 0) (by omega)
  exact ⟨b, off, rfl, fun i hi => rd_getD h i (by omega)⟩

set_option maxRecDepth 100000 in
set_option maxHeartbeats 6400000 in
theorem implChangedSince_calls (A : Option Addr) (c : Nat) (m : List (List Int)) (B : Option Addr) (k : Nat) (L : List Win) (A2 : Option Addr) (c2 : Nat) (S : List (List Int)) (w : World) (hr : Rd2 w w.heap.size A m) (hn : m.length ≤ maxLen) (hx : RdW w w.heap.size B L) (hl : L.length ≤ maxLen) (hs : Rd2 w w.heap.size A2 S) (hsn : S.length ≤ maxLen) (hz : ∀ r ∈ m, ∀ z ∈ r, IsB z) (hzs : ∀ r ∈ S, ∀ z ∈ r, IsB z) (hwa : ∀ x ∈ L, WArg x) :
    Calls Try.prog 35 #[.agg #[.slice A m.length c], .slice B L.length k, .agg #[.slice A2 S.length c2]] w fun e w' => ∃ v, e = .returned (.tuple #[v, .bool (changedR m L S).2]) ∧ w'.ownsRow w.heap.size 3 1 v (changedR m L S).1.length (intV .i64 (changedR m L S).1) ∧ Below w.heap.size w w' := by
  obtain ⟨i0, hi0, hz0, hz1, hz2⟩ := info_parts info_int
  obtain ⟨hb0, g1, g2, g3⟩ := enter2 w (.cells #[.slice A m.length c] 31) (.cells #[.slice A2 S.length c2] 31)
  obtain ⟨w0, hw0⟩ : ∃ w0, (w.alloc (.cells #[.slice A m.length c] 31)).alloc (.cells #[.slice A2 S.length c2] 31) = w0 := ⟨_, rfl⟩
  rw [hw0] at hb0 g1 g2 g3
  have HB0 := Lib.hid hb0
  have HG : Hid (∀ W, Below w0.heap.size w0 W → W.cell? ⟨w.heap.size, 0, none⟩ = some (.slice A m.length c) ∧ W.cell? ⟨w.heap.size + 1, 0, none⟩ = some (.slice A2 S.length c2)) := Lib.hid fun W hb => ⟨one_cell ((hb.block _ (Array.getElem?_eq_some_iff.1 g1).1).trans g1), one_cell ((hb.block _ (Array.getElem?_eq_some_iff.1 g2).1).trans g2)⟩
  have HC := Lib.hid (isWatched_calls A c m B k L w0 ((hr.below hb0).more hb0.size) hn ((hx.below hb0).more hb0.size) hwa hl)
  have HR := Lib.hid hr
  have HX := Lib.hid hx
  have HSR := Lib.hid hs
  have HZ := Lib.hid hz
  have HZS := Lib.hid hzs
  have HW := Lib.hid hw0
  obtain ⟨p, hp⟩ : ∃ p, chgB m L S = p := ⟨_, rfl⟩
  have HP := Lib.hid hp
  clear hr hx hs hz hzs hb0 hw0 g1 g2 g3 hp
  go_enter Try.func35, Try.ntmps35
  go_wp2_with fail
  rw [HW.out]
  refine HC.out.mono ?_
  rintro e w2 ⟨rfl, hb2⟩
  have HB2 := Lib.hid hb2
  have HBW2 := Lib.hid (HB0.out.trans (hb2.mono HB0.out.size))
  obtain ⟨c2m, c2s⟩ := HG.out w2 hb2
  clear hb2
  by_cases hw : Watched m L
  · rw [show decide (Watched m L) = true from decide_eq_true hw]
    have HWT := Lib.hid hw
    have h12 := hw.2.1
    clear hw
    by_cases hlen : S.length = L.length
    · have HLN := Lib.hid hlen
      have hne : (((S.length : Nat) : Int) != (L.length : Nat)) = false := by rw [hlen]; simp
      clear hlen
      obtain ⟨w3, hw3⟩ : ∃ w3, w2.alloc (.cells #[] 3) = w3 := ⟨_, rfl⟩
      have hb3 : Below w2.heap.size w2 w3 := by rw [← hw3]; exact (Below.refl _ _).alloc (Nat.le_refl _) _
      have HB3 := Lib.hid (HB2.out.trans (hb3.mono HB2.out.size))
      have HO3 : Hid (w3.ownsRow w0.heap.size 3 1 (.slice (some ⟨w2.heap.size, 0, none⟩) 0 0) 0 []) := Lib.hid (by rw [← hw3]; exact World.ownsRow_made (base := w0.heap.size) (e := 3) (size := 1) w2 #[] 0 HB2.out.size (Nat.zero_le _) rfl)
      have HW3 := Lib.hid hw3
      clear hw3 hb3
      go_upto_region 4 with fail
      rw [HW3.out]
      clear hne c2m c2s
      go_wp2_with fail
      go_loopw [8, 27] (fun v i wr => ∃ j : Nat, j ≤ L.length ∧ i = .int .i64 j ∧ wr.ownsRow w0.heap.size 3 1 v (idxsTo p j).length (intV .i64 (idxsTo p j)) ∧ ShotTo L S j ∧ Below w0.heap.size w0 wr ∧ ∃ g cap, v = .slice (some ⟨g, 0, none⟩) (idxsTo p j).length cap) (fun _ i _ => L.length - (intOf i).toNat)
      case atStart => exact ⟨0, Nat.zero_le _, rfl, by have h := HO3.out; simpa [idxsTo, intV] using h, fun q hq => by omega, HB3.out, by rw [show (idxsTo p 0).length = 0 from rfl]; exact ⟨_, _, rfl⟩⟩
      case round =>
        obtain ⟨j, hj, rfl, hown, hst, hbr, gv, cv, rfl⟩ := hrel
        have HO := Lib.hid hown
        have HST := Lib.hid hst
        have HBR := Lib.hid hbr
        have hbs := hbr.size
        have hlenI := idxsTo_len p j
        have hbw := HB0.out.trans (hbr.mono HB0.out.size)
        have HBW := Lib.hid hbw
        clear hown hst hbr
        by_cases hlt : j < L.length
        · have hjs : j < S.length := by have := HLN.out; omega
          obtain ⟨b, off, rfl, hbb, e0, e1, e2, e3⟩ := (HX.out.below hbw).at_ hlt
          obtain ⟨b2, off2, As, cas, rfl, hbb2, hcs, hci, hcm, hri⟩ := (HSR.out.below hbw).at_ hjs
          have hok := HWT.out.2.2 L[j] (List.getElem_mem hlt)
          obtain ⟨n, s, l, cc, hxe, hnl, hlc, hsc, h1, h64, h16⟩ := hok.nat
          rw [hxe] at e0 e1 e2 e3
          dsimp only at e0 e1 e2 e3
          obtain ⟨hpj, hsj⟩ := chg_at (m := m) hlt hjs hxe
          rw [HP.out] at hpj
          have HPJ := Lib.hid hpj
          have HSJ := Lib.hid hsj
          obtain ⟨c6, d6⟩ := HG.out wr HBR.out
          have HRI := Lib.hid hri
          have HZJ := Lib.hid (HZS.out S[j] (List.getElem_mem hjs))
          have HGD := Lib.hid (getD_eq hjs)
          obtain ⟨w5, hw5⟩ : ∃ w5, wr.alloc (.cells #[.int .i64 n, .int .i64 s, .int .i64 l, .int .i64 cc] 55) = w5 := ⟨_, rfl⟩
          have hb5 : Below wr.heap.size wr w5 := by rw [← hw5]; exact (Below.refl _ _).alloc (Nat.le_refl _) _
          have HGW := Lib.hid (show w5.heap[wr.heap.size]? = some (.cells #[.int .i64 n, .int .i64 s, .int .i64 l, .int .i64 cc] 55) by rw [← hw5]; exact heap_alloc_new _ _)
          have HB5 := Lib.hid (HBR.out.trans (hb5.mono hbs))
          have HBL5 := Lib.hid hb5
          have HBW5 := Lib.hid (hbw.trans (hb5.mono hbw.size))
          have HO5 := Lib.hid (own_keep HO.out hb5)
          have HCS5 := Lib.hid ((hb5.cell (cell_lt hcs)).trans hcs)
          have HW5 := Lib.hid hw5
          have HA5 : Hid (∀ W, Below w5.heap.size w5 W → W.cell? ⟨w.heap.size, 0, none⟩ = some (.slice A m.length c) ∧ W.cell? ⟨w.heap.size + 1, 0, none⟩ = some (.slice (some ⟨b2, off2, none⟩) S.length c2) ∧ W.cell? ⟨b2, off2 + j, none⟩ = some (.slice As S[j].length cas) ∧ W.cell? ⟨wr.heap.size, 0, none⟩ = some (.int .i64 n) ∧ W.cell? ⟨wr.heap.size, 1, none⟩ = some (.int .i64 s) ∧ W.cell? ⟨wr.heap.size, 2, none⟩ = some (.int .i64 l) ∧ W.cell? ⟨wr.heap.size, 3, none⟩ = some (.int .i64 cc)) := Lib.hid fun W h => by
            have hg := HG.out W (HB5.out.trans (h.mono HB5.out.size))
            have hc := four_cells ((h.block _ (Array.getElem?_eq_some_iff.1 HGW.out).1).trans HGW.out)
            exact ⟨hg.1, hg.2, (h.cell (cell_lt HCS5.out)).trans HCS5.out, hc.1, hc.2.1, hc.2.2.1, hc.2.2.2⟩
          clear hok hxe hpj hsj hri hbw hcs c6 d6 hw5 hb5
          have hl64 : l ≤ 64 := by omega
          have hz0l : (0 : Int) ≤ (l : Int) := by omega
          go_wp2_with fail
          rw [HW5.out]
          clear e0 e1 e2 e3
          obtain ⟨q0, q1, q2, q3, q4, q5, q6⟩ := HA5.out w5.drew (Below.refl _ _).drew
          rcases Nat.lt_or_ge 0 l with hl0 | hl0
          · have hmx : (1 : Int) ≤ (l : Int) := by omega
            clear hl0
            by_cases hq : S[j].length = l
            · have hnq : ((S[j].length : Int) != (l : Int)) = false := by rw [hq]; simp
              have HQ := Lib.hid hq
              have hlcas : (l : Int) ≤ (cas : Int) := by omega
              clear hq
              go_wp2_with fail
              go_region_held3 (fun W => W.cell? ⟨w.heap.size + 1, 0, none⟩ = some (.slice (some ⟨b2, off2, none⟩) S.length c2) ∧ W.cell? ⟨b2, off2 + j, none⟩ = some (.slice As S[j].length cas) ∧ W.cell? ⟨wr.heap.size, 2, none⟩ = some (.int .i64 l)) (first | (with_reducible exact ⟨q1, q2, q5⟩)) (fail)
              go_wp2_with fail
              clear q0 q1 q2 q3 q4 q5 q6 hnq
              have HC0 := Lib.hid ((Below.refl w5.heap.size w5).drew.drew)
              obtain ⟨q0, q1, q2, q3, q4, q5, q6⟩ := HA5.out _ HC0.out
              have HLEN := Lib.hid (show (wb m n s l).length = l from wb_len hnl (by omega))
              have HLT := Lib.hid (show (S[j].take l).length = l by rw [List.length_take]; have := HQ.out; omega)
              have HS1 := Lib.hid (fun W (hb : Below w5.heap.size w5 W) => seenR_calls A c m n s l cc W ((HR.out.below (HBW5.out.trans (hb.mono HBW5.out.size))).more (Nat.le_trans HBW5.out.size hb.size)) hnl h16 hlc hsc h1 h64)
              have HEQ : Hid (∀ W P1 k1 k2, Below w5.heap.size w5 W → ∀ {BB}, Rd W BB P1 (intV .u8 (wb m n s l)) → Calls Try.prog 103 #[.slice P1 l k1, .slice As l k2] W fun e w' => e = .returned (.bool (!p j)) ∧ w' = W) := Lib.hid fun W P1 k1 k2 hb BB h1 => by
                have h := Try.bytes_Equal_all P1 As l k1 l k2 (wb m n s l) (S[j].take l) W HLEN.out HLT.out (bytesIn_rd h1 HLEN.out) (bytesIn_rd (rd_take (HRI.out.below ((HBL5.out.trans (hb.mono HBL5.out.size)).mono HBW.out.size)) l) HLT.out)
                rw [bytesOf_beq _ _ (wb_isB hnl HZ.out) (fun z hz => HZJ.out z (List.mem_of_mem_take hz))] at h
                rw [HPJ.out]
                by_cases he : wb m n s l = S[j].take l
                · rw [decide_eq_true he] at h
                  rw [decide_eq_false (fun hh => hh he)]
                  exact h
                · rw [decide_eq_false he] at h
                  rw [decide_eq_true he]
                  exact h
              rcases hpj : p j with _ | _
              · have HNO := Lib.hid (idxsTo_no hpj)
                rw [hpj] at HEQ
                clear hpj
                go_region_held3 (fun W => W.cell? ⟨w.heap.size, 0, none⟩ = some (.slice A m.length c) ∧ W.cell? ⟨w.heap.size + 1, 0, none⟩ = some (.slice (some ⟨b2, off2, none⟩) S.length c2) ∧ W.cell? ⟨b2, off2 + j, none⟩ = some (.slice As S[j].length cas) ∧ W.cell? ⟨wr.heap.size, 0, none⟩ = some (.int .i64 n) ∧ W.cell? ⟨wr.heap.size, 1, none⟩ = some (.int .i64 s) ∧ W.cell? ⟨wr.heap.size, 2, none⟩ = some (.int .i64 l) ∧ W.cell? ⟨wr.heap.size, 3, none⟩ = some (.int .i64 cc))
                  (first | (with_reducible exact HA5.out _ HC0.out) | (with_reducible exact HA5.out _ hc7) | (with_reducible exact HA5.out _ hc7.drew))
                  (first
                    | (go_at_call 97; (with_reducible refine (HS1.out _ HC0.out).mono ?_); rintro e w7 ⟨⟨⟨b7, o7, p7⟩, hbb7, hsp7, rfl, hrd7⟩, hb7⟩; obtain rfl : p7 = none := hsp7; have hc7 := HC0.out.trans hb7; have hr7 := hrd7.below hb7)
                    | (go_at_call 103; refine (HEQ.out w7 _ _ _ hc7 hr7).mono ?_; rintro e w8 ⟨rfl, rfl⟩))
                have hc8 := hc7
                have HB8 := Lib.hid (HB5.out.trans (hc8.mono HB5.out.size))
                have HO8 := Lib.hid (own_keep HO5.out hc8)
                have hbs8 := HB8.out.size
                clear hc8 hr7 hb7 hrd7 hc7 hbb7
                go_wp2_with fail
                go_roundw
                case rel => exact ⟨j + 1, by omega, by go_num, by rw [HNO.out]; exact HO8.out, shot_snoc HST.out (by rw [HGD.out, HSJ.out, HQ.out]; omega), HB8.out, by rw [HNO.out]; exact ⟨_, _, rfl⟩⟩
                case measure => simp [intOf]; omega
              · have HNO := Lib.hid (idxsTo_yes hpj)
                rw [hpj] at HEQ
                clear hpj
                go_region_held3 (fun W => W.cell? ⟨w.heap.size, 0, none⟩ = some (.slice A m.length c) ∧ W.cell? ⟨w.heap.size + 1, 0, none⟩ = some (.slice (some ⟨b2, off2, none⟩) S.length c2) ∧ W.cell? ⟨b2, off2 + j, none⟩ = some (.slice As S[j].length cas) ∧ W.cell? ⟨wr.heap.size, 0, none⟩ = some (.int .i64 n) ∧ W.cell? ⟨wr.heap.size, 1, none⟩ = some (.int .i64 s) ∧ W.cell? ⟨wr.heap.size, 2, none⟩ = some (.int .i64 l) ∧ W.cell? ⟨wr.heap.size, 3, none⟩ = some (.int .i64 cc))
                  (first | (with_reducible exact HA5.out _ HC0.out) | (with_reducible exact HA5.out _ hc7) | (with_reducible exact HA5.out _ hc7.drew))
                  (first
                    | (go_at_call 97; (with_reducible refine (HS1.out _ HC0.out).mono ?_); rintro e w7 ⟨⟨⟨b7, o7, p7⟩, hbb7, hsp7, rfl, hrd7⟩, hb7⟩; obtain rfl : p7 = none := hsp7; have hc7 := HC0.out.trans hb7; have hr7 := hrd7.below hb7)
                    | (go_at_call 103; refine (HEQ.out w7 _ _ _ hc7 hr7).mono ?_; rintro e w8 ⟨rfl, rfl⟩))
                have hc8 := hc7
                have HB8 := Lib.hid (HB5.out.trans (hc8.mono HB5.out.size))
                have HO8 := Lib.hid (own_keep HO5.out hc8)
                have hbs8 := HB8.out.size
                clear hc8 hr7 hb7 hrd7 hc7 hbb7
                go_wp2_with ((at_builtin; refine wpList_append_own _ rfl _ _ 28 rfl w0.heap.size 3 i0 _ 1 8 Try.underlying28 hi0 hz0 hz1 hz2 rfl (by decide) _ _ _ rfl (HO8.out.alloc _) ⟨w8.heap.size, 0, none⟩ 1 1 [.int .i64 j] rfl rfl (cell_one_new _ _ _) (by simp [Value.oneCell']) (by simp only [maxLen]; omega) (by omega) (by simp; omega) ?_; intro v' w9 hown9 hgrow _))
                have HB9 : Hid (Below w0.heap.size w0 w9) := below_own0 (HB8.out.alloc hbs8 _) (HO8.out.alloc _) hgrow (by simp; omega)
                have HL9 := Lib.hid (show (idxsTo p (j + 1)).length = (idxsTo p j).length + 1 by rw [HNO.out]; simp)
                have HO9 : Hid (w9.ownsRow w0.heap.size 3 1 v' (idxsTo p (j + 1)).length (intV .i64 (idxsTo p (j + 1)))) := Lib.hid (by
                  rw [HL9.out, show intV .i64 (idxsTo p (j + 1)) = intV .i64 (idxsTo p j) ++ [.int .i64 j] by rw [HNO.out]; simp [intV]]; exact hown9)
                have HF9 := Lib.hid (own_some0 HO9.out (by rw [HL9.out]; omega))
                clear hown9 hgrow
                go_roundw
                case rel => exact ⟨j + 1, by omega, by go_num, HO9.out, shot_snoc HST.out (by rw [HGD.out, HSJ.out, HQ.out]; omega), HB9.out, HF9.out⟩
                case measure => simp [intOf]; omega
            · have HV := Lib.hid (show changedR m L S = ([], false) by rw [changedR, if_neg (fun h => hq (by have h2 := h.2.2 j hlt; rw [HGD.out, HSJ.out] at h2; omega))])
              have hnq : ((S[j].length : Int) != (l : Int)) = true := by simp only [bne_iff_ne]; omega
              clear hq
              go_wp2_with fail
              go_region_held3 (fun W => W.cell? ⟨w.heap.size + 1, 0, none⟩ = some (.slice (some ⟨b2, off2, none⟩) S.length c2) ∧ W.cell? ⟨b2, off2 + j, none⟩ = some (.slice As S[j].length cas) ∧ W.cell? ⟨wr.heap.size, 2, none⟩ = some (.int .i64 l)) (first | (with_reducible exact ⟨q1, q2, q5⟩)) (fail)
              go_wp2_with fail
              go_ret2
              exact ⟨_, by rw [HV.out]; rfl, by rw [HV.out]; exact World.ownsRow_made (base := w.heap.size) (e := 3) (size := 1) _ #[] 0 HBW5.out.size (Nat.zero_le _) rfl, by have hs := HBW5.out.size; (repeat (first | (with_reducible exact Below.refl _ _) | (with_reducible refine Below.drew ?_) | ((with_reducible refine Below.alloc ?_ ?hB _); case hB => (first | (with_reducible exact Nat.le_refl _) | omega | (simp; done) | (simp; omega))) | ((with_reducible refine Below.setCell ?_ ?hB _); case hB => (first | (with_reducible exact Nat.le_refl _) | omega | (simp; done) | (simp; omega))))); exact HBW5.out⟩
          · have hmx : (l : Int) < (1 : Int) := by omega
            clear hl0
            by_cases hq : S[j].length = 1
            · have hnq : ((S[j].length : Int) != (1 : Int)) = false := by rw [hq]; simp
              have HQ := Lib.hid hq
              have hlcas : (l : Int) ≤ (cas : Int) := by omega
              clear hq
              go_wp2_with fail
              go_region_held3 (fun W => W.cell? ⟨w.heap.size + 1, 0, none⟩ = some (.slice (some ⟨b2, off2, none⟩) S.length c2) ∧ W.cell? ⟨b2, off2 + j, none⟩ = some (.slice As S[j].length cas) ∧ W.cell? ⟨wr.heap.size, 2, none⟩ = some (.int .i64 l)) (first | (with_reducible exact ⟨q1, q2, q5⟩)) (fail)
              go_wp2_with fail
              clear q0 q1 q2 q3 q4 q5 q6 hnq
              have HC0 := Lib.hid ((Below.refl w5.heap.size w5).drew.drew)
              obtain ⟨q0, q1, q2, q3, q4, q5, q6⟩ := HA5.out _ HC0.out
              have HLEN := Lib.hid (show (wb m n s l).length = l from wb_len hnl (by omega))
              have HLT := Lib.hid (show (S[j].take l).length = l by rw [List.length_take]; have := HQ.out; omega)
              have HS1 := Lib.hid (fun W (hb : Below w5.heap.size w5 W) => seenR_calls A c m n s l cc W ((HR.out.below (HBW5.out.trans (hb.mono HBW5.out.size))).more (Nat.le_trans HBW5.out.size hb.size)) hnl h16 hlc hsc h1 h64)
              have HEQ : Hid (∀ W P1 k1 k2, Below w5.heap.size w5 W → ∀ {BB}, Rd W BB P1 (intV .u8 (wb m n s l)) → Calls Try.prog 103 #[.slice P1 l k1, .slice As l k2] W fun e w' => e = .returned (.bool (!p j)) ∧ w' = W) := Lib.hid fun W P1 k1 k2 hb BB h1 => by
                have h := Try.bytes_Equal_all P1 As l k1 l k2 (wb m n s l) (S[j].take l) W HLEN.out HLT.out (bytesIn_rd h1 HLEN.out) (bytesIn_rd (rd_take (HRI.out.below ((HBL5.out.trans (hb.mono HBL5.out.size)).mono HBW.out.size)) l) HLT.out)
                rw [bytesOf_beq _ _ (wb_isB hnl HZ.out) (fun z hz => HZJ.out z (List.mem_of_mem_take hz))] at h
                rw [HPJ.out]
                by_cases he : wb m n s l = S[j].take l
                · rw [decide_eq_true he] at h
                  rw [decide_eq_false (fun hh => hh he)]
                  exact h
                · rw [decide_eq_false he] at h
                  rw [decide_eq_true he]
                  exact h
              rcases hpj : p j with _ | _
              · have HNO := Lib.hid (idxsTo_no hpj)
                rw [hpj] at HEQ
                clear hpj
                go_region_held3 (fun W => W.cell? ⟨w.heap.size, 0, none⟩ = some (.slice A m.length c) ∧ W.cell? ⟨w.heap.size + 1, 0, none⟩ = some (.slice (some ⟨b2, off2, none⟩) S.length c2) ∧ W.cell? ⟨b2, off2 + j, none⟩ = some (.slice As S[j].length cas) ∧ W.cell? ⟨wr.heap.size, 0, none⟩ = some (.int .i64 n) ∧ W.cell? ⟨wr.heap.size, 1, none⟩ = some (.int .i64 s) ∧ W.cell? ⟨wr.heap.size, 2, none⟩ = some (.int .i64 l) ∧ W.cell? ⟨wr.heap.size, 3, none⟩ = some (.int .i64 cc))
                  (first | (with_reducible exact HA5.out _ HC0.out) | (with_reducible exact HA5.out _ hc7) | (with_reducible exact HA5.out _ hc7.drew))
                  (first
                    | (go_at_call 97; (with_reducible refine (HS1.out _ HC0.out).mono ?_); rintro e w7 ⟨⟨⟨b7, o7, p7⟩, hbb7, hsp7, rfl, hrd7⟩, hb7⟩; obtain rfl : p7 = none := hsp7; have hc7 := HC0.out.trans hb7; have hr7 := hrd7.below hb7)
                    | (go_at_call 103; refine (HEQ.out w7 _ _ _ hc7 hr7).mono ?_; rintro e w8 ⟨rfl, rfl⟩))
                have hc8 := hc7
                have HB8 := Lib.hid (HB5.out.trans (hc8.mono HB5.out.size))
                have HO8 := Lib.hid (own_keep HO5.out hc8)
                have hbs8 := HB8.out.size
                clear hc8 hr7 hb7 hrd7 hc7 hbb7
                go_wp2_with fail
                go_roundw
                case rel => exact ⟨j + 1, by omega, by go_num, by rw [HNO.out]; exact HO8.out, shot_snoc HST.out (by rw [HGD.out, HSJ.out, HQ.out]; omega), HB8.out, by rw [HNO.out]; exact ⟨_, _, rfl⟩⟩
                case measure => simp [intOf]; omega
              · have HNO := Lib.hid (idxsTo_yes hpj)
                rw [hpj] at HEQ
                clear hpj
                go_region_held3 (fun W => W.cell? ⟨w.heap.size, 0, none⟩ = some (.slice A m.length c) ∧ W.cell? ⟨w.heap.size + 1, 0, none⟩ = some (.slice (some ⟨b2, off2, none⟩) S.length c2) ∧ W.cell? ⟨b2, off2 + j, none⟩ = some (.slice As S[j].length cas) ∧ W.cell? ⟨wr.heap.size, 0, none⟩ = some (.int .i64 n) ∧ W.cell? ⟨wr.heap.size, 1, none⟩ = some (.int .i64 s) ∧ W.cell? ⟨wr.heap.size, 2, none⟩ = some (.int .i64 l) ∧ W.cell? ⟨wr.heap.size, 3, none⟩ = some (.int .i64 cc))
                  (first | (with_reducible exact HA5.out _ HC0.out) | (with_reducible exact HA5.out _ hc7) | (with_reducible exact HA5.out _ hc7.drew))
                  (first
                    | (go_at_call 97; (with_reducible refine (HS1.out _ HC0.out).mono ?_); rintro e w7 ⟨⟨⟨b7, o7, p7⟩, hbb7, hsp7, rfl, hrd7⟩, hb7⟩; obtain rfl : p7 = none := hsp7; have hc7 := HC0.out.trans hb7; have hr7 := hrd7.below hb7)
                    | (go_at_call 103; refine (HEQ.out w7 _ _ _ hc7 hr7).mono ?_; rintro e w8 ⟨rfl, rfl⟩))
                have hc8 := hc7
                have HB8 := Lib.hid (HB5.out.trans (hc8.mono HB5.out.size))
                have HO8 := Lib.hid (own_keep HO5.out hc8)
                have hbs8 := HB8.out.size
                clear hc8 hr7 hb7 hrd7 hc7 hbb7
                go_wp2_with ((at_builtin; refine wpList_append_own _ rfl _ _ 28 rfl w0.heap.size 3 i0 _ 1 8 Try.underlying28 hi0 hz0 hz1 hz2 rfl (by decide) _ _ _ rfl (HO8.out.alloc _) ⟨w8.heap.size, 0, none⟩ 1 1 [.int .i64 j] rfl rfl (cell_one_new _ _ _) (by simp [Value.oneCell']) (by simp only [maxLen]; omega) (by omega) (by simp; omega) ?_; intro v' w9 hown9 hgrow _))
                have HB9 : Hid (Below w0.heap.size w0 w9) := below_own0 (HB8.out.alloc hbs8 _) (HO8.out.alloc _) hgrow (by simp; omega)
                have HL9 := Lib.hid (show (idxsTo p (j + 1)).length = (idxsTo p j).length + 1 by rw [HNO.out]; simp)
                have HO9 : Hid (w9.ownsRow w0.heap.size 3 1 v' (idxsTo p (j + 1)).length (intV .i64 (idxsTo p (j + 1)))) := Lib.hid (by
                  rw [HL9.out, show intV .i64 (idxsTo p (j + 1)) = intV .i64 (idxsTo p j) ++ [.int .i64 j] by rw [HNO.out]; simp [intV]]; exact hown9)
                have HF9 := Lib.hid (own_some0 HO9.out (by rw [HL9.out]; omega))
                clear hown9 hgrow
                go_roundw
                case rel => exact ⟨j + 1, by omega, by go_num, HO9.out, shot_snoc HST.out (by rw [HGD.out, HSJ.out, HQ.out]; omega), HB9.out, HF9.out⟩
                case measure => simp [intOf]; omega
            · have HV := Lib.hid (show changedR m L S = ([], false) by rw [changedR, if_neg (fun h => hq (by have h2 := h.2.2 j hlt; rw [HGD.out, HSJ.out] at h2; omega))])
              have hnq : ((S[j].length : Int) != (1 : Int)) = true := by simp only [bne_iff_ne]; omega
              clear hq
              go_wp2_with fail
              go_region_held3 (fun W => W.cell? ⟨w.heap.size + 1, 0, none⟩ = some (.slice (some ⟨b2, off2, none⟩) S.length c2) ∧ W.cell? ⟨b2, off2 + j, none⟩ = some (.slice As S[j].length cas) ∧ W.cell? ⟨wr.heap.size, 2, none⟩ = some (.int .i64 l)) (first | (with_reducible exact ⟨q1, q2, q5⟩)) (fail)
              go_wp2_with fail
              go_ret2
              exact ⟨_, by rw [HV.out]; rfl, by rw [HV.out]; exact World.ownsRow_made (base := w.heap.size) (e := 3) (size := 1) _ #[] 0 HBW5.out.size (Nat.zero_le _) rfl, by have hs := HBW5.out.size; (repeat (first | (with_reducible exact Below.refl _ _) | (with_reducible refine Below.drew ?_) | ((with_reducible refine Below.alloc ?_ ?hB _); case hB => (first | (with_reducible exact Nat.le_refl _) | omega | (simp; done) | (simp; omega))) | ((with_reducible refine Below.setCell ?_ ?hB _); case hB => (first | (with_reducible exact Nat.le_refl _) | omega | (simp; done) | (simp; omega))))); exact HBW5.out⟩
        · obtain rfl : j = L.length := by omega
          have HV := Lib.hid (show changedR m L S = (idxsTo p L.length, true) by rw [changedR, if_pos ⟨HWT.out, HLN.out, HST.out⟩, HP.out])
          go_wp2_with fail
          go_ret2
          exact ⟨_, by rw [HV.out]; rfl, by rw [HV.out]; exact own_mono0 HO.out HB0.out.size, HBW.out⟩
    · have hne : (((S.length : Nat) : Int) != (L.length : Nat)) = true := by simp; omega
      have HV := Lib.hid (show changedR m L S = ([], false) by rw [changedR, if_neg (fun h => hlen h.2.1)])
      have HO := Lib.hid (World.ownsRow_made (base := w.heap.size) (e := 3) (size := 1) w2 #[] 0 HBW2.out.size (Nat.zero_le _) rfl)
      clear hlen
      go_wp2_with fail
      go_ret2
      exact ⟨_, by rw [HV.out]; rfl, by rw [HV.out]; exact HO.out, by have hs := HBW2.out.size; (repeat (first | (with_reducible exact Below.refl _ _) | (with_reducible refine Below.drew ?_) | ((with_reducible refine Below.alloc ?_ ?hB _); case hB => (first | (with_reducible exact Nat.le_refl _) | omega | (simp; done) | (simp; omega))) | ((with_reducible refine Below.setCell ?_ ?hB _); case hB => (first | (with_reducible exact Nat.le_refl _) | omega | (simp; done) | (simp; omega))))); exact HBW2.out⟩
  · rw [show decide (Watched m L) = false from decide_eq_false hw]
    have HV := Lib.hid (show changedR m L S = ([], false) by rw [changedR, if_neg (fun h => hw h.1)])
    have HO := Lib.hid (World.ownsRow_made (base := w.heap.size) (e := 3) (size := 1) w2 #[] 0 HBW2.out.size (Nat.zero_le _) rfl)
    clear hw
    go_wp2_with fail
    go_ret2
    exact ⟨_, by rw [HV.out]; rfl, by rw [HV.out]; exact HO.out, by have hs := HBW2.out.size; (repeat (first | (with_reducible exact Below.refl _ _) | (with_reducible refine Below.drew ?_) | ((with_reducible refine Below.alloc ?_ ?hB _); case hB => (first | (with_reducible exact Nat.le_refl _) | omega | (simp; done) | (simp; omega))) | ((with_reducible refine Below.setCell ?_ ?hB _); case hB => (first | (with_reducible exact Nat.le_refl _) | omega | (simp; done) | (simp; omega))))); exact HBW2.out⟩
end Go.Proofs.Ytomgjhdknondmab
