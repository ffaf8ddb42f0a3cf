/-
  ChangedSince of spec.
-/
import Derived.Test.YtomgjhdknondmabChgM
import Derived.Test.YtomgjhdknondmabBytes
namespace Go.Proofs.Ytomgjhdknondmab
open Go.RowKit

theorem chg_at {m : List (List Int)} {L : List Win} {S : List (List Int)} {j n s l c : Nat} (hj : j < L.length) (hjs : j < S.length) (hx : L[j] = ⟨n, s, l, c⟩) :
    chgB m L S j = decide (¬ wb m n s l = S[j].take l) ∧ shotN (winAt L j) = max l 1 := by
  unfold chgB shotN seenW
  rw [winAt_eq hj, hx, getD_eq hjs]
  refine ⟨?_, ?_⟩ <;> simp only [Int.toNat_natCast]

set_option maxRecDepth 100000 in
set_option maxHeartbeats 3200000 in
theorem specChangedSince_calls (A : Option Addr) (c : Nat) (m : List (List Int)) (B : Option Addr) (k : Nat) (L : List Win) (A2 : Option Addr) (c2 : Nat) (S : List (List Int)) (w : World) (hr : Rd2 w w.heap.size A m) (hn : m.length ≤ maxLen) (hx : RdW w w.heap.size B L) (hl : L.length ≤ maxLen) (hs : Rd2 w w.heap.size A2 S) (hsn : S.length ≤ maxLen) (hz : ∀ r ∈ m, ∀ z ∈ r, IsB z) (hzs : ∀ r ∈ S, ∀ z ∈ r, IsB z) :
    Calls Try.prog 34 #[.agg #[.slice A m.length c], .slice B L.length k, .agg #[.slice A2 S.length c2]] w fun e w' => ∃ v, e = .returned (.tuple #[v, .bool (changedR m L S).2]) ∧ w'.ownsRow w.heap.size 3 1 v (changedR m L S).1.length (intV .i64 (changedR m L S).1) ∧ Below w.heap.size w w' := by
  obtain ⟨i0, hi0, hz0, hz1, hz2⟩ := info_parts info_int
  obtain ⟨hb0, g1, g2, g3⟩ := enter2 w (.cells #[.slice A m.length c] 31) (.cells #[.slice A2 S.length c2] 31)
  obtain ⟨w0, hw0⟩ : ∃ w0, (w.alloc (.cells #[.slice A m.length c] 31)).alloc (.cells #[.slice A2 S.length c2] 31) = w0 := ⟨_, rfl⟩
  rw [hw0] at hb0 g1 g2 g3
  obtain ⟨w3, hw3⟩ : ∃ w3, w0.alloc (.cells #[] 3) = w3 := ⟨_, rfl⟩
  have hb3 : Below w0.heap.size w0 w3 := by rw [← hw3]; exact (Below.refl _ _).alloc (Nat.le_refl _) _
  have hb3' := hb0.trans (hb3.mono hb0.size)
  have HB0 := Lib.hid hb0
  have HB3 := Lib.hid hb3
  have HO3 : Hid (w3.ownsRow w0.heap.size 3 1 (.slice (some ⟨w.heap.size + 1 + 1, 0, none⟩) 0 0) 0 []) := Lib.hid (by rw [show w.heap.size + 1 + 1 = w0.heap.size by omega, ← hw3]; exact World.ownsRow_made (base := w0.heap.size) (e := 3) (size := 1) w0 #[] 0 (Nat.le_refl _) (Nat.zero_le _) rfl)
  have HG : Hid (∀ W, Below w0.heap.size w0 W → W.cell? ⟨w.heap.size, 0, none⟩ = some (.slice A m.length c) ∧ W.cell? ⟨w.heap.size + 1, 0, none⟩ = some (.slice A2 S.length c2)) := Lib.hid fun W hb => ⟨one_cell ((hb.block _ (Array.getElem?_eq_some_iff.1 g1).1).trans g1), one_cell ((hb.block _ (Array.getElem?_eq_some_iff.1 g2).1).trans g2)⟩
  have HC := Lib.hid (specWatched_calls A c m B k L w3 ((hr.below hb3').more hb3'.size) hn ((hx.below hb3').more hb3'.size) hl)
  have HZ0 := Lib.hid g3
  have HR := Lib.hid hr
  have HX := Lib.hid hx
  have HSR := Lib.hid hs
  have HZ := Lib.hid hz
  have HZS := Lib.hid hzs
  have HW0 := Lib.hid hw0
  rw [← hw0] at hw3
  have HW := Lib.hid hw3
  obtain ⟨p, hp⟩ : ∃ p, chgB m L S = p := ⟨_, rfl⟩
  have HP := Lib.hid hp
  clear hr hx hs hz hzs hb0 hw0 g1 g2 g3 hb3 hw3 hb3' hp
  go_enter Try.func34, Try.ntmps34
  go_upto_region 2 with fail
  rw [HW.out]
  obtain ⟨c3, -⟩ := HG.out w3 HB3.out
  go_wp2_with fail
  clear c3
  refine HC.out.mono ?_
  rintro e w4 ⟨rfl, hb4⟩
  have HB4 := Lib.hid (HB3.out.trans (hb4.mono HB3.out.size))
  have HO4 := Lib.hid (own_keep HO3.out hb4)
  obtain ⟨c4, d4⟩ := HG.out w4 HB4.out
  clear hb4
  by_cases hw : Watched m L
  · rw [show decide (Watched m L) = true from decide_eq_true hw]
    have HWT := Lib.hid hw
    have h12 := hw.2.1
    have HM := Lib.hid (specMemory_calls A2 c2 S w4 ((HSR.out.below (HB0.out.trans (HB4.out.mono HB0.out.size))).more (Nat.le_trans HB0.out.size HB4.out.size)) hsn)
    clear hw
    by_cases hm : MemOK S
    · rw [show decide (MemOK S) = true from decide_eq_true hm] at HM
      have HMS := Lib.hid hm
      clear hm
      go_wp2_with fail
      refine HM.out.mono ?_
      rintro e w5 ⟨rfl, hb5⟩
      have HB5 := Lib.hid (HB4.out.trans (hb5.mono HB4.out.size))
      have HO5 := Lib.hid (own_keep HO4.out hb5)
      clear c4 d4
      obtain ⟨c4, d4⟩ := HG.out w5 HB5.out
      clear hb5
      by_cases hlen : S.length = L.length
      · have HLN := Lib.hid hlen
        have hne : (((S.length : Nat) : Int) != (L.length : Nat)) = false := by rw [hlen]; simp
        clear hlen
        go_wp2_with fail
        clear hne c4 d4
        go_loopw [8, 9] (fun v i wr => ∃ j : Nat, j ≤ L.length ∧ i = .int .i64 j ∧ wr.ownsRow w0.heap.size 3 1 v (idxsTo p j).length (intV .i64 (idxsTo p j)) ∧ ShotTo L S j ∧ Below w0.heap.size w0 wr ∧ ∃ g cap, v = .slice (some ⟨g, 0, none⟩) (idxsTo p j).length cap) (fun _ i _ => L.length - (intOf i).toNat)
        case atStart => exact ⟨0, Nat.zero_le _, rfl, by have h := HO5.out; simpa [idxsTo, intV] using h, fun q hq => by omega, HB5.out, by rw [show (idxsTo p 0).length = 0 from rfl]; exact ⟨_, _, rfl⟩⟩
        case round =>
          obtain ⟨j, hj, rfl, hown, hst, hbr, gv, cv, rfl⟩ := hrel
          have HO := Lib.hid hown
          have HST := Lib.hid hst
          have HBR := Lib.hid hbr
          have hbs := hbr.size
          have hlenI := idxsTo_len p j
          have hbw := HB0.out.trans (hbr.mono HB0.out.size)
          have HBW := Lib.hid hbw
          clear hown hst hbr
          by_cases hlt : j < L.length
          · have hjs : j < S.length := by have := HLN.out; omega
            obtain ⟨b, off, rfl, hbb, e0, e1, e2, e3⟩ := (HX.out.below hbw).at_ hlt
            obtain ⟨b2, off2, As, cas, rfl, hbb2, hcs, hci, hcm, hri⟩ := (HSR.out.below hbw).at_ hjs
            have hok := HWT.out.2.2 L[j] (List.getElem_mem hlt)
            obtain ⟨n, s, l, cc, hxe, hnl, hlc, hsc, h1, h64, h16⟩ := hok.nat
            rw [hxe] at e0 e1 e2 e3
            dsimp only at e0 e1 e2 e3
            obtain ⟨hpj, hsj⟩ := chg_at (m := m) hlt hjs hxe
            rw [HP.out] at hpj
            have HPJ := Lib.hid hpj
            have HSJ := Lib.hid hsj
            have hs64 := (HMS.out.2 S[j] (List.getElem_mem hjs)).2
            obtain ⟨c6, d6⟩ := HG.out wr HBR.out
            have HRI := Lib.hid (hri.more hbw.size)
            have HZJ := Lib.hid (HZS.out S[j] (List.getElem_mem hjs))
            have HGD := Lib.hid (getD_eq hjs)
            clear hok hxe hpj hsj hri hbw
            have hl64 : l ≤ 64 := by omega
            by_cases hq : S[j].length = max l 1
            · have HMX : Hid (∀ W, Calls Try.prog 100 #[.int .i64 l, .int .i64 1] W fun e w' => e = .returned (.int .i64 S[j].length) ∧ w' = W) := Lib.hid (fun W => by
                have h := specMost_calls (l : Int) 1 W
                rw [show (if (1 : Int) < (l : Int) then (l : Int) else 1) = ((S[j].length : Nat) : Int) by rw [hq]; split <;> omega] at h
                exact h.mono (fun _ _ hh => ⟨hh.1, hh.2.symm⟩))
              have HQ := Lib.hid hq
              have hnq : ((S[j].length : Int) != (S[j].length : Int)) = false := by simp
              have HA : Hid (∀ W, Below wr.heap.size wr W → W.cell? ⟨w.heap.size, 0, none⟩ = some (.slice A m.length c) ∧ W.cell? ⟨w.heap.size + 1, 0, none⟩ = some (.slice (some ⟨b2, off2, none⟩) S.length c2) ∧ W.cell? ⟨b2, off2 + j, none⟩ = some (.slice As S[j].length cas) ∧ W.cell? ⟨b, off + j * 4, none⟩ = some (.int .i64 n) ∧ W.cell? ⟨b, off + j * 4 + 1, none⟩ = some (.int .i64 s) ∧ W.cell? ⟨b, off + j * 4 + 2, none⟩ = some (.int .i64 l) ∧ W.cell? ⟨b, off + j * 4 + 3, none⟩ = some (.int .i64 cc)) := Lib.hid fun W h => ⟨(h.cell (cell_lt c6)).trans c6, (h.cell (cell_lt d6)).trans d6, (h.cell (cell_lt hcs)).trans hcs, (h.cell (cell_lt e0)).trans e0, (h.cell (cell_lt e1)).trans e1, (h.cell (cell_lt e2)).trans e2, (h.cell (cell_lt e3)).trans e3⟩
              clear hq c6 d6 e0 e1 e3
              have c6 := (HA.out wr (Below.refl _ _)).1
              have d6 := (HA.out wr (Below.refl _ _)).2.1
              go_wp2_with fail
              go_quiet ((go_at_call 100; exact Calls.quiet_of_same (HMX.out _)))
              rename_i nq
              obtain ⟨w6, hw6⟩ : ∃ w6, wr.drewN nq = w6 := ⟨_, rfl⟩
              rw [hw6]
              have hb6 : Below wr.heap.size wr w6 := by rw [← hw6]; exact below_drewN (Below.refl _ _) _
              have HB6 := Lib.hid hb6
              have HO6 := Lib.hid (own_keep HO.out hb6)
              clear hw6 hcs e2 c6 d6 hnq
              obtain ⟨c6, d6, hcs, e0, e1, e2, e3⟩ := HA.out w6 hb6
              have HA6 := Lib.hid (fun W (hb : Below w6.heap.size w6 W) => HA.out W (HB6.out.trans (hb.mono HB6.out.size)))
              clear hb6
              by_cases hl0 : 0 < l
              · have hSl : S[j].length = l := by have := HQ.out; omega
                have HLEN := Lib.hid (show (wb m n s l).length = l from wb_len hnl (by omega))
                have HS1 := Lib.hid (fun W (hb : Below w6.heap.size w6 W) => specBytes_calls A c m n s l cc W ((HR.out.below (HBW.out.trans ((HB6.out.trans (hb.mono HB6.out.size)).mono HBW.out.size))).more (Nat.le_trans HBW.out.size (Nat.le_trans HB6.out.size hb.size))) hnl h16 (by omega) h64)
                have HOR : Hid (∀ W P1 k1, Below w6.heap.size w6 W → Rd W W.heap.size P1 (intV .u8 (wb m n s l)) → Calls Try.prog 101 #[.slice P1 l k1, .slice As S[j].length cas] W fun e w' => e = .returned (.int .i64 (cmpI (wb m n s l) S[j])) ∧ ∃ q, w' = W.drewN q) := Lib.hid fun W P1 k1 hb h1 => by
                  have h := specOrder_calls P1 As k1 cas _ _ W h1 ((HRI.out.below (HB6.out.trans (hb.mono HB6.out.size))).more (Nat.le_trans HB6.out.size hb.size)) (by rw [HLEN.out]; omega) hs64 (wb_isB hnl HZ.out) HZJ.out
                  rw [HLEN.out] at h
                  exact h
                have HCZ : Hid (p j = !decide (cmpI (wb m n s l) S[j] = 0)) := Lib.hid (by
                  rw [HPJ.out, List.take_of_length_le (by omega)]
                  rw [← decide_not]
                  exact decide_eq_decide.2 (not_congr (cmp_zero _ _ (wb_isB hnl HZ.out) HZJ.out).symm))
                generalize cmpI (wb m n s l) S[j] = q at *
                have hgd : decide ((0 : Int) < (l : Int)) = true := decide_eq_true (by omega)
                clear hSl
                have HC0 := Lib.hid ((Below.refl w6.heap.size w6).drew)
                clear c6 d6 hcs e0 e1 e2 e3
                obtain ⟨c6, d6, hcs, e0, e1, e2, e3⟩ := HA6.out _ HC0.out
                by_cases hq0 : q = 0
                · have HNO := Lib.hid (idxsTo_no (show p j = false by rw [HCZ.out, hq0]; rfl))
                  have hqz : (q != (0 : Int)) = false := by rw [hq0]; rfl
                  clear hq0
                  go_wp2_with fail
                  go_region_held3 (fun W => W.cell? ⟨w.heap.size, 0, none⟩ = some (.slice A m.length c) ∧ W.cell? ⟨w.heap.size + 1, 0, none⟩ = some (.slice (some ⟨b2, off2, none⟩) S.length c2) ∧ W.cell? ⟨b2, off2 + j, none⟩ = some (.slice As S[j].length cas) ∧ W.cell? ⟨b, off + j * 4, none⟩ = some (.int .i64 n) ∧ W.cell? ⟨b, off + j * 4 + 1, none⟩ = some (.int .i64 s) ∧ W.cell? ⟨b, off + j * 4 + 2, none⟩ = some (.int .i64 l) ∧ W.cell? ⟨b, off + j * 4 + 3, none⟩ = some (.int .i64 cc))
                    (first | (with_reducible exact HA6.out _ HC0.out) | (with_reducible exact HA6.out _ hc7) | (with_reducible exact HA6.out _ (below_drewN hc7 _)))
                    (first
                      | (go_at_call 102; (with_reducible refine (HS1.out _ HC0.out).mono ?_); rintro e w7 ⟨g7, k7, rfl, ho7, hb7⟩; have hc7 := HC0.out.trans hb7; have hr7 := Rd.of_own ho7)
                      | (go_at_call 101; refine (HOR.out w7 _ k7 hc7 hr7).mono ?_; rintro e w8 ⟨rfl, z, rfl⟩))
                  have hc8 := below_drewN hc7 z
                  obtain ⟨w8, hw8⟩ : ∃ w8, w7.drewN z = w8 := ⟨_, rfl⟩
                  rw [hw8] at hc8
                  rw [hw8]
                  have HO8 := Lib.hid (own_keep HO6.out hc8)
                  have HB8 := Lib.hid (HBR.out.trans ((HB6.out.trans (hc8.mono HB6.out.size)).mono hbs))
                  have hbs8 := HB8.out.size
                  clear hw8 hc8 hc7 hb7 ho7 hr7 c6 d6 hcs e0 e1 e2 e3
                  go_wp2_with fail
                  go_roundw
                  case rel => exact ⟨j + 1, by omega, by go_num, by rw [HNO.out]; exact HO8.out, shot_snoc HST.out (by rw [HGD.out, HSJ.out, HQ.out]), HB8.out, by rw [HNO.out]; exact ⟨_, _, rfl⟩⟩
                  case measure => simp [intOf]; omega
                · have HNO := Lib.hid (idxsTo_yes (show p j = true by rw [HCZ.out, decide_eq_false hq0]; rfl))
                  have hqz : (q != (0 : Int)) = true := by simp [hq0]
                  clear hq0
                  go_wp2_with fail
                  go_region_held3 (fun W => W.cell? ⟨w.heap.size, 0, none⟩ = some (.slice A m.length c) ∧ W.cell? ⟨w.heap.size + 1, 0, none⟩ = some (.slice (some ⟨b2, off2, none⟩) S.length c2) ∧ W.cell? ⟨b2, off2 + j, none⟩ = some (.slice As S[j].length cas) ∧ W.cell? ⟨b, off + j * 4, none⟩ = some (.int .i64 n) ∧ W.cell? ⟨b, off + j * 4 + 1, none⟩ = some (.int .i64 s) ∧ W.cell? ⟨b, off + j * 4 + 2, none⟩ = some (.int .i64 l) ∧ W.cell? ⟨b, off + j * 4 + 3, none⟩ = some (.int .i64 cc))
                    (first | (with_reducible exact HA6.out _ HC0.out) | (with_reducible exact HA6.out _ hc7) | (with_reducible exact HA6.out _ (below_drewN hc7 _)))
                    (first
                      | (go_at_call 102; (with_reducible refine (HS1.out _ HC0.out).mono ?_); rintro e w7 ⟨g7, k7, rfl, ho7, hb7⟩; have hc7 := HC0.out.trans hb7; have hr7 := Rd.of_own ho7)
                      | (go_at_call 101; refine (HOR.out w7 _ k7 hc7 hr7).mono ?_; rintro e w8 ⟨rfl, z, rfl⟩))
                  have hc8 := below_drewN hc7 z
                  obtain ⟨w8, hw8⟩ : ∃ w8, w7.drewN z = w8 := ⟨_, rfl⟩
                  rw [hw8] at hc8
                  rw [hw8]
                  have HO8 := Lib.hid (own_keep HO6.out hc8)
                  have HB8 := Lib.hid (HBR.out.trans ((HB6.out.trans (hc8.mono HB6.out.size)).mono hbs))
                  have hbs8 := HB8.out.size
                  clear hw8 hc8 hc7 hb7 ho7 hr7 c6 d6 hcs e0 e1 e2 e3
                  go_wp2_with ((at_builtin; refine wpList_append_own _ rfl _ _ 28 rfl w0.heap.size 3 i0 _ 1 8 Try.underlying28 hi0 hz0 hz1 hz2 rfl (by decide) _ _ _ rfl (HO8.out.alloc _) ⟨w8.heap.size, 0, none⟩ 1 1 [.int .i64 j] rfl rfl (cell_one_new _ _ _) (by simp [Value.oneCell']) (by simp only [maxLen]; omega) (by omega) (by simp; omega) ?_; intro v' w9 hown9 hgrow _))
                  have HB9 : Hid (Below w0.heap.size w0 w9) := below_own0 (HB8.out.alloc hbs8 _) (HO8.out.alloc _) hgrow (by simp; omega)
                  have HL9 := Lib.hid (show (idxsTo p (j + 1)).length = (idxsTo p j).length + 1 by rw [HNO.out]; simp)
                  have HO9 : Hid (w9.ownsRow w0.heap.size 3 1 v' (idxsTo p (j + 1)).length (intV .i64 (idxsTo p (j + 1)))) := Lib.hid (by
                    rw [HL9.out, show intV .i64 (idxsTo p (j + 1)) = intV .i64 (idxsTo p j) ++ [.int .i64 j] by rw [HNO.out]; simp [intV]]; exact hown9)
                  have HF9 := Lib.hid (own_some0 HO9.out (by rw [HL9.out]; omega))
                  clear hown9 hgrow
                  go_roundw
                  case rel => exact ⟨j + 1, by omega, by go_num, HO9.out, shot_snoc HST.out (by rw [HGD.out, HSJ.out, HQ.out]), HB9.out, HF9.out⟩
                  case measure => simp [intOf]; omega
              · have HNO := Lib.hid (idxsTo_no (show p j = false by
                  rw [HPJ.out, show l = 0 by omega]
                  simp [wb]))
                have hgd : decide ((0 : Int) < (l : Int)) = false := decide_eq_false (by omega)
                clear c6 d6 hcs e0 e1 e3
                go_wp2_with fail
                go_quiet (fail)
                go_wp2_with fail
                go_roundw
                case rel => exact ⟨j + 1, by omega, by go_num, by rw [HNO.out]; exact HO6.out, shot_snoc HST.out (by rw [HGD.out, HSJ.out, HQ.out]), below_drewN (HBR.out.trans (HB6.out.mono hbs)) _, by rw [HNO.out]; exact ⟨_, _, rfl⟩⟩
                case measure => simp [intOf]; omega
            · have HV := Lib.hid (show changedR m L S = ([], false) by rw [changedR, if_neg (fun h => hq (by have h2 := h.2.2 j hlt; rw [HGD.out, HSJ.out] at h2; exact h2))])
              have HMX : Hid (∀ W, Calls Try.prog 100 #[.int .i64 l, .int .i64 1] W fun e w' => e = .returned (.int .i64 (max l 1 : Nat)) ∧ w' = W) := Lib.hid (fun W => by
                have h := specMost_calls (l : Int) 1 W
                rw [show (if (1 : Int) < (l : Int) then (l : Int) else 1) = ((max l 1 : Nat) : Int) by split <;> omega] at h
                exact h.mono (fun _ _ hh => ⟨hh.1, hh.2.symm⟩))
              have hnq : ((S[j].length : Int) != ((max l 1 : Nat) : Int)) = true := by simp only [bne_iff_ne]; omega
              generalize max l 1 = M at *
              go_wp2_with fail
              go_quiet ((go_at_call 100; exact Calls.quiet_of_same (HMX.out _)))
              go_wp2_with fail
              go_ret2
              exact ⟨_, by rw [HV.out]; rfl, by rw [HV.out]; exact World.ownsRow_made (base := w.heap.size) (e := 3) (size := 1) _ #[] 0 HBW.out.size (Nat.zero_le _) rfl, by have hs := HBW.out.size; (repeat (first | (with_reducible exact Below.refl _ _) | (with_reducible refine Below.drew ?_) | ((with_reducible refine Below.alloc ?_ ?hB _); case hB => (first | (with_reducible exact Nat.le_refl _) | omega | (simp; done) | (simp; omega))) | ((with_reducible refine Below.setCell ?_ ?hB _); case hB => (first | (with_reducible exact Nat.le_refl _) | omega | (simp; done) | (simp; omega))))); exact below_drewN HBW.out _⟩
          · obtain rfl : j = L.length := by omega
            have HV := Lib.hid (show changedR m L S = (idxsTo p L.length, true) by rw [changedR, if_pos ⟨HWT.out, HLN.out, HST.out⟩, HP.out])
            go_wp2_with fail
            go_ret2
            exact ⟨_, by rw [HV.out]; rfl, by rw [HV.out]; exact own_mono0 HO.out HB0.out.size, HBW.out⟩
      · have hne : (((S.length : Nat) : Int) != (L.length : Nat)) = true := by simp; omega
        have HV := Lib.hid (show changedR m L S = ([], false) by rw [changedR, if_neg (fun h => hlen h.2.1)])
        clear hlen
        go_wp2_with fail
        go_ret2
        exact ⟨_, by rw [HV.out]; rfl, by rw [HV.out]; exact own_mono0 HO5.out HB0.out.size, HB0.out.trans (HB5.out.mono HB0.out.size)⟩
    · rw [show decide (MemOK S) = false from decide_eq_false hm] at HM
      have HV := Lib.hid (show changedR m L S = ([], false) by rw [changedR, if_neg (fun h => hm (shot_mem h.1 h.2))])
      clear hm
      go_wp2_with fail
      refine HM.out.mono ?_
      rintro e w5 ⟨rfl, hb5⟩
      have HB5 := Lib.hid (HB4.out.trans (hb5.mono HB4.out.size))
      have HO5 := Lib.hid (own_keep HO4.out hb5)
      clear hb5
      go_wp2_with fail
      go_ret2
      exact ⟨_, by rw [HV.out]; rfl, by rw [HV.out]; exact own_mono0 HO5.out HB0.out.size, HB0.out.trans (HB5.out.mono HB0.out.size)⟩
  · rw [show decide (Watched m L) = false from decide_eq_false hw]
    have HV := Lib.hid (show changedR m L S = ([], false) by rw [changedR, if_neg (fun h => hw h.1)])
    clear hw
    go_wp2_with fail
    go_ret2
    exact ⟨_, by rw [HV.out]; rfl, by rw [HV.out]; exact own_mono0 HO4.out HB0.out.size, HB0.out.trans (HB4.out.mono HB0.out.size)⟩
end Go.Proofs.Ytomgjhdknondmab
