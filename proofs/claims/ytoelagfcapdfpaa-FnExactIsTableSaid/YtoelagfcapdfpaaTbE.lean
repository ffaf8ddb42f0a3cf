/-
  Tables: the program's test; IsTable of both.
-/
import Derived.Test.YtoelagfcapdfpaaTbD
namespace Go.Proofs.Ytoelagfcapdfpaa
open Go.RowKit Go.ChangeShapes Go.WideShapes Go.Joins Go.Deep

theorem newE (W : World) : EBox 93 (W.alloc (.cells #[.int .u8 0, .int .u8 0, .int .u8 0, .int .u8 0, .int .u8 0, .int .u8 0, .int .u8 0, .int .u8 0, .int .u8 0, .int .u8 0, .int .u8 0, .int .u8 0, .int .u8 0, .int .u8 0, .int .u8 0, .int .u8 0, .int .i64 0, .int .i64 0, .int .i64 0, .int .i64 0] 93)) W.heap.size zeroE := ⟨heap_alloc_new _ _, by decide⟩
theorem size_entL2 {x : En} (h : x.key.length = 16) : (Try.prog.info? 93).map (·.size) = some (enL x).length := by
  rw [← List.size_toArray]
  exact size_ent h
set_option maxRecDepth 100000 in
set_option maxHeartbeats 1600000 in
theorem implTable_calls (A : Option Addr) (cm : Nat) (m : List (List Int)) (B : Option Addr) (kc : Nat) (L : List En) (w : World) (hr : Rd2 w w.heap.size A m) (hn : m.length ≤ maxLen) (hx : RdE w w.heap.size B L) (hl : L.length ≤ maxLen) (ha : ∀ x ∈ L, EArg x) :
    Calls Try.prog 81 #[.agg #[.slice A m.length cm], .slice B L.length kc] w fun e w' => e = .returned (.bool (decide (TabOK m L))) ∧ Below w.heap.size w w' := by
  unfold maxLen at hl
  obtain ⟨w0, hw0, hb0, hz0, hg0⟩ := enterMem A m.length cm w
  have HCM := Lib.hid (implIsMemory_calls A cm m w0 ((hr.below hb0).more hb0.size) hn)
  have HCW := Lib.hid (fun (hm : MemOK m) (x : Win) (hwx : WArg x) W (hb : Below w.heap.size w W) => implFits_calls A cm m x W ((hr.below hb).more hb.size) hm hwx)
  have HX := Lib.hid hx
  have HEA := Lib.hid ha
  have HB0 := Lib.hid hb0
  have HW := Lib.hid hw0
  have HZ0 := Lib.hid hz0
  have HCELL : Hid (∀ W, Below w0.heap.size w0 W → W.cell? ⟨w.heap.size, 0, none⟩ = some (.slice A m.length cm)) := Lib.hid fun W hb => one_cell ((hb.block _ (Array.getElem?_eq_some_iff.1 hg0).1).trans hg0)
  have c0 := one_cell hg0
  clear hr hx ha hb0 hw0 hz0 hg0 hn
  go_enter Try.func81, Try.ntmps81
  go_upto_region 1 with fail
  rw [HW.out]
  go_wp2_with fail
  refine HCM.out.mono ?_
  rintro e w1 ⟨rfl, hb1⟩
  have HB1 := Lib.hid hb1
  clear hb1 c0
  by_cases hm : MemOK m
  · rw [show decide (MemOK m) = true from decide_eq_true hm]
    have HFIT := Lib.hid (HCW.out hm)
    have HM := Lib.hid hm
    clear hm
    by_cases h12 : L.length ≤ 12
    · have h12' : (L.length : Int) ≤ 12 := by omega
      have h12'' : ¬ (12 : Int) < L.length := by omega
      go_wp2_with fail
      go_loopw [17] (fun t wr => ∃ k : Nat, k ≤ L.length ∧ t = .int .i64 k ∧ Pre m L k ∧ Below w0.heap.size w0 wr) (fun t _ => L.length - (intOf t).toNat)
      case atStart => exact ⟨0, Nat.zero_le _, rfl, Pre.zero _ _, HB1.out⟩
      case round =>
        obtain ⟨k, hk, rfl, hp, hb⟩ := hrel
        have HP := Lib.hid hp
        have HB := Lib.hid hb
        have HBW := Lib.hid (HB0.out.trans (hb.mono HB0.out.size))
        by_cases hlt : k < L.length
        · obtain ⟨b, off, rfl, hbb, hkl, hrg⟩ := (HX.out.below HBW.out).at_ hlt
          have hxL := HEA.out L[k] (List.getElem_mem hlt)
          have HGD := Lib.hid (getD_at hlt)
          have hbw : b < wr.heap.size := Nat.lt_of_lt_of_le hbb HBW.out.size
          clear hp hb
          obtain ⟨x, hxe⟩ : ∃ x, L[k] = x := ⟨_, rfl⟩
          rw [hxe] at hkl hrg hxL HGD
          clear hxe
          have HSX := Lib.hid (size_key hkl)
          have HR := Lib.hid hrg
          have HK := Lib.hid hkl
          have HXA := Lib.hid hxL
          clear hkl hrg hxL
          go_upto_region 6 with (first | (refine wpList_load_mid rfl 93 _ rfl b (off + k * 20) rfl (enL x) _ HR.out Try.underlying93 rfl (size_entL2 HK.out) ?_) | (refine EBox.st (x := zeroE) (y := x) (newE _) rfl _ _ rfl rfl HK.out rfl ?_))
          have HV : Hid (Below wr.heap.size wr ((wr.alloc (.cells #[.int .u8 0, .int .u8 0, .int .u8 0, .int .u8 0, .int .u8 0, .int .u8 0, .int .u8 0, .int .u8 0, .int .u8 0, .int .u8 0, .int .u8 0, .int .u8 0, .int .u8 0, .int .u8 0, .int .u8 0, .int .u8 0, .int .i64 0, .int .i64 0, .int .i64 0, .int .i64 0] 93)).setRow wr.heap.size (enL x).toArray)) := Lib.hid (Below.setRow ((Below.refl _ _).alloc (Nat.le_refl _) _) (Nat.le_refl _) _)
          have HVX : Hid (EBox 93 ((wr.alloc (.cells #[.int .u8 0, .int .u8 0, .int .u8 0, .int .u8 0, .int .u8 0, .int .u8 0, .int .u8 0, .int .u8 0, .int .u8 0, .int .u8 0, .int .u8 0, .int .u8 0, .int .u8 0, .int .u8 0, .int .u8 0, .int .u8 0, .int .i64 0, .int .i64 0, .int .i64 0, .int .i64 0] 93)).setRow wr.heap.size (enL x).toArray) wr.heap.size x) := Lib.hid ((newE wr).row HK.out)
          generalize ((wr.alloc (.cells #[.int .u8 0, .int .u8 0, .int .u8 0, .int .u8 0, .int .u8 0, .int .u8 0, .int .u8 0, .int .u8 0, .int .u8 0, .int .u8 0, .int .u8 0, .int .u8 0, .int .u8 0, .int .u8 0, .int .u8 0, .int .u8 0, .int .i64 0, .int .i64 0, .int .i64 0, .int .i64 0] 93)).setRow wr.heap.size (enL x).toArray) = V at *
          obtain ⟨G, hG⟩ : ∃ G, wr.heap.size = G := ⟨_, rfl⟩
          have HGS := Lib.hid hG
          rw [hG] at HVX ⊢
          clear hG
          have HC := Lib.hid (fun W (hb : Below V.heap.size V W) => HFIT.out x.w HXA.out.2 W (HBW.out.trans ((HV.out.trans (hb.mono HV.out.size)).mono HBW.out.size)))
          unfold Win.val at HC
          have hc0 : Below V.heap.size V V.drew := (Below.refl _ _).drew
          have HQ1 : Hid (∀ W, Below V.heap.size V W → W.cell? ⟨w.heap.size, 0, none⟩ = some (.slice A m.length cm) ∧ W.cell? ⟨G, 16, none⟩ = some (.int .i64 x.w.arr) ∧ W.cell? ⟨G, 17, none⟩ = some (.int .i64 x.w.start) ∧ W.cell? ⟨G, 18, none⟩ = some (.int .i64 x.w.len) ∧ W.cell? ⟨G, 19, none⟩ = some (.int .i64 x.w.cap)) := Lib.hid fun W h => by
            obtain ⟨e0, e1, e2, e3⟩ := (HVX.out.below h).win
            exact ⟨HCELL.out W (HB.out.trans ((HV.out.trans (h.mono HV.out.size)).mono HB.out.size)), e0, e1, e2, e3⟩
          by_cases hwin : WinOK m x.w
          · rw [show decide (WinOK m x.w) = true from decide_eq_true hwin] at HC
            have HWN := Lib.hid hwin
            clear hwin
            rcases Nat.eq_zero_or_pos k with hz | hpos
            · have HQ := HQ1
              have hkz : ¬ 0 < k := by omega
              have hkd : decide (0 < k) = false := decide_eq_false hkz
              have HZK := Lib.hid hz
              clear hz
              go_wp2_with fail
              refine wp_region_held_drew (S := (fun W => W.cell? ⟨w.heap.size, 0, none⟩ = some (.slice A m.length cm) ∧ W.cell? ⟨G, 16, none⟩ = some (.int .i64 x.w.arr) ∧ W.cell? ⟨G, 17, none⟩ = some (.int .i64 x.w.start) ∧ W.cell? ⟨G, 18, none⟩ = some (.int .i64 x.w.len) ∧ W.cell? ⟨G, 19, none⟩ = some (.int .i64 x.w.cap))) (by kernel_rfl) ?_ (fun hHeld => ?_)
              · (first | (with_reducible exact HQ.out _ hc0) | exact HQ.out _ hc2)
              refine takeD (i := 0) (d := 22) (v := ?_) rfl rfl (by kernel_rfl) (by kernel_rfl) (by kernel_rfl) (fun _ _ _ h => h) (by rfl) ?_ (by assumption) ?_
              rotate_left
              · (intro w hSw; (try dsimp only at hSw); go_simp; (try (with_reducible rfl)))
              simp only [Act.put, List.setIfInBounds_toArray, List.set_cons_zero, List.set_cons_succ]
              refine takeD (i := 1) (d := 23) (v := ?_) rfl rfl (by kernel_rfl) (by kernel_rfl) (by kernel_rfl) (fun _ _ _ h => h) (by rfl) ?_ (by assumption) ?_
              rotate_left
              · (intro w hSw; (try dsimp only at hSw); go_simp; (try (with_reducible rfl)))
              simp only [Act.put, List.setIfInBounds_toArray, List.set_cons_zero, List.set_cons_succ]
              refine takeD (i := 2) (d := 24) (v := ?_) rfl rfl (by kernel_rfl) (by kernel_rfl) (by kernel_rfl) (fun _ _ _ h => h) (by rfl) ?_ (by assumption) ?_
              rotate_left
              · (intro w hSw; (try dsimp only at hSw); go_simp; (try (with_reducible rfl)))
              simp only [Act.put, List.setIfInBounds_toArray, List.set_cons_zero, List.set_cons_succ]
              refine wpAnyH_ready (rs := [3]) (by kernel_rfl) (by simp) ?_
              refine AllReadyH.cons rfl (fun K hK => ?_) AllReadyH.nil
              (try go_simp)
              (go_at_call 105; refine (HC.out _ hc0).mono ?_; rintro e w2 ⟨rfl, hb2⟩; have hc2 := hc0.trans (hb2.mono hc0.size))
              refine hK.out _ _ ?_ (fun hHeld => ?_)
              · (first | (with_reducible exact HQ.out _ hc0) | exact HQ.out _ hc2)
              clear hK K
              try simp only [Act.put, List.setIfInBounds_toArray, List.set_cons_zero, List.set_cons_succ]
              refine takeD (i := 4) (d := 26) (v := ?_) rfl rfl (by kernel_rfl) (by kernel_rfl) (by kernel_rfl) (fun _ _ _ h => h) (by rfl) ?_ (by assumption) ?_
              rotate_left
              · (intro w hSw; (try dsimp only at hSw); go_simp; (try (with_reducible rfl)))
              simp only [Act.put, List.setIfInBounds_toArray, List.set_cons_zero, List.set_cons_succ]
              refine takeD (i := 5) (d := 27) (v := ?_) rfl rfl (by kernel_rfl) (by kernel_rfl) (by kernel_rfl) (fun _ _ _ h => h) (by rfl) ?_ (by assumption) ?_
              rotate_left
              · (intro w hSw; (try dsimp only at hSw); go_simp; (try (with_reducible rfl)))
              simp only [Act.put, List.setIfInBounds_toArray, List.set_cons_zero, List.set_cons_succ]
              refine takeD (i := 6) (d := 28) (v := ?_) rfl rfl (by kernel_rfl) (by kernel_rfl) (by kernel_rfl) (fun _ _ _ h => h) (by rfl) ?_ (by assumption) ?_
              rotate_left
              · (intro w hSw; (try dsimp only at hSw); go_simp; (try (with_reducible rfl)))
              simp only [Act.put, List.setIfInBounds_toArray, List.set_cons_zero, List.set_cons_succ]
              refine takeD (i := 7) (d := 29) (v := ?_) rfl rfl (by kernel_rfl) (by kernel_rfl) (by kernel_rfl) (fun _ _ _ h => h) (by rfl) ?_ (by assumption) ?_
              rotate_left
              · (intro w hSw; (try dsimp only at hSw); go_simp; (try (with_reducible rfl)))
              simp only [Act.put, List.setIfInBounds_toArray, List.set_cons_zero, List.set_cons_succ]
              refine takeD (i := 8) (d := 30) (v := ?_) rfl rfl (by kernel_rfl) (by kernel_rfl) (by kernel_rfl) (fun _ _ _ h => h) (by rfl) ?_ (by assumption) ?_
              rotate_left
              · (intro w hSw; (try dsimp only at hSw); go_simp; (try (with_reducible rfl)))
              simp only [Act.put, List.setIfInBounds_toArray, List.set_cons_zero, List.set_cons_succ]
              refine skipD (i := 9) (d := 31) rfl rfl (by kernel_rfl) (by kernel_rfl) (by kernel_rfl) (fun _ _ _ h => h) (by rfl) (by assumption) ?_
              simp only [Act.put, List.setIfInBounds_toArray, List.set_cons_succ]
              refine skipD (i := 10) (d := 32) rfl rfl (by kernel_rfl) (by kernel_rfl) (by kernel_rfl) (fun _ _ _ h => h) (by rfl) (by assumption) ?_
              simp only [Act.put, List.setIfInBounds_toArray, List.set_cons_succ]
              refine skipD (i := 11) (d := 33) rfl rfl (by kernel_rfl) (by kernel_rfl) (by kernel_rfl) (fun _ _ _ h => h) (by rfl) (by assumption) ?_
              simp only [Act.put, List.setIfInBounds_toArray, List.set_cons_succ]
              refine skipD (i := 12) (d := 34) rfl rfl (by kernel_rfl) (by kernel_rfl) (by kernel_rfl) (fun _ _ _ h => h) (by rfl) (by assumption) ?_
              simp only [Act.put, List.setIfInBounds_toArray, List.set_cons_succ]
              refine skipD (i := 13) (d := 35) rfl rfl (by kernel_rfl) (by kernel_rfl) (by kernel_rfl) (fun _ _ _ h => h) (by rfl) (by assumption) ?_
              simp only [Act.put, List.setIfInBounds_toArray, List.set_cons_succ]
              refine skipD (i := 14) (d := 36) rfl rfl (by kernel_rfl) (by kernel_rfl) (by kernel_rfl) (fun _ _ _ h => h) (by rfl) (by assumption) ?_
              simp only [Act.put, List.setIfInBounds_toArray, List.set_cons_succ]
              refine skipD (i := 15) (d := 37) rfl rfl (by kernel_rfl) (by kernel_rfl) (by kernel_rfl) (fun _ _ _ h => h) (by rfl) (by assumption) ?_
              simp only [Act.put, List.setIfInBounds_toArray, List.set_cons_succ]
              refine skipD (i := 16) (d := 38) rfl rfl (by kernel_rfl) (by kernel_rfl) (by kernel_rfl) (fun _ _ _ h => h) (by rfl) (by assumption) ?_
              simp only [Act.put, List.setIfInBounds_toArray, List.set_cons_succ]
              refine skipD (i := 17) (d := 39) rfl rfl (by kernel_rfl) (by kernel_rfl) (by kernel_rfl) (fun _ _ _ h => h) (by rfl) (by assumption) ?_
              simp only [Act.put, List.setIfInBounds_toArray, List.set_cons_succ]
              refine skipD (i := 18) (d := 40) rfl rfl (by kernel_rfl) (by kernel_rfl) (by kernel_rfl) (fun _ _ _ h => h) (by rfl) (by assumption) ?_
              simp only [Act.put, List.setIfInBounds_toArray, List.set_cons_succ]
              refine takeD (i := 19) (d := 41) (v := ?_) rfl rfl (by kernel_rfl) (by kernel_rfl) (by kernel_rfl) (fun _ _ _ h => h) (by rfl) ?_ (by assumption) ?_
              rotate_left
              · (intro w hSw; (try dsimp only at hSw); go_simp; (try (with_reducible rfl)))
              simp only [Act.put, List.setIfInBounds_toArray, List.set_cons_zero, List.set_cons_succ]
              refine takeD (i := 20) (d := 42) (v := ?_) rfl rfl (by kernel_rfl) (by kernel_rfl) (by kernel_rfl) (fun _ _ _ h => h) (by rfl) ?_ (by assumption) ?_
              rotate_left
              · (intro w hSw; (try dsimp only at hSw); go_simp; (try (with_reducible rfl)))
              simp only [Act.put, List.setIfInBounds_toArray, List.set_cons_zero, List.set_cons_succ]
              refine wpAnyH_done (by kernel_rfl) ?_ _
              have HB2 := Lib.hid (HB.out.trans ((HV.out.trans (hc2.mono HV.out.size)).mono HB.out.size))
              clear hb2 hc2 hc0 hHeld
              go_wp2_with fail
              go_roundw
              case rel => exact ⟨k + 1, by omega, by go_num, HP.out.step (by rw [HGD.out]; exact HWN.out) (fun h => absurd HZK.out (by omega)), HB2.out⟩
              case measure => simp [intOf]; omega
            · obtain ⟨j, hjk⟩ : ∃ j, k = j + 1 := ⟨k - 1, by omega⟩
              have hjl : j < L.length := by omega
              obtain ⟨b', off', hbo, _, hyl, hrgy⟩ := (HX.out.below HBW.out).at_ hjl
              injection hbo with hbo
              injection hbo with e1 e2
              subst e1; subst e2
              have HGY := Lib.hid (show L.getD (k - 1) default = L[j] by rw [show k - 1 = j by omega]; exact getD_at hjl)
              have hyA := HEA.out L[j] (List.getElem_mem hjl)
              obtain ⟨y, hye⟩ : ∃ y, L[j] = y := ⟨_, rfl⟩
              rw [hye] at hyl hrgy hyA HGY
              clear hye
              have HSY := Lib.hid (size_key hyl)
              have HRY := Lib.hid hrgy
              have HLK := Lib.hid (fun W => implLessKey_calls y.key x.key W hyA.1 HXA.out.1)
              have HQ : Hid (∀ W, Below V.heap.size V W → W.cell? ⟨w.heap.size, 0, none⟩ = some (.slice A m.length cm) ∧ W.cell? ⟨G, 16, none⟩ = some (.int .i64 x.w.arr) ∧ W.cell? ⟨G, 17, none⟩ = some (.int .i64 x.w.start) ∧ W.cell? ⟨G, 18, none⟩ = some (.int .i64 x.w.len) ∧ W.cell? ⟨G, 19, none⟩ = some (.int .i64 x.w.cap) ∧ W.rangeAt G 0 (intV .u8 x.key) ∧ W.rangeAt b (off + j * 20) (intV .u8 y.key)) := Lib.hid fun W h => by
                obtain ⟨q0, q1, q2, q3, q4⟩ := HQ1.out W h
                have hv := HV.out.trans (h.mono HV.out.size)
                exact ⟨q0, q1, q2, q3, q4, (HVX.out.below h).key, fun i v hv' => (hv.cell hbw).trans (range_key HRY.out i v hv')⟩
              obtain ⟨p, hpp⟩ : ∃ p, lessK y.key x.key = p := ⟨_, rfl⟩
              rw [hpp] at HLK
              have HPP := Lib.hid hpp
              have hkj : (k : Int) - 1 = j := by omega
              have hwj : IntKind.i64.wrap (j : Int) = (j : Int) := IntWalk.i64_in _ (by omega)
              have hjl2 : (j : Int) < L.length := by omega
              have hj0 : (0 : Int) ≤ j := by omega
              have hkd : decide (0 < k) = true := decide_eq_true hpos
              have HJK := Lib.hid hjk
              clear hyl hrgy hyA hpp hjk
              go_wp2_with fail
              refine wp_region_held_drew (S := (fun W => W.cell? ⟨w.heap.size, 0, none⟩ = some (.slice A m.length cm) ∧ W.cell? ⟨G, 16, none⟩ = some (.int .i64 x.w.arr) ∧ W.cell? ⟨G, 17, none⟩ = some (.int .i64 x.w.start) ∧ W.cell? ⟨G, 18, none⟩ = some (.int .i64 x.w.len) ∧ W.cell? ⟨G, 19, none⟩ = some (.int .i64 x.w.cap) ∧ W.rangeAt G 0 (intV .u8 x.key) ∧ W.rangeAt b (off + j * 20) (intV .u8 y.key))) (by kernel_rfl) ?_ (fun hHeld => ?_)
              · (first | (with_reducible exact HQ.out _ hc0) | (with_reducible exact HQ.out _ hc2) | exact HQ.out _ hc3)
              refine takeD (i := 0) (d := 22) (v := ?_) rfl rfl (by kernel_rfl) (by kernel_rfl) (by kernel_rfl) (fun _ _ _ h => h) (by rfl) ?_ (by assumption) ?_
              rotate_left
              · (intro w hSw; (try dsimp only at hSw); go_simp; (try (with_reducible rfl)))
              simp only [Act.put, List.setIfInBounds_toArray, List.set_cons_zero, List.set_cons_succ]
              refine takeD (i := 1) (d := 23) (v := ?_) rfl rfl (by kernel_rfl) (by kernel_rfl) (by kernel_rfl) (fun _ _ _ h => h) (by rfl) ?_ (by assumption) ?_
              rotate_left
              · (intro w hSw; (try dsimp only at hSw); go_simp; (try (with_reducible rfl)))
              simp only [Act.put, List.setIfInBounds_toArray, List.set_cons_zero, List.set_cons_succ]
              refine takeD (i := 2) (d := 24) (v := ?_) rfl rfl (by kernel_rfl) (by kernel_rfl) (by kernel_rfl) (fun _ _ _ h => h) (by rfl) ?_ (by assumption) ?_
              rotate_left
              · (intro w hSw; (try dsimp only at hSw); go_simp; (try (with_reducible rfl)))
              simp only [Act.put, List.setIfInBounds_toArray, List.set_cons_zero, List.set_cons_succ]
              refine wpAnyH_ready (rs := [3]) (by kernel_rfl) (by simp) ?_
              refine AllReadyH.cons rfl (fun K hK => ?_) AllReadyH.nil
              (try go_simp)
              (go_at_call 105; refine (HC.out _ hc0).mono ?_; rintro e w2 ⟨rfl, hb2⟩; have hc2 := hc0.trans (hb2.mono hc0.size))
              refine hK.out _ _ ?_ (fun hHeld => ?_)
              · (first | (with_reducible exact HQ.out _ hc0) | (with_reducible exact HQ.out _ hc2) | exact HQ.out _ hc3)
              clear hK K
              try simp only [Act.put, List.setIfInBounds_toArray, List.set_cons_zero, List.set_cons_succ]
              refine takeD (i := 4) (d := 26) (v := ?_) rfl rfl (by kernel_rfl) (by kernel_rfl) (by kernel_rfl) (fun _ _ _ h => h) (by rfl) ?_ (by assumption) ?_
              rotate_left
              · (intro w hSw; (try dsimp only at hSw); go_simp; (try (with_reducible rfl)))
              simp only [Act.put, List.setIfInBounds_toArray, List.set_cons_zero, List.set_cons_succ]
              refine takeD (i := 5) (d := 27) (v := ?_) rfl rfl (by kernel_rfl) (by kernel_rfl) (by kernel_rfl) (fun _ _ _ h => h) (by rfl) ?_ (by assumption) ?_
              rotate_left
              · (intro w hSw; (try dsimp only at hSw); go_simp; (try (with_reducible rfl)))
              simp only [Act.put, List.setIfInBounds_toArray, List.set_cons_zero, List.set_cons_succ]
              refine takeD (i := 6) (d := 28) (v := ?_) rfl rfl (by kernel_rfl) (by kernel_rfl) (by kernel_rfl) (fun _ _ _ h => h) (by rfl) ?_ (by assumption) ?_
              rotate_left
              · (intro w hSw; (try dsimp only at hSw); go_simp; (try (with_reducible rfl)))
              simp only [Act.put, List.setIfInBounds_toArray, List.set_cons_zero, List.set_cons_succ]
              refine takeD (i := 7) (d := 29) (v := ?_) rfl rfl (by kernel_rfl) (by kernel_rfl) (by kernel_rfl) (fun _ _ _ h => h) (by rfl) ?_ (by assumption) ?_
              rotate_left
              · (intro w hSw; (try dsimp only at hSw); go_simp; (try (with_reducible rfl)))
              simp only [Act.put, List.setIfInBounds_toArray, List.set_cons_zero, List.set_cons_succ]
              refine takeD (i := 8) (d := 30) (v := ?_) rfl rfl (by kernel_rfl) (by kernel_rfl) (by kernel_rfl) (fun _ _ _ h => h) (by rfl) ?_ (by assumption) ?_
              rotate_left
              · (intro w hSw; (try dsimp only at hSw); go_simp; (try (with_reducible rfl)))
              simp only [Act.put, List.setIfInBounds_toArray, List.set_cons_zero, List.set_cons_succ]
              refine takeD (i := 9) (d := 31) (v := ?_) rfl rfl (by kernel_rfl) (by kernel_rfl) (by kernel_rfl) (fun _ _ _ h => h) (by rfl) ?_ (by assumption) ?_
              rotate_left
              · (intro w hSw; (try dsimp only at hSw); go_simp; (try (with_reducible rfl)))
              simp only [Act.put, List.setIfInBounds_toArray, List.set_cons_zero, List.set_cons_succ]
              refine takeD (i := 10) (d := 32) (v := ?_) rfl rfl (by kernel_rfl) (by kernel_rfl) (by kernel_rfl) (fun _ _ _ h => h) (by rfl) ?_ (by assumption) ?_
              rotate_left
              · (intro w hSw; (try dsimp only at hSw); go_simp; (try (with_reducible rfl)))
              simp only [Act.put, List.setIfInBounds_toArray, List.set_cons_zero, List.set_cons_succ]
              refine takeD (i := 11) (d := 33) (v := ?_) rfl rfl (by kernel_rfl) (by kernel_rfl) (by kernel_rfl) (fun _ _ _ h => h) (by rfl) ?_ (by assumption) ?_
              rotate_left
              · (intro w hSw; (try dsimp only at hSw); go_simp; (try (with_reducible rfl)))
              simp only [Act.put, List.setIfInBounds_toArray, List.set_cons_zero, List.set_cons_succ]
              refine takeD (i := 12) (d := 34) (v := ?_) rfl rfl (by kernel_rfl) (by kernel_rfl) (by kernel_rfl) (fun _ _ _ h => h) (by rfl) ?_ (by assumption) ?_
              rotate_left
              · (intro w hSw; (try dsimp only at hSw); go_simp; (try (with_reducible rfl)))
              simp only [Act.put, List.setIfInBounds_toArray, List.set_cons_zero, List.set_cons_succ]
              refine takeD (i := 13) (d := 35) (v := ?_) rfl rfl (by kernel_rfl) (by kernel_rfl) (by kernel_rfl) (fun _ _ _ h => h) (by rfl) ?_ (by assumption) ?_
              rotate_left
              · (intro w hSw; (try dsimp only at hSw); go_simp; (try (with_reducible rfl)))
              simp only [Act.put, List.setIfInBounds_toArray, List.set_cons_zero, List.set_cons_succ]
              refine' wpAnyH_take (i := 14) (oi := _) (v := _) rfl (by kernel_rfl) (by kernel_rfl) (by kernel_rfl) (fun _ _ _ h => h) (yieldsIf_load_mid (by rfl) _ _ rfl _ _ rfl (intV .u8 y.key) _ (fun _ h => h.2.2.2.2.2.2) under_key rfl HSY.out) hHeld ?_
              simp only [Act.put, List.setIfInBounds_toArray]
              refine takeD (i := 15) (d := 37) (v := ?_) rfl rfl (by kernel_rfl) (by kernel_rfl) (by kernel_rfl) (fun _ _ _ h => h) (by rfl) ?_ (by assumption) ?_
              rotate_left
              · (intro w hSw; (try dsimp only at hSw); go_simp; (try (with_reducible rfl)))
              simp only [Act.put]
              refine' wpAnyH_take (i := 16) (oi := _) (v := _) rfl (by kernel_rfl) (by kernel_rfl) (by kernel_rfl) (fun _ _ _ h => h) (yieldsIf_load_mid (by rfl) _ _ rfl _ _ rfl (intV .u8 x.key) _ (fun _ h => h.2.2.2.2.2.1) under_key rfl HSX.out) hHeld ?_
              simp only [Act.put]
              refine wpAnyH_ready (rs := [17]) (by kernel_rfl) (by simp) ?_
              refine AllReadyH.cons rfl (fun K hK => ?_) AllReadyH.nil
              (try go_simp)
              (go_at_call 27; refine (HLK.out _).mono ?_; rintro e w3 ⟨rfl, hb3⟩; have hc3 := hc2.trans (hb3.mono hc2.size))
              refine hK.out _ _ ?_ (fun hHeld => ?_)
              · (first | (with_reducible exact HQ.out _ hc0) | (with_reducible exact HQ.out _ hc2) | exact HQ.out _ hc3)
              clear hK K
              try simp only [Act.put, List.setIfInBounds_toArray, List.set_cons_zero, List.set_cons_succ]
              refine takeD (i := 18) (d := 40) (v := ?_) rfl rfl (by kernel_rfl) (by kernel_rfl) (by kernel_rfl) (fun _ _ _ h => h) (by rfl) ?_ (by assumption) ?_
              rotate_left
              · (intro w hSw; (try dsimp only at hSw); go_simp; (try (with_reducible rfl)))
              simp only [Act.put, List.setIfInBounds_toArray, List.set_cons_zero, List.set_cons_succ]
              refine takeD (i := 19) (d := 41) (v := ?_) rfl rfl (by kernel_rfl) (by kernel_rfl) (by kernel_rfl) (fun _ _ _ h => h) (by rfl) ?_ (by assumption) ?_
              rotate_left
              · (intro w hSw; (try dsimp only at hSw); go_simp; (try (with_reducible rfl)))
              simp only [Act.put, List.setIfInBounds_toArray, List.set_cons_zero, List.set_cons_succ]
              refine takeD (i := 20) (d := 42) (v := ?_) rfl rfl (by kernel_rfl) (by kernel_rfl) (by kernel_rfl) (fun _ _ _ h => h) (by rfl) ?_ (by assumption) ?_
              rotate_left
              · (intro w hSw; (try dsimp only at hSw); go_simp; (try (with_reducible rfl)))
              simp only [Act.put, List.setIfInBounds_toArray, List.set_cons_zero, List.set_cons_succ]
              refine wpAnyH_done (by kernel_rfl) ?_ _
              have HB3 := Lib.hid (HB.out.trans ((HV.out.trans (hc3.mono HV.out.size)).mono HB.out.size))
              clear hb2 hb3 hc2 hc3 hc0 hHeld
              cases p with
              | true =>
                go_wp2_with fail
                go_roundw
                case rel => exact ⟨k + 1, by omega, by go_num, HP.out.step (by rw [HGD.out]; exact HWN.out) (fun _ => by rw [HGD.out, HGY.out]; exact HPP.out), HB3.out⟩
                case measure => simp [intOf]; omega
              | false =>
                have HF : Hid (decide (TabOK m L) = false) := Lib.hid (decide_eq_false fun h => by
                  have := (h.2.2 k hlt).2 (by omega)
                  rw [HGD.out, HGY.out, HPP.out] at this
                  cases this)
                go_wp2_with fail
                go_ret
                exact ⟨ret_bool HF.out.symm, HB0.out.trans (HB3.out.mono HB0.out.size)⟩
          · rw [show decide (WinOK m x.w) = false from decide_eq_false hwin] at HC
            have HF : Hid (decide (TabOK m L) = false) := Lib.hid (decide_eq_false fun h => hwin (by
              have := (h.2.2 k hlt).1
              rw [HGD.out] at this
              exact this))
            have HQ := HQ1
            clear hwin
            go_wp2_with fail
            refine wp_region_held_drew (S := (fun W => W.cell? ⟨w.heap.size, 0, none⟩ = some (.slice A m.length cm) ∧ W.cell? ⟨G, 16, none⟩ = some (.int .i64 x.w.arr) ∧ W.cell? ⟨G, 17, none⟩ = some (.int .i64 x.w.start) ∧ W.cell? ⟨G, 18, none⟩ = some (.int .i64 x.w.len) ∧ W.cell? ⟨G, 19, none⟩ = some (.int .i64 x.w.cap))) (by kernel_rfl) ?_ (fun hHeld => ?_)
            · (first | (with_reducible exact HQ.out _ hc0) | exact HQ.out _ hc2)
            refine takeD (i := 0) (d := 22) (v := ?_) rfl rfl (by kernel_rfl) (by kernel_rfl) (by kernel_rfl) (fun _ _ _ h => h) (by rfl) ?_ (by assumption) ?_
            rotate_left
            · (intro w hSw; (try dsimp only at hSw); go_simp; (try (with_reducible rfl)))
            simp only [Act.put, List.setIfInBounds_toArray, List.set_cons_zero, List.set_cons_succ]
            refine takeD (i := 1) (d := 23) (v := ?_) rfl rfl (by kernel_rfl) (by kernel_rfl) (by kernel_rfl) (fun _ _ _ h => h) (by rfl) ?_ (by assumption) ?_
            rotate_left
            · (intro w hSw; (try dsimp only at hSw); go_simp; (try (with_reducible rfl)))
            simp only [Act.put, List.setIfInBounds_toArray, List.set_cons_zero, List.set_cons_succ]
            refine takeD (i := 2) (d := 24) (v := ?_) rfl rfl (by kernel_rfl) (by kernel_rfl) (by kernel_rfl) (fun _ _ _ h => h) (by rfl) ?_ (by assumption) ?_
            rotate_left
            · (intro w hSw; (try dsimp only at hSw); go_simp; (try (with_reducible rfl)))
            simp only [Act.put, List.setIfInBounds_toArray, List.set_cons_zero, List.set_cons_succ]
            refine wpAnyH_ready (rs := [3]) (by kernel_rfl) (by simp) ?_
            refine AllReadyH.cons rfl (fun K hK => ?_) AllReadyH.nil
            (try go_simp)
            (go_at_call 105; refine (HC.out _ hc0).mono ?_; rintro e w2 ⟨rfl, hb2⟩; have hc2 := hc0.trans (hb2.mono hc0.size))
            refine hK.out _ _ ?_ (fun hHeld => ?_)
            · (first | (with_reducible exact HQ.out _ hc0) | exact HQ.out _ hc2)
            clear hK K
            try simp only [Act.put, List.setIfInBounds_toArray, List.set_cons_zero, List.set_cons_succ]
            refine takeD (i := 4) (d := 26) (v := ?_) rfl rfl (by kernel_rfl) (by kernel_rfl) (by kernel_rfl) (fun _ _ _ h => h) (by rfl) ?_ (by assumption) ?_
            rotate_left
            · (intro w hSw; (try dsimp only at hSw); go_simp; (try (with_reducible rfl)))
            simp only [Act.put, List.setIfInBounds_toArray, List.set_cons_zero, List.set_cons_succ]
            refine takeD (i := 5) (d := 27) (v := ?_) rfl rfl (by kernel_rfl) (by kernel_rfl) (by kernel_rfl) (fun _ _ _ h => h) (by rfl) ?_ (by assumption) ?_
            rotate_left
            · (intro w hSw; (try dsimp only at hSw); go_simp; (try (with_reducible rfl)))
            simp only [Act.put, List.setIfInBounds_toArray, List.set_cons_zero, List.set_cons_succ]
            refine skipD (i := 6) (d := 28) rfl rfl (by kernel_rfl) (by kernel_rfl) (by kernel_rfl) (fun _ _ _ h => h) (by rfl) (by assumption) ?_
            simp only [Act.put, List.setIfInBounds_toArray, List.set_cons_succ]
            refine skipD (i := 7) (d := 29) rfl rfl (by kernel_rfl) (by kernel_rfl) (by kernel_rfl) (fun _ _ _ h => h) (by rfl) (by assumption) ?_
            simp only [Act.put, List.setIfInBounds_toArray, List.set_cons_succ]
            refine skipD (i := 8) (d := 30) rfl rfl (by kernel_rfl) (by kernel_rfl) (by kernel_rfl) (fun _ _ _ h => h) (by rfl) (by assumption) ?_
            simp only [Act.put, List.setIfInBounds_toArray, List.set_cons_succ]
            refine skipD (i := 9) (d := 31) rfl rfl (by kernel_rfl) (by kernel_rfl) (by kernel_rfl) (fun _ _ _ h => h) (by rfl) (by assumption) ?_
            simp only [Act.put, List.setIfInBounds_toArray, List.set_cons_succ]
            refine skipD (i := 10) (d := 32) rfl rfl (by kernel_rfl) (by kernel_rfl) (by kernel_rfl) (fun _ _ _ h => h) (by rfl) (by assumption) ?_
            simp only [Act.put, List.setIfInBounds_toArray, List.set_cons_succ]
            refine skipD (i := 11) (d := 33) rfl rfl (by kernel_rfl) (by kernel_rfl) (by kernel_rfl) (fun _ _ _ h => h) (by rfl) (by assumption) ?_
            simp only [Act.put, List.setIfInBounds_toArray, List.set_cons_succ]
            refine skipD (i := 12) (d := 34) rfl rfl (by kernel_rfl) (by kernel_rfl) (by kernel_rfl) (fun _ _ _ h => h) (by rfl) (by assumption) ?_
            simp only [Act.put, List.setIfInBounds_toArray, List.set_cons_succ]
            refine skipD (i := 13) (d := 35) rfl rfl (by kernel_rfl) (by kernel_rfl) (by kernel_rfl) (fun _ _ _ h => h) (by rfl) (by assumption) ?_
            simp only [Act.put, List.setIfInBounds_toArray, List.set_cons_succ]
            refine skipD (i := 14) (d := 36) rfl rfl (by kernel_rfl) (by kernel_rfl) (by kernel_rfl) (fun _ _ _ h => h) (by rfl) (by assumption) ?_
            simp only [Act.put, List.setIfInBounds_toArray, List.set_cons_succ]
            refine skipD (i := 15) (d := 37) rfl rfl (by kernel_rfl) (by kernel_rfl) (by kernel_rfl) (fun _ _ _ h => h) (by rfl) (by assumption) ?_
            simp only [Act.put, List.setIfInBounds_toArray, List.set_cons_succ]
            refine skipD (i := 16) (d := 38) rfl rfl (by kernel_rfl) (by kernel_rfl) (by kernel_rfl) (fun _ _ _ h => h) (by rfl) (by assumption) ?_
            simp only [Act.put, List.setIfInBounds_toArray, List.set_cons_succ]
            refine skipD (i := 17) (d := 39) rfl rfl (by kernel_rfl) (by kernel_rfl) (by kernel_rfl) (fun _ _ _ h => h) (by rfl) (by assumption) ?_
            simp only [Act.put, List.setIfInBounds_toArray, List.set_cons_succ]
            refine skipD (i := 18) (d := 40) rfl rfl (by kernel_rfl) (by kernel_rfl) (by kernel_rfl) (fun _ _ _ h => h) (by rfl) (by assumption) ?_
            simp only [Act.put, List.setIfInBounds_toArray, List.set_cons_succ]
            refine skipD (i := 19) (d := 41) rfl rfl (by kernel_rfl) (by kernel_rfl) (by kernel_rfl) (fun _ _ _ h => h) (by rfl) (by assumption) ?_
            simp only [Act.put, List.setIfInBounds_toArray, List.set_cons_succ]
            refine takeD (i := 20) (d := 42) (v := ?_) rfl rfl (by kernel_rfl) (by kernel_rfl) (by kernel_rfl) (fun _ _ _ h => h) (by rfl) ?_ (by assumption) ?_
            rotate_left
            · (intro w hSw; (try dsimp only at hSw); go_simp; (try (with_reducible rfl)))
            simp only [Act.put, List.setIfInBounds_toArray, List.set_cons_zero, List.set_cons_succ]
            refine wpAnyH_done (by kernel_rfl) ?_ _
            have HB2 := Lib.hid (HB.out.trans ((HV.out.trans (hc2.mono HV.out.size)).mono HB.out.size))
            clear hb2 hc2 hc0 hHeld
            go_wp2_with fail
            go_ret
            exact ⟨ret_bool HF.out.symm, HB0.out.trans (HB2.out.mono HB0.out.size)⟩
        · obtain rfl : k = L.length := by omega
          have HV : Hid (decide (TabOK m L) = true) := Lib.hid (decide_eq_true ⟨HM.out, h12, hp⟩)
          clear hp hb
          go_wp2_with fail
          go_ret
          exact ⟨ret_bool HV.out.symm, HBW.out⟩
    · have h13 : (12 : Int) < L.length := by omega
      have HV : Hid (decide (TabOK m L) = false) := Lib.hid (decide_eq_false fun h => h12 h.2.1)
      clear h12
      go_wp2_with fail
      go_ret
      exact ⟨ret_bool HV.out.symm, HB0.out.trans (HB1.out.mono HB0.out.size)⟩
  · rw [show decide (MemOK m) = false from decide_eq_false hm]
    have HV : Hid (decide (TabOK m L) = false) := Lib.hid (decide_eq_false fun h => hm h.1)
    clear hm
    go_wp2_with fail
    go_ret
    exact ⟨ret_bool HV.out.symm, HB0.out.trans (HB1.out.mono HB0.out.size)⟩
end Go.Proofs.Ytoelagfcapdfpaa
