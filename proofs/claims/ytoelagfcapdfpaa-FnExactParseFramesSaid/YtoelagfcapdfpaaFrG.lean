/-
  The tags of the frames of a window: TagsOf of the model.
-/
import Derived.Test.YtoelagfcapdfpaaFrT
import Derived.Test.YtoelagfcapdfpaaCpy0
namespace Go.Proofs.Ytoelagfcapdfpaa
open Go.RowKit

/-- The numbers of a row that stands in a block of its own. -/
def NatRow (w : World) (g : Nat) (ds : List Nat) : Prop := ∃ cs : Array Value, w.heap[g]? = some (.cells cs 3) ∧ ∀ (i : Nat) (d : Nat), ds[i]? = some d → cs[i]? = some (.int .i64 d)
theorem NatRow.of_own {w : World} {base g cap : Nat} {ds : List Nat} (h : w.ownsRow base 3 1 (.slice (some ⟨g, 0, none⟩) ds.length cap) ds.length (intV .i64 (natI ds))) : NatRow w g ds := by
  rcases h.2 with ⟨hv, _⟩ | ⟨g', cap', cur, hv, _, hh, _, _, _, htk⟩
  · cases hv
  · injection hv with hA
    injection hA with hA
    injection hA with hA
    subst hA
    refine ⟨cur, hh, fun i d hd => ?_⟩
    have hi : i < ds.length := (List.getElem?_eq_some_iff.1 hd).1
    have h1 : (intV .i64 (natI ds))[i]? = some (.int .i64 d) := by simp [intV, natI, hd]
    rw [← htk, List.getElem?_take_of_lt (by omega)] at h1
    simpa using h1
theorem NatRow.cell {w : World} {g : Nat} {ds : List Nat} (h : NatRow w g ds) {i : Nat} (hi : i < ds.length) : w.cell? ⟨g, i, none⟩ = some (.int .i64 ds[i]) := by
  obtain ⟨cs, hh, hc⟩ := h
  have := hc i _ (List.getElem?_eq_getElem hi)
  simp [World.cell?, hh, this]
theorem NatRow.below {w w' : World} {g : Nat} {ds : List Nat} (h : NatRow w g ds) (hb : Below w.heap.size w w') : NatRow w' g ds := by
  obtain ⟨cs, hh, hc⟩ := h
  exact ⟨cs, (hb.block _ (Array.getElem?_eq_some_iff.1 hh).1).trans hh, hc⟩
theorem NatRow.grown {w w' : World} {g : Nat} {ds : List Nat} {row : Option Nat} (h : NatRow w g ds) (hg : w.grownBy w' row) (hr : row ≠ some g) : NatRow w' g ds := by
  obtain ⟨cs, hh, hc⟩ := h
  exact ⟨cs, block_grown hg hh hr, hc⟩

theorem tags_grow {w6 w7 : World} {b0 g gb k : Nat} {A : Option Addr} {n c : Nat} {a1 s1 l1 c1 : Int} {ds : List Nat} {v u : Value} {xs : List Value} (hM : MW w6 g A n c a1 s1 l1 c1) (hN : NatRow w6 gb ds) (hO : w6.ownsRow b0 5 1 v k xs)
    (hg : (w6.alloc (.cells #[u] 5)).grownBy w7 v.ownBlock) : MW w7 g A n c a1 s1 l1 c1 ∧ NatRow w7 gb ds := by
  have ha := hO.alloc (.cells #[u] 5)
  have h1 := alloc_old (.cells #[u] 5) hM.mem
  have h2 := alloc_old (.cells #[u] 5) hM.win
  refine ⟨⟨block_grown hg h1 (ne_some (own_far ha h1 (by decide))), block_grown hg h2 (ne_some (own_far ha h2 (by decide)))⟩, ?_⟩
  obtain ⟨cs, hh, hc⟩ := hN
  have h3 := alloc_old (.cells #[u] 5) hh
  exact ⟨cs, block_grown hg h3 (ne_some (own_far ha h3 (by decide))), hc⟩

set_option maxRecDepth 100000 in
set_option maxHeartbeats 3200000 in
theorem specTagsOf_calls (A : Option Addr) (cm : Nat) (m : List (List Int)) (x : Win) (w : World) (hr : Rd2 w w.heap.size A m) (hn : m.length ≤ maxLen) (hz : ∀ r ∈ m, ∀ z ∈ r, IsB z) :
    Calls Try.prog 62 #[.agg #[.slice A m.length cm], .agg #[.int .i64 x.arr, .int .i64 x.start, .int .i64 x.len, .int .i64 x.cap]] w fun e w' => ∃ v, e = .returned (.tuple #[v, .bool (tagsR m x).2]) ∧ w'.ownsRow w.heap.size 5 1 v (tagsR m x).1.length (intV .u8 (tagsR m x).1) ∧ Below w.heap.size w w' := by
  obtain ⟨w0, hw0, hb0, hz0, hmw⟩ := enterMW A m.length cm x.arr x.start x.len x.cap w
  obtain ⟨i0, hi0, hy, hy1, hy2⟩ := info_parts info_u8
  obtain ⟨w3, hw3⟩ : ∃ w3, w0.alloc (.cells #[] 5) = w3 := ⟨_, rfl⟩
  have hb3 : Below w0.heap.size w0 w3 := by rw [← hw3]; exact (Below.refl _ _).alloc (Nat.le_refl _) _
  have HB3 := Lib.hid (hb0.trans (hb3.mono hb0.size))
  have HO3 : Hid (w3.ownsRow w.heap.size 5 1 (.slice (some ⟨w0.heap.size, 0, none⟩) 0 0) 0 []) := Lib.hid (by rw [← hw3]; exact World.ownsRow_made (base := w.heap.size) (e := 5) (size := 1) w0 #[] 0 hb0.size (Nat.zero_le _) rfl)
  have HMW := Lib.hid (hmw.below hb3)
  have HC := Lib.hid (specWindow_calls A cm m x w3 ((hr.below HB3.out).more HB3.out.size) hn)
  unfold Win.val at HC
  have HR := Lib.hid hr
  have hs0 : w0.heap.size = w.heap.size + 1 + 1 := by omega
  rw [← hw0] at hw3
  have HW := Lib.hid hw3
  rw [hs0] at HO3
  obtain ⟨t0, t1, t2, t3⟩ := four_cells HMW.out.win
  have t4 := one_cell HMW.out.mem
  clear hr hb0 hmw hw0 hw3 hb3 hs0
  go_enter Try.func62, Try.ntmps62
  go_upto_region 2 with fail
  rw [HW.out]
  go_wp2_with fail
  refine HC.out.mono ?_
  rintro e w4 ⟨rfl, hb4⟩
  have HB4 := Lib.hid (HB3.out.trans (hb4.mono HB3.out.size))
  have HO4 := Lib.hid (own_below HO3.out hb4)
  have HM4 := Lib.hid (HMW.out.below hb4)
  clear hb4 t0 t1 t2 t3 t4
  by_cases hm : WinOK m x
  · rw [show decide (WinOK m x) = true from decide_eq_true hm]
    have hmok := hm
    obtain ⟨n, s, l, c, rfl, hnl, hlc, hsc, h1, h64, h16⟩ := hm.nat
    have HV : Hid (tagsR m ⟨n, s, l, c⟩ = ((frames (wb m n s l)).1.map (fun a => (wb m n s l).getD a 0), true)) := Lib.hid (by rw [tagsR, if_pos hmok]; simp only [seenL, Int.toNat_natCast])
    have hbl : (wb m n s l).length = l := wb_len hnl (by omega)
    have HFR := Lib.hid (specFrames9_calls A cm m n s l c w4 ((HR.out.below HB4.out).more HB4.out.size) hnl h16 (by omega) h64 hz)
    have hmem := frames_mem (wb m n s l)
    have HAT : Hid (∀ (a : Nat), a < l → ∀ W, Below w.heap.size w W → Calls Try.prog 97 #[.agg #[.slice A m.length cm], .agg #[.int .i64 n, .int .i64 s, .int .i64 l, .int .i64 c], .int .i64 a] W fun e w' => e = .returned (.int .u8 ((wb m n s l).getD a 0)) ∧ Below W.heap.size W w') := Lib.hid fun a ha W hb => by
      have h := specAt_calls A cm m n s a l c W ((HR.out.below hb).more hb.size) hnl h16 (by omega) h64
      have e : m[n][s + a] = (wb m n s l).getD a 0 := by
        rw [List.getD_eq_getElem?_getD, List.getElem?_eq_getElem (by omega), Option.getD_some, wb_get hnl (by omega) (by omega)]
      rw [e] at h
      exact h
    obtain ⟨B, hB⟩ : ∃ B, wb m n s l = B := ⟨_, rfl⟩
    rw [hB] at HV HFR hmem hbl HAT
    have hml : ∀ a ∈ (frames B).1, a < l := fun a ha => by
      have h := hmem.1 a ha
      have := frm_ge h.1
      omega
    have hd64 := hmem.2.2
    obtain ⟨ds, hds⟩ : ∃ ds, (frames B).1 = ds := ⟨_, rfl⟩
    rw [hds] at HV HFR hml hd64
    have HML := Lib.hid hml
    dsimp only at *
    clear hm hmok hB hmem hbl hml hds hz
    obtain ⟨c1, d0, d1, d2, d3⟩ := (show w4.cell? ⟨w.heap.size, 0, none⟩ = some (.slice A m.length cm) ∧ w4.cell? ⟨w.heap.size + 1, 0, none⟩ = some (.int .i64 n) ∧ w4.cell? ⟨w.heap.size + 1, 1, none⟩ = some (.int .i64 s) ∧ w4.cell? ⟨w.heap.size + 1, 2, none⟩ = some (.int .i64 l) ∧ w4.cell? ⟨w.heap.size + 1, 3, none⟩ = some (.int .i64 c) from ⟨one_cell HM4.out.mem, four_cells HM4.out.win⟩)
    go_wp2_with fail
    refine HFR.out.mono ?_
    rintro e w5 ⟨gb, kb, rfl, hob, hb5⟩
    have HNB := Lib.hid (NatRow.of_own hob)
    have HB5 := Lib.hid (HB4.out.trans (hb5.mono HB4.out.size))
    have HO5 := Lib.hid (own_below HO4.out hb5)
    have HM5 := Lib.hid (HM4.out.below hb5)
    clear hob hb5 c1 d0 d1 d2 d3
    go_wp2_with fail
    go_loopw [6, 9] (fun v i wr => ∃ k g cap : Nat, k ≤ ds.length ∧ v = .slice (some ⟨g, 0, none⟩) k cap ∧ i = .int .i64 k ∧ wr.ownsRow w.heap.size 5 1 (.slice (some ⟨g, 0, none⟩) k cap) k (intV .u8 ((ds.map (fun a => B.getD a 0)).take k)) ∧ Below w.heap.size w wr ∧ MW wr w.heap.size A m.length cm n s l c ∧ NatRow wr gb ds) (fun _ i _ => ds.length - (intOf i).toNat)
    case atStart => exact ⟨0, _, _, Nat.zero_le _, rfl, rfl, by rw [List.take_zero]; exact HO5.out, HB5.out, HM5.out, HNB.out⟩
    case round =>
      obtain ⟨k, g, cap, hk, rfl, rfl, hown, hbr, hmw, hnr⟩ := hrel
      have HO := Lib.hid hown
      have HBR := Lib.hid hbr
      have HM := Lib.hid hmw
      have HN := Lib.hid hnr
      clear hown hbr hmw hnr
      by_cases hlt : k < ds.length
      · have HATk := Lib.hid (HAT.out ds[k] (HML.out _ (List.getElem_mem hlt)))
        have HSN : Hid (intV .u8 ((ds.map (fun a => B.getD a 0)).take (k + 1)) = intV .u8 ((ds.map (fun a => B.getD a 0)).take k) ++ [.int .u8 (B.getD ds[k] 0)]) := Lib.hid (by
          rw [List.take_succ_eq_append_getElem (by simpa using hlt)]
          simp [intV])
        have HS : Hid (∀ W, Below wr.heap.size wr W → W.cell? ⟨w.heap.size, 0, none⟩ = some (.slice A m.length cm) ∧ W.cell? ⟨w.heap.size + 1, 0, none⟩ = some (.int .i64 n) ∧ W.cell? ⟨w.heap.size + 1, 1, none⟩ = some (.int .i64 s) ∧ W.cell? ⟨w.heap.size + 1, 2, none⟩ = some (.int .i64 l) ∧ W.cell? ⟨w.heap.size + 1, 3, none⟩ = some (.int .i64 c) ∧ W.cell? ⟨gb, k, none⟩ = some (.int .i64 ds[k])) := Lib.hid fun W hb => by
          have h := HM.out.below hb
          obtain ⟨d0, d1, d2, d3⟩ := four_cells h.win
          exact ⟨one_cell h.mem, d0, d1, d2, d3, (HN.out.below hb).cell hlt⟩
        have HS7 : Hid (∀ W, MW W w.heap.size A m.length cm n s l c → NatRow W gb ds → W.cell? ⟨w.heap.size, 0, none⟩ = some (.slice A m.length cm) ∧ W.cell? ⟨w.heap.size + 1, 0, none⟩ = some (.int .i64 n) ∧ W.cell? ⟨w.heap.size + 1, 1, none⟩ = some (.int .i64 s) ∧ W.cell? ⟨w.heap.size + 1, 2, none⟩ = some (.int .i64 l) ∧ W.cell? ⟨w.heap.size + 1, 3, none⟩ = some (.int .i64 c) ∧ W.cell? ⟨gb, k, none⟩ = some (.int .i64 ds[k])) := Lib.hid fun W h hq => by
          obtain ⟨d0, d1, d2, d3⟩ := four_cells h.win
          exact ⟨one_cell h.mem, d0, d1, d2, d3, hq.cell hlt⟩
        have i1 : (0 : Int) ≤ k := by omega
        have i2 : (k : Int) < ds.length := by omega
        generalize ds[k] = a at *
        generalize B.getD a 0 = q at *
        have hc0 : Below wr.heap.size wr wr.drew := (Below.refl _ _).drew
        have hzr := HBR.out.size
        obtain ⟨e0, e1, e2, e3, e4, e5⟩ := HS.out wr.drew hc0
        go_upto_region 8 with fail
        go_region_held3 (fun W => W.cell? ⟨w.heap.size, 0, none⟩ = some (.slice A m.length cm) ∧ W.cell? ⟨w.heap.size + 1, 0, none⟩ = some (.int .i64 n) ∧ W.cell? ⟨w.heap.size + 1, 1, none⟩ = some (.int .i64 s) ∧ W.cell? ⟨w.heap.size + 1, 2, none⟩ = some (.int .i64 l) ∧ W.cell? ⟨w.heap.size + 1, 3, none⟩ = some (.int .i64 c) ∧ W.cell? ⟨gb, k, none⟩ = some (.int .i64 a))
          (first | (with_reducible exact ⟨e0, e1, e2, e3, e4, e5⟩) | (with_reducible exact HS.out _ hc1) | (with_reducible exact HS.out _ hcA) | (with_reducible exact HS7.out _ HM7.out HN7.out))
          (first | (go_at_call 97; (with_reducible refine (HATk.out _ (HBR.out.trans (hc0.mono hzr))).mono ?_); rintro e w6 ⟨rfl, hb6⟩; have hc1 := hc0.trans (hb6.mono hc0.size); have hcA : Below wr.heap.size wr (w6.alloc (.cells #[.int .u8 q] 5)) := hc1.alloc hc1.size _; have HO6 := Lib.hid (own_below HO.out hc1); have HM6 := Lib.hid (HM.out.below hc1); have HN6 := Lib.hid (HN.out.below hc1); have hz6 : w.heap.size ≤ w6.heap.size := Nat.le_trans hzr hc1.size) | (refine step_append_ring rfl (.tmp 28) (.tmp 36) 64 rfl w.heap.size 5 i0 _ 1 1 Try.underlying64 hi0 hy hy1 hy2 rfl (by decide) (.slice (some ⟨g, 0, none⟩) k cap) k _ (by simp [Act.eval]) (HO6.out.alloc _) ⟨w6.heap.size, 0, none⟩ 1 1 [.int .u8 q] (by simp [Act.eval]) rfl (cell_one_new _ _ _) (by simp [Value.oneCell']) (by simp only [maxLen]; omega) (by omega) (by simp; omega) ?_; intro v7 w7 hown7 hgrow7; have HMN7 := tags_grow HM6.out HN6.out HO6.out hgrow7; have HM7 := Lib.hid HMN7.1; have HN7 := Lib.hid HMN7.2))
        have HB7 : Hid (Below w.heap.size w w7) := below_own2 ((HBR.out.trans (hc1.mono hzr)).alloc hz6 _) (HO6.out.alloc _) hgrow7 (by simp; omega)
        have HO7 : Hid (w7.ownsRow w.heap.size 5 1 v7 (k + 1) (intV .u8 ((ds.map (fun a => B.getD a 0)).take (k + 1)))) := Lib.hid (by rw [HSN.out]; exact hown7)
        obtain ⟨g7, k7, rfl⟩ := own_some hown7 (by omega)
        clear HMN7 hb6 hc0 hc1 hcA hown7 hgrow7 e0 e1 e2 e3 e4 e5
        go_wp2_with fail
        go_roundw
        case rel => exact ⟨k + 1, g7, k7, by omega, rfl, by go_num, HO7.out, HB7.out, HM7.out, HN7.out⟩
        case measure => simp [intOf]; omega
      · obtain rfl : k = ds.length := by omega
        have HL : Hid ((ds.map (fun a => B.getD a 0)).take ds.length = ds.map (fun a => B.getD a 0)) := Lib.hid (List.take_of_length_le (by simp))
        rw [HL.out] at HO
        go_wp2_with fail
        exact bodyPost_ret (v := .tuple #[.slice (some ⟨g, 0, none⟩) ds.length cap, .bool true]) (by simp [results, Try.results62, go_sem]) rfl ⟨_, by rw [HV.out], by rw [HV.out, List.length_map]; exact HO.out, HBR.out⟩
  · rw [show decide (WinOK m x) = false from decide_eq_false hm]
    have HV : Hid (tagsR m x = ([], false)) := Lib.hid (by rw [tagsR, if_neg hm])
    clear hm
    go_wp2_with fail
    exact bodyPost_ret (v := .tuple #[.slice (some ⟨w.heap.size + 1 + 1, 0, none⟩) 0 0, .bool false]) (by simp [results, Try.results62, go_sem]) rfl ⟨_, by rw [HV.out], by rw [HV.out]; exact HO4.out, HB4.out⟩
end Go.Proofs.Ytoelagfcapdfpaa
