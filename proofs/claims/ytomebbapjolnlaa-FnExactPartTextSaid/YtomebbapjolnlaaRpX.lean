/-
  The text of a rope: l7Text, RopeText of spec.
-/
import Derived.Test.YtomebbapjolnlaaRpU
import Derived.Test.YtomebbapjolnlaaCpy0
import Derived.Test.YtomebbapjolnlaaBytes
namespace Go.Proofs.Ytomebbapjolnlaa
open Go.RowKit

theorem one_u8 (zs : List Int) : ∀ u ∈ intV .u8 zs, u.oneCell' = true := fun u hu => by
  obtain ⟨z, _, rfl⟩ := List.mem_map.1 hu
  rfl
theorem ropeT_take_len {m : List (List Int)} {L : List Win} (h : Watched m L) (k : Nat) : (ropeT m (L.take k)).length ≤ 768 := by
  have h1 := ropeT_len (m := m) (L := L.take k) fun x hx => h.2.2 x (List.mem_of_mem_take hx)
  have h2 := rpLen_take_ok h k
  omega

set_option maxRecDepth 100000 in
set_option maxHeartbeats 1600000 in
theorem specTextL_calls (A : Option Addr) (c : Nat) (m : List (List Int)) (B : Option Addr) (k : Nat) (L : List Win) (w : World) (hr : Rd2 w w.heap.size A m) (hx : RdW w w.heap.size B L) (hw : Watched m L) :
    Calls Try.prog 79 #[.agg #[.slice A m.length c], .agg #[.slice B L.length k]] w fun e w' => ∃ v, e = .returned v ∧ w'.ownsRow w.heap.size 5 1 v (ropeT m L).length (intV .u8 (ropeT m L)) ∧ Below w.heap.size w w' := by
  obtain ⟨i0, hi0, hz, hz1, hz2⟩ := info_parts info_u8
  obtain ⟨w0, hw0, hb0, hg0⟩ := enterMP A m.length c B L.length k w
  obtain ⟨w3, hw3⟩ : ∃ w3, w0.alloc (.cells #[] 5) = w3 := ⟨_, rfl⟩
  have HB3 := Lib.hid (show Below w0.heap.size w0 w3 by rw [← hw3]; exact (Below.refl _ _).alloc (Nat.le_refl _) _)
  have HO3 : Hid (w3.ownsRow w0.heap.size 5 1 (.slice (some ⟨w0.heap.size, 0, none⟩) 0 0) 0 []) := Lib.hid (by rw [← hw3]; exact World.ownsRow_made (base := w0.heap.size) (e := 5) (size := 1) w0 #[] 0 (Nat.le_refl _) (Nat.zero_le _) rfl)
  have HR := Lib.hid hr
  have HX := Lib.hid hx
  have HB := Lib.hid hb0
  have HW := Lib.hid hw0
  have HW3 := Lib.hid hw3
  have HG := Lib.hid hg0
  have HWT := Lib.hid hw
  have h12 := hw.2.1
  clear hr hx hb0 hw0 hg0 hw3 hw
  go_enter Try.func79, Try.ntmps79
  go_upto_region 1 with fail
  rw [HW.out]
  go_upto_region 2 with fail
  rw [HW3.out]
  go_wp2_with fail
  go_loopw [5, 6] (fun v i wr => ∃ (j : Nat) (Ao : Option Addr) (cp : Nat), j ≤ L.length ∧ i = .int .i64 j ∧ v = .slice Ao (ropeT m (L.take j)).length cp ∧ wr.ownsRow w0.heap.size 5 1 v (ropeT m (L.take j)).length (intV .u8 (ropeT m (L.take j))) ∧ Below w0.heap.size w0 wr) (fun _ i _ => L.length - (intOf i).toNat)
  case atStart => exact ⟨0, some ⟨w0.heap.size, 0, none⟩, 0, Nat.zero_le _, rfl, rfl, by simpa [ropeT, intV] using HO3.out, HB3.out⟩
  case round =>
    obtain ⟨j, Ao, cp, hj, rfl, rfl, hown, hbr⟩ := hrel
    have HO := Lib.hid hown
    have HBR := Lib.hid hbr
    have hbs := hbr.size
    have c3 := (HG.out.below hbr).cm
    have c4 := (HG.out.below hbr).cp
    have hlen := ropeT_take_len HWT.out j
    clear hown hbr
    by_cases hlt : j < L.length
    · obtain ⟨b, off, rfl, hbb, e0, e1, e2, e3⟩ := (HX.out.below (HB.out.trans (HBR.out.mono HB.out.size))).at_ hlt
      have HST := Lib.hid (ropeT_take m L j hlt)
      have hok := HWT.out.2.2 L[j] (List.getElem_mem hlt)
      generalize hxx : L[j] = x at *
      obtain ⟨n, s, l, c', rfl, hnl, hlc, hsc, h1m, h64, h16⟩ := hok.nat
      dsimp only at e0 e1 e2 e3
      simp only [Int.toNat_natCast] at HST
      have HWL := Lib.hid (wb_len (m := m) hnl (show s + l ≤ m[n].length by omega))
      have HC := Lib.hid (fun W (hb : Below w0.heap.size w0 W) => specBytes_calls A c m n s l c' W ((HR.out.below (HB.out.trans (hb.mono HB.out.size))).more (Nat.le_trans HB.out.size hb.size)) hnl h16 (by omega) h64)
      have HA := Lib.hid (fun W (h : Below w0.heap.size w0 W) => show W.cell? ⟨w.heap.size, 0, none⟩ = some (.slice A m.length c) ∧ W.cell? ⟨w.heap.size + 1, 0, none⟩ = some (.slice (some ⟨b, off, none⟩) L.length k) ∧ W.cell? ⟨b, off + j * 4, none⟩ = some (.int .i64 n) ∧ W.cell? ⟨b, off + j * 4 + 1, none⟩ = some (.int .i64 s) ∧ W.cell? ⟨b, off + j * 4 + 2, none⟩ = some (.int .i64 l) ∧ W.cell? ⟨b, off + j * 4 + 3, none⟩ = some (.int .i64 c') from by
        obtain ⟨b', off', eb, _, k0, k1, k2, k3⟩ := (HX.out.below (HB.out.trans (h.mono HB.out.size))).at_ hlt
        injection eb with eb
        injection eb with eb1 eb2
        subst eb1
        subst eb2
        rw [hxx] at k0 k1 k2 k3
        exact ⟨(HG.out.below h).cm, (HG.out.below h).cp, k0, k1, k2, k3⟩)
      have HLB := Lib.hid (show (intV .u8 (wb m n s l)).length = l * 1 by rw [intV_len, HWL.out]; omega)
      have HOB := Lib.hid (one_u8 (wb m n s l))
      have hl64 : l ≤ 64 := by omega
      have hc0 : Below w0.heap.size w0 wr.drew := HBR.out.drew
      have HOK := Lib.hid hxx
      generalize wb m n s l = Z at *
      obtain ⟨N, hN⟩ : ∃ N, (ropeT m (L.take j)).length = N := ⟨_, rfl⟩
      rw [hN] at HO hlen ⊢
      have HN := Lib.hid hN
      clear hok hxx hN
      go_wp2_with fail
      go_region_held3 (fun W => W.cell? ⟨w.heap.size, 0, none⟩ = some (.slice A m.length c) ∧ W.cell? ⟨w.heap.size + 1, 0, none⟩ = some (.slice (some ⟨b, off, none⟩) L.length k) ∧ W.cell? ⟨b, off + j * 4, none⟩ = some (.int .i64 n) ∧ W.cell? ⟨b, off + j * 4 + 1, none⟩ = some (.int .i64 s) ∧ W.cell? ⟨b, off + j * 4 + 2, none⟩ = some (.int .i64 l) ∧ W.cell? ⟨b, off + j * 4 + 3, none⟩ = some (.int .i64 c'))
        (first | (with_reducible exact ⟨c3, c4, e0, e1, e2, e3⟩) | (with_reducible exact HA.out _ hc4) | (with_reducible exact HA.out _ hc5) | (with_reducible exact HA.out _ hc0))
        (first | (go_at_call 116; (with_reducible refine (HC.out _ hc0).mono ?_); rintro e w4 ⟨g4, k4, rfl, ho4, hb4⟩; have hc4 : Below w0.heap.size w0 w4 := hc0.trans (hb4.mono hc0.size); have HO4 := Lib.hid (own_below (w := wr.drew) HO.out hb4); have HS4 := Lib.hid (rd_cells (Rd.of_own ho4)); clear ho4) | (refine step_append_ring rfl (.tmp 15) (.tmp 22) 41 rfl w0.heap.size 5 i0 _ 1 1 Try.underlying41 hi0 hz hz1 hz2 rfl (by decide) (.slice Ao N cp) N _ (by simp [Act.eval]) HO4.out ⟨g4, 0, none⟩ l k4 (intV .u8 Z) (by simp [Act.eval]) HLB.out HS4.out HOB.out (by simp only [maxLen]; omega) (by omega) hc4.size ?_; intro v5 w5 hown5 hgrow5; have hc5 : Below w0.heap.size w0 w5 := below_own2 hc4 HO4.out hgrow5 hc4.size; clear hgrow5))
      have HO5 : Hid (w5.ownsRow w0.heap.size 5 1 v5 (ropeT m (L.take (j + 1))).length (intV .u8 (ropeT m (L.take (j + 1))))) := Lib.hid (by
        rw [HST.out, List.length_append, HN.out, HWL.out, show intV .u8 (ropeT m (L.take j) ++ Z) = intV .u8 (ropeT m (L.take j)) ++ intV .u8 Z by simp [intV]]
        exact hown5)
      have HB5 := Lib.hid hc5
      obtain ⟨A5, c5, rfl⟩ := own_form HO5.out
      clear hc5 hb4 hc4 hc0 hown5 c3 c4 e0 e1 e2 e3
      go_wp2_with fail
      go_roundw
      case rel => exact ⟨j + 1, A5, c5, by omega, by go_num, rfl, HO5.out, HB5.out⟩
      case measure => simp [intOf]; omega
    · obtain rfl : j = L.length := by omega
      have HO2 : Hid (wr.ownsRow w.heap.size 5 1 (.slice Ao (ropeT m (L.take L.length)).length cp) (ropeT m (L.take L.length)).length (intV .u8 (ropeT m (L.take L.length)))) := Lib.hid (own_monoR HO.out HB.out.size)
      clear HO
      rw [List.take_length] at HO2 ⊢
      go_wp2_with fail
      go_ret
      exact ⟨_, rfl, HO2.out, HB.out.trans (HBR.out.mono HB.out.size)⟩

set_option maxRecDepth 100000 in
theorem specRopeText_calls (A : Option Addr) (c : Nat) (m : List (List Int)) (B : Option Addr) (k : Nat) (L : List Win) (w : World) (hr : Rd2 w w.heap.size A m) (hn : m.length ≤ maxLen) (hx : RdW w w.heap.size B L) (hl : L.length ≤ maxLen) :
    Calls Try.prog 26 #[.agg #[.slice A m.length c], .agg #[.slice B L.length k]] w fun e w' => ∃ v, e = .returned (.tuple #[v, .bool (textR m L).2]) ∧ w'.ownsRow w.heap.size 5 1 v (textR m L).1.length (intV .u8 (textR m L).1) ∧ Below w.heap.size w w' := by
  obtain ⟨w0, hw0, hb0, hg0⟩ := enterMP A m.length c B L.length k w
  have HC := Lib.hid (specRope_calls A c m B k L w0 ((hr.below hb0).more hb0.size) hn ((hx.below hb0).more hb0.size) hl)
  have HR := Lib.hid hr
  have HX := Lib.hid hx
  have HB := Lib.hid hb0
  have HW := Lib.hid hw0
  have HG := Lib.hid hg0
  have c0 := hg0.cm
  have c1 := hg0.cp
  clear hr hx hb0 hw0 hg0
  go_enter Try.func26, Try.ntmps26
  go_wp2_with fail
  rw [HW.out]
  refine HC.out.mono ?_
  rintro e w2 ⟨rfl, hb2⟩
  have HB2 := Lib.hid (HB.out.trans (hb2.mono HB.out.size))
  have c2 := (HG.out.below hb2).cm
  have c3 := (HG.out.below hb2).cp
  clear hb2 c0 c1
  by_cases hw : Watched m L
  · rw [show decide (Watched m L) = true from decide_eq_true hw]
    have HV := Lib.hid (show textR m L = (ropeT m L, true) from if_pos hw)
    have HS := Lib.hid (specTextL_calls A c m B k L w2 ((HR.out.below HB2.out).more HB2.out.size) ((HX.out.below HB2.out).more HB2.out.size) hw)
    clear hw
    go_wp2_with fail
    refine HS.out.mono ?_
    rintro e w4 ⟨v4, rfl, ho, hb4⟩
    obtain ⟨A4, c4, rfl⟩ := own_form ho
    have HO := Lib.hid (own_monoR ho HB2.out.size)
    have HB4 := Lib.hid (HB2.out.trans (hb4.mono HB2.out.size))
    clear ho hb4
    go_wp2_with fail
    go_ret2
    exact ⟨_, by rw [HV.out]; rfl, by rw [HV.out]; exact HO.out, HB4.out⟩
  · rw [show decide (Watched m L) = false from decide_eq_false hw]
    have HV := Lib.hid (show textR m L = ([], false) from if_neg hw)
    clear hw
    have HO := Lib.hid (World.ownsRow_made (base := w.heap.size) (e := 5) (size := 1) w2 #[] 0 HB2.out.size (Nat.zero_le _) rfl)
    go_wp2_with fail
    go_ret2
    exact ⟨_, by rw [HV.out]; rfl, by rw [HV.out]; exact HO.out, by have hl := HB2.out.size; (repeat (first | (with_reducible exact Below.refl _ _) | (with_reducible refine Below.drew ?_) | ((with_reducible refine Below.alloc ?_ ?hB _); case hB => (first | (with_reducible exact Nat.le_refl _) | omega | (simp; done) | (simp; omega))) | ((with_reducible refine Below.setCell ?_ ?hB _); case hB => (first | (with_reducible exact Nat.le_refl _) | omega | (simp; done) | (simp; omega))))); exact HB2.out⟩
end Go.Proofs.Ytomebbapjolnlaa
