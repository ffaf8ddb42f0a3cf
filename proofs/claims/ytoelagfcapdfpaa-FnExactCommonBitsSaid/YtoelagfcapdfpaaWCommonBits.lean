/-
  FnExactCommonBits: the walk.
-/
import Derived.Test.YtoelagfcapdfpaaKyC
import Derived.Deep.RegionHeld3
namespace Go.Proofs.Ytoelagfcapdfpaa
open Go.RowKit Go.ChangeShapes Go.WideShapes Go.Joins Go.Deep

set_option maxRecDepth 100000 in
set_option maxHeartbeats 1600000 in
theorem fnExactCommonBits_walk (a b : List Int) (w : World) (ha : IsKey a) (hb : IsKey b) :
    Calls Try.prog 5 #[.agg (keyA a), .agg (keyA b)] w fun e w' => e = .returned (.bool true) ∧ Below w.heap.size w w' := by
  obtain ⟨w0, hw0, hb0, k1, k2⟩ := enterKK a b w ha.1 hb.1
  have HW := Lib.hid hw0
  have HB := Lib.hid hb0
  have HTA := Lib.hid (fun W => toByteA16_calls a W ha.1)
  have HTB := Lib.hid (fun W => toByteA16_calls b W hb.1)
  have HSP := Lib.hid (fun W => specCommonBits_calls a b W ha hb)
  have HIP := Lib.hid (fun W => implCommonBits_calls a b W ha hb)
  generalize commonL a b = p at *
  have hself : (p != p) = false := by simp
  have hu := under_key
  have hia := size_key ha.1
  have hib := size_key hb.1
  have HA : Hid (∀ W, Below w0.heap.size w0 W → W.rangeAt w.heap.size 0 (intV .u8 a) ∧ W.rangeAt (w.heap.size + 1) 0 (intV .u8 b)) := Lib.hid fun W h => ⟨(k1.below h).range, (k2.below h).range⟩
  clear hw0 hb0 k1 k2 ha hb
  go_enter Try.func5, Try.ntmps5
  go_upto_region 1 with fail
  rw [HW.out]
  have hc0 : Below w0.heap.size w0 w0.drew := (Below.refl _ _).drew
  refine wp_region_held_drew (S := (fun W => W.rangeAt w.heap.size 0 (intV .u8 a) ∧ W.rangeAt (w.heap.size + 1) 0 (intV .u8 b))) (by kernel_rfl) ?_ (fun hHeld0 => ?_)
  · exact HA.out _ hc0
  refine' wpAnyH_take (i := 0) (oi := _) (v := _) rfl (by kernel_rfl) (by kernel_rfl) (by kernel_rfl) (fun _ _ _ h => h) (yieldsIf_load_mid (by rfl) _ _ rfl _ _ rfl (intV .u8 a) _ (fun _ h => h.1) hu rfl hia) hHeld0 ?_
  try simp only [Act.put, List.setIfInBounds_toArray]
  refine' wpAnyH_take (i := 2) (oi := _) (v := _) rfl (by kernel_rfl) (by kernel_rfl) (by kernel_rfl) (fun _ _ _ h => h) (yieldsIf_load_mid (by rfl) _ _ rfl _ _ rfl (intV .u8 b) _ (fun _ h => h.2) hu rfl hib) hHeld0 ?_
  try simp only [Act.put]
  clear hHeld0
  refine wpAnyH_ready (rs := [1]) (by kernel_rfl) (by simp) ?_
  refine AllReadyH.cons (o := _) rfl (fun K hK => ?_) AllReadyH.nil
  (try go_simp)
  go_at_call 26
  refine (HTA.out w0.drew).mono ?_
  rintro e w1 ⟨rfl, hbw1⟩
  have hc1 := hc0.trans (hbw1.mono hc0.size)
  (try go_wp2_with fail)
  refine hK.out _ _ (HA.out _ hc1) (fun _ => ?_)
  clear hK K
  try simp only [Act.put, List.setIfInBounds_toArray, List.set_cons_zero, List.set_cons_succ]
  refine wpAnyH_ready (rs := [3]) (by kernel_rfl) (by simp) ?_
  refine AllReadyH.cons (o := _) rfl (fun K hK => ?_) AllReadyH.nil
  (try go_simp)
  go_at_call 26
  refine (HTB.out w1).mono ?_
  rintro e w2 ⟨rfl, hbw2⟩
  have hc2 := hc1.trans (hbw2.mono hc1.size)
  (try go_wp2_with fail)
  refine hK.out _ _ (HA.out _ hc2) (fun _ => ?_)
  clear hK K
  try simp only [Act.put, List.setIfInBounds_toArray, List.set_cons_zero, List.set_cons_succ]
  refine wpAnyH_ready (rs := [4]) (by kernel_rfl) (by simp) ?_
  refine AllReadyH.cons (o := _) rfl (fun K hK => ?_) AllReadyH.nil
  (try go_simp)
  go_at_call 28
  refine (HSP.out w2).mono ?_
  rintro e w3 ⟨rfl, hbw3⟩
  have hc3 := hc2.trans (hbw3.mono hc2.size)
  (try go_wp2_with fail)
  refine hK.out _ _ (HA.out _ hc3) (fun _ => ?_)
  clear hK K
  try simp only [Act.put, List.setIfInBounds_toArray, List.set_cons_zero, List.set_cons_succ]
  refine wpAnyH_ready (rs := [5]) (by kernel_rfl) (by simp) ?_
  refine AllReadyH.cons (o := _) rfl (fun K hK => ?_) AllReadyH.nil
  go_simp
  refine hK.out _ _ (HA.out _ hc3) (fun _ => ?_)
  clear hK K
  try simp only [Act.put, List.setIfInBounds_toArray, List.set_cons_zero, List.set_cons_succ]
  refine wpAnyH_done (by kernel_rfl) ?_ _
  have HB3 := Lib.hid hc3
  have HA3 := Lib.hid (fun W (h : Below w3.heap.size w3 W) => HA.out W (HB3.out.trans (h.mono HB3.out.size)))
  clear hc0 hc1 hc2 hc3 hbw1 hbw2 hbw3
  go_upto_region 2 with fail
  have hd0 : Below w3.heap.size w3 w3.drew := (Below.refl _ _).drew
  refine wp_region_held_drew (S := (fun W => W.rangeAt w.heap.size 0 (intV .u8 a) ∧ W.rangeAt (w.heap.size + 1) 0 (intV .u8 b))) (by kernel_rfl) ?_ (fun hHeld0 => ?_)
  · exact HA3.out _ hd0
  refine' wpAnyH_take (i := 0) (oi := _) (v := _) rfl (by kernel_rfl) (by kernel_rfl) (by kernel_rfl) (fun _ _ _ h => h) (yieldsIf_load_mid (by rfl) _ _ rfl _ _ rfl (intV .u8 a) _ (fun _ h => h.1) hu rfl hia) hHeld0 ?_
  try simp only [Act.put, List.setIfInBounds_toArray]
  refine' wpAnyH_take (i := 2) (oi := _) (v := _) rfl (by kernel_rfl) (by kernel_rfl) (by kernel_rfl) (fun _ _ _ h => h) (yieldsIf_load_mid (by rfl) _ _ rfl _ _ rfl (intV .u8 b) _ (fun _ h => h.2) hu rfl hib) hHeld0 ?_
  try simp only [Act.put]
  clear hHeld0
  refine wpAnyH_ready (rs := [1]) (by kernel_rfl) (by simp) ?_
  refine AllReadyH.cons (o := _) rfl (fun K hK => ?_) AllReadyH.nil
  (try go_simp)
  go_at_call 26
  refine (HTA.out w3.drew).mono ?_
  rintro e w4 ⟨rfl, hbw4⟩
  have hd1 := hd0.trans (hbw4.mono hd0.size)
  (try go_wp2_with fail)
  refine hK.out _ _ (HA3.out _ hd1) (fun _ => ?_)
  clear hK K
  try simp only [Act.put, List.setIfInBounds_toArray, List.set_cons_zero, List.set_cons_succ]
  refine wpAnyH_ready (rs := [3]) (by kernel_rfl) (by simp) ?_
  refine AllReadyH.cons (o := _) rfl (fun K hK => ?_) AllReadyH.nil
  (try go_simp)
  go_at_call 26
  refine (HTB.out w4).mono ?_
  rintro e w5 ⟨rfl, hbw5⟩
  have hd2 := hd1.trans (hbw5.mono hd1.size)
  (try go_wp2_with fail)
  refine hK.out _ _ (HA3.out _ hd2) (fun _ => ?_)
  clear hK K
  try simp only [Act.put, List.setIfInBounds_toArray, List.set_cons_zero, List.set_cons_succ]
  refine wpAnyH_ready (rs := [4]) (by kernel_rfl) (by simp) ?_
  refine AllReadyH.cons (o := _) rfl (fun K hK => ?_) AllReadyH.nil
  (try go_simp)
  go_at_call 29
  refine (HIP.out w5).mono ?_
  rintro e w6 ⟨rfl, hbw6⟩
  have hd3 := hd2.trans (hbw6.mono hd2.size)
  (try go_wp2_with fail)
  refine hK.out _ _ (HA3.out _ hd3) (fun _ => ?_)
  clear hK K
  try simp only [Act.put, List.setIfInBounds_toArray, List.set_cons_zero, List.set_cons_succ]
  refine wpAnyH_ready (rs := [5]) (by kernel_rfl) (by simp) ?_
  refine AllReadyH.cons (o := _) rfl (fun K hK => ?_) AllReadyH.nil
  go_simp
  refine hK.out _ _ (HA3.out _ hd3) (fun _ => ?_)
  clear hK K
  try simp only [Act.put, List.setIfInBounds_toArray, List.set_cons_zero, List.set_cons_succ]
  refine wpAnyH_done (by kernel_rfl) ?_ _
  have HB6 := Lib.hid (HB3.out.trans (hd3.mono HB3.out.size))
  clear hd0 hd1 hd2 hd3 hbw4 hbw5 hbw6
  go_wp2_with fail
  go_ret
  exact ⟨rfl, HB.out.trans (HB6.out.mono HB.out.size)⟩
end Go.Proofs.Ytoelagfcapdfpaa
