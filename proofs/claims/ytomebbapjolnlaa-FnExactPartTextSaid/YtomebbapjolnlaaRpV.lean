/-
  A rope cut into two strands (cutRope, impl).
-/
import Derived.Test.YtomebbapjolnlaaRpZ
import Derived.Test.YtomebbapjolnlaaRpO0
namespace Go.Proofs.Ytomebbapjolnlaa
open Go.RowKit

set_option maxRecDepth 100000 in
set_option maxHeartbeats 1600000 in
theorem implCutRope_calls (A : Option Addr) (c : Nat) (m : List (List Int)) (B : Option Addr) (k : Nat) (L : List Win) (i : Int) (w : World) (hr : Rd2 w w.heap.size A m) (hn : m.length ≤ maxLen) (hx : RdW w w.heap.size B L) (hl : L.length ≤ maxLen) (hwa : ∀ x ∈ L, WArg x) :
    Calls Try.prog 92 #[.agg #[.slice A m.length c], .agg #[.slice B L.length k], .int .i64 i] w fun e w' => ∃ u v, e = .returned (.tuple #[u, v, .bool (decide (CutOK m L i))]) ∧ Str w' w'.heap.size 2 u (splitRopeR m L i).1 ∧ Str w' w'.heap.size 2 v (splitRopeR m L i).2.1 ∧ Below w.heap.size w w' := by
  obtain ⟨w0, hw0, hb0, hg0⟩ := enterMP A m.length c B L.length k w
  have HC := Lib.hid (implRope_calls A c m B k L w0 ((hr.below hb0).more hb0.size) hn ((hx.below hb0).more hb0.size) hl hwa)
  have HX := Lib.hid hx
  have HB := Lib.hid hb0
  have HW := Lib.hid hw0
  have HG := Lib.hid hg0
  have c0 := one_cell hg0.m
  have c1 := one_cell hg0.p
  clear hr hx hb0 hw0 hg0 hwa
  go_enter Try.func92, Try.ntmps92
  go_wp2_with fail
  rw [HW.out]
  refine HC.out.mono ?_
  rintro e w2 ⟨rfl, hb2⟩
  have HB2 := Lib.hid hb2
  have c2 := one_cell (HG.out.below hb2).p
  clear hb2 c0 c1
  have HBD : Hid (∀ V : World, Below w2.heap.size w2 V → Below w.heap.size w V) := Lib.hid fun V h => HB.out.trans ((HB2.out.trans (h.mono HB2.out.size)).mono HB.out.size)
  by_cases hw : Watched m L
  · rw [show decide (Watched m L) = true from decide_eq_true hw]
    have HLN := Lib.hid (strandOf_calls B k L w2 ((HX.out.below (HB.out.trans (HB2.out.mono HB.out.size))).more (Nat.le_trans HB.out.size HB2.out.size)) hw.2.1)
    have hl12 := hw.2.1
    have HT : Hid (Tiny L) := Lib.hid hw.len64
    have HRM := Lib.hid hw.room64
    have HAL := Lib.hid (splitR_all (L := L) fun x hx => (hw.len64 x hx).1)
    obtain ⟨t, ht⟩ : ∃ t, rpLen L = t := ⟨_, rfl⟩
    have htb := rpLen_ok hw
    have HCO : Hid (CutOK m L i ↔ 0 ≤ i ∧ i ≤ t) := Lib.hid (by rw [← ht]; exact ⟨fun h => h.2, fun h => ⟨hw, h⟩⟩)
    rw [ht] at htb HAL
    have ht0 := htb.1
    have ht1 := htb.2
    have HTT := Lib.hid ht
    clear hw htb ht
    go_wp2_with fail
    refine HLN.out.mono ?_
    rintro e w3 ⟨A3, k3, rfl, hk3, hbr3, hb3⟩
    have HB3 := Lib.hid hb3
    have HBR := Lib.hid (braidLength_calls 0 A3 k3 (strV1 L) (ones L) w3 hbr3 (by rw [ones_flat]; exact HT.out) (by rw [ones_flat]; omega))
    rw [strV1_len, ones_flat, HTT.out] at HBR
    have HSB := Lib.hid hbr3
    have hm : ∀ w : World, (method 269 112 (.slice A3 L.length k3) "loop.example/g01179/impl.length").run Try.prog w = .ok (153, .slice A3 L.length k3) w := fun _ => by kernel_rfl
    unfold brI
    clear hb3 c2 hbr3
    go_wp2_with fail
    refine HBR.out.mono ?_
    rintro e w4 ⟨rfl, hb4⟩
    have HB4 := Lib.hid (HB3.out.trans (hb4.mono HB3.out.size))
    have HS4 := Lib.hid ((HSB.out.below hb4).more hb4.size)
    clear hb4 hm
    by_cases hin : 0 ≤ i ∧ i ≤ t
    · have HD : Hid (decide (CutOK m L i) = true) := Lib.hid (decide_eq_true (HCO.out.2 hin))
      have HV : Hid (splitRopeR m L i = ((splitR L i).1, (splitR L i).2, true)) := Lib.hid (if_pos (HCO.out.2 hin))
      have h0 := hin.1
      have h1 := hin.2
      clear hin
      have hng : ¬ i < 0 := by omega
      have hng2 : ¬ t < i := by omega
      by_cases hit : i = t
      · subst hit
        go_wp2_with fail
        refine bodyPost_ret (v := .tuple #[.iface 112 (.slice A3 L.length k3), .iface 112 (.slice (some ⟨w4.heap.size, 0, none⟩) 0 0), .bool true]) (by simp [results, Try.results92, go_sem]) rfl ⟨_, _, by rw [HD.out], by rw [HV.out]; exact (by rw [HAL.out]; exact (((str_ones HS4.out hk3).deeper).below ((Below.refl _ _).alloc (Nat.le_refl _) (.cells #[] 95))).more (by simp)), by rw [HV.out]; exact (by rw [HAL.out]; exact (flat_none _ _).str _ _ _), HBD.out _ (HB4.out.alloc HB4.out.size _)⟩
      · have hbe : (i == t) = false := by simpa using hit
        have hm2 : ∀ w : World, (method 269 112 (.slice A3 L.length k3) "loop.example/g01179/impl.cut").run Try.prog w = .ok (152, .slice A3 L.length k3) w := fun _ => by kernel_rfl
        have HCC := Lib.hid (implBraidCut_calls A3 k3 L i w4 HS4.out.rd hl12 HRM.out HT.out ⟨h0, by omega⟩ (by rw [HTT.out]; exact hit))
        go_wp2_with fail
        refine HCC.out.mono ?_
        rintro e w5 ⟨u, v, rfl, hu, hv, hb5⟩
        have HB5 := Lib.hid (HB4.out.trans (hb5.mono HB4.out.size))
        have HU := Lib.hid hu
        have HVV := Lib.hid hv
        clear hu hv hb5 hm2
        go_wp2_with fail
        refine bodyPost_ret (v := .tuple #[u, v, .bool true]) (by simp [results, Try.results92, go_sem]) rfl ⟨_, _, by rw [HD.out], by rw [HV.out]; exact HU.out, by rw [HV.out]; exact HVV.out, HBD.out _ HB5.out⟩
    · have HD : Hid (decide (CutOK m L i) = false) := Lib.hid (decide_eq_false fun h => hin (HCO.out.1 h))
      have HV : Hid (splitRopeR m L i = ([], [], false)) := Lib.hid (if_neg fun h => hin (HCO.out.1 h))
      by_cases h0 : i < 0
      · clear hin
        go_wp2_with fail
        refine bodyPost_ret (v := .tuple #[.iface 112 (.slice (some ⟨w4.heap.size, 0, none⟩) 0 0), .iface 112 (.slice (some ⟨w4.heap.size + 1, 0, none⟩) 0 0), .bool false]) (by simp [results, Try.results92, go_sem]) rfl ⟨_, _, by rw [HD.out], by rw [HV.out]; exact (flat_none _ _).str _ _ _, by rw [HV.out]; exact (flat_none _ _).str _ _ _, HBD.out _ ((HB4.out.alloc HB4.out.size _).alloc (by have := HB4.out.size; simp; omega) _)⟩
      · have h1 : t < i := by omega
        clear hin
        go_wp2_with fail
        refine bodyPost_ret (v := .tuple #[.iface 112 (.slice (some ⟨w4.heap.size, 0, none⟩) 0 0), .iface 112 (.slice (some ⟨w4.heap.size + 1, 0, none⟩) 0 0), .bool false]) (by simp [results, Try.results92, go_sem]) rfl ⟨_, _, by rw [HD.out], by rw [HV.out]; exact (flat_none _ _).str _ _ _, by rw [HV.out]; exact (flat_none _ _).str _ _ _, HBD.out _ ((HB4.out.alloc HB4.out.size _).alloc (by have := HB4.out.size; simp; omega) _)⟩
  · rw [show decide (Watched m L) = false from decide_eq_false hw]
    have HD : Hid (decide (CutOK m L i) = false) := Lib.hid (decide_eq_false fun h => hw h.1)
    have HV : Hid (splitRopeR m L i = ([], [], false)) := Lib.hid (if_neg fun h => hw h.1)
    clear hw
    go_wp2_with fail
    refine bodyPost_ret (v := .tuple #[.iface 112 (.slice (some ⟨w2.heap.size, 0, none⟩) 0 0), .iface 112 (.slice (some ⟨w2.heap.size + 1, 0, none⟩) 0 0), .bool false]) (by simp [results, Try.results92, go_sem]) rfl ⟨_, _, by rw [HD.out], by rw [HV.out]; exact (flat_none _ _).str _ _ _, by rw [HV.out]; exact (flat_none _ _).str _ _ _, HBD.out _ (((Below.refl _ _).alloc (Nat.le_refl _) _).alloc (by simp) _)⟩
end Go.Proofs.Ytomebbapjolnlaa
