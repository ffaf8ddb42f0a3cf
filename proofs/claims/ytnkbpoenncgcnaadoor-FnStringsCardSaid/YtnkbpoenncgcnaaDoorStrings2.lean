/-
  FnStrings: the walk of the law, its parts put together.
-/
import Derived.Test.YtnkbpoenncgcnaaDoorStrings
namespace Go.Proofs.YtnkbpoenncgcnaaDoor
open Go.RowKit

set_option maxHeartbeats 2000000 in
set_option maxRecDepth 100000 in
theorem fnStrings_walk (A : Option Addr) (n cp : Nat) (zs : List Int) (w : World) (ht : Tabs w) (ha : IntArg .u8 w A n cp zs) :
    Calls Tryd.prog 3 #[.slice A n cp] w fun e w' => e = .returned (.bool true) ∧ Below w.heap.size w w' := by
  obtain ⟨hn, hcap, hmax, hr, hz⟩ := ha
  unfold maxLen at hmax
  by_cases hm : n ≤ 65536
  · have HD1 := Lib.hid (drawFormat_calls n cp A zs w hr hn hm hz)
    have HD2 := Lib.hid (fun (W : World) (hr : Rd W W.heap.size A (intV .u8 zs)) => drawParse_calls n cp A zs W hr hn hm hz)
    have HD3 := Lib.hid (fun (W : World) (hr : Rd W W.heap.size A (intV .u8 zs)) => drawAppend_calls n cp A zs W hr hn hm hz)
    have HVA := Lib.hid (fun (W : World) (hr : Rd W W.heap.size A (intV .u8 zs)) i h => vAt_calls n cp i A zs W hr hn hm hz h)
    have HVB := Lib.hid (fun i => vAtF_bd zs n i hn hz)
    have HR := Lib.hid hr
    have HT := Lib.hid ht
    clear hr hz hn ht
    go_enter Tryd.func3, Tryd.ntmps3
    go_wp2_with (go_at_call 8; go_in)
    refine HD1.out.mono ?_
    rintro e w1 ⟨⟨q, rfl, hq0, hq1⟩, hb1⟩
    have HB1 := Lib.hid hb1
    clear hb1
    obtain ⟨o, b, hF, hFo⟩ := formV_form q
    have HF := Lib.hid hF
    have HFO := Lib.hid hFo
    clear hF hFo
    go_wp2_with fail
    have C2 := implFormat_calls q w1 (by omega) (by omega) (HT.out.below HB1.out)
    rw [HF.out] at C2
    refine C2.mono ?_
    clear C2
    rintro e w2 ⟨rfl, hb2⟩
    have HB2 := Lib.hid (HB1.out.trans (hb2.mono HB1.out.size))
    clear hb2
    go_wp2_with fail
    have C3 := specFormat_calls q w2
    rw [HF.out] at C3
    refine C3.mono ?_
    clear C3
    rintro e w3 ⟨rfl, m3, hw3⟩
    have HB3 : Hid (Below w.heap.size w w3) := by rw [hw3]; exact below_drewN HB2.out m3
    clear hw3
    go_wp2_with fail
    refine (HD2.out w3 ((HR.out.below HB3.out).more HB3.out.size)).mono ?_
    rintro e w4 ⟨⟨t, rfl, ht4⟩, hb4⟩
    have HB4 := Lib.hid (HB3.out.trans (hb4.mono HB3.out.size))
    clear hb4
    obtain ⟨pn, pb, hP⟩ := parseOf_ex t
    have HP := Lib.hid hP
    clear hP
    go_wp2_with fail
    refine (implParse_calls t pn pb w4 (by unfold maxLen; omega) HP.out (HT.out.below HB4.out)).mono ?_
    rintro e w5 ⟨rfl, hb5⟩
    have HB5 := Lib.hid (HB4.out.trans (hb5.mono HB4.out.size))
    clear hb5
    go_wp2_with fail
    refine (specParse_calls t pn pb w5 (by unfold maxLen; omega) HP.out).mono ?_
    rintro e w6 ⟨rfl, m6, hw6⟩
    have HB6 : Hid (Below w.heap.size w w6) := by rw [hw6]; exact below_drewN HB5.out m6
    clear hw6
    go_wp2_with fail
    refine (HD3.out w6 ((HR.out.below HB6.out).more HB6.out.size)).mono ?_
    rintro e w7 ⟨⟨x, rfl, hx7⟩, hb7⟩
    have HB7 := Lib.hid (HB6.out.trans (hb7.mono HB6.out.size))
    clear hb7
    obtain ⟨y, sl, hS⟩ := sealOf_ex x
    have HS := Lib.hid hS
    clear hS
    go_wp2_with fail
    refine (implAppend_calls x y sl w7 (by omega) HS.out (HT.out.below HB7.out)).mono ?_
    rintro e w8 ⟨rfl, hb8⟩
    have HB8 := Lib.hid (HB7.out.trans (hb8.mono HB7.out.size))
    clear hb8
    go_wp2_with fail
    refine (specAppend_calls x y sl w8 (by omega) HS.out).mono ?_
    rintro e w9 ⟨rfl, m9, hw9⟩
    have HB9 : Hid (Below w.heap.size w w9) := by rw [hw9]; exact below_drewN HB8.out m9
    clear hw9
    have s1 := eq_bool (a := o) rfl
    have s2 := eq_bool (a := y) rfl
    obtain ⟨rn, rb, hQ⟩ := parseOf_ex o
    have HQ := Lib.hid hQ
    clear hQ HF HD1 HD2 HD3
    have HOZ : Hid (o.size ≤ 21) := by
      show o.size ≤ 21
      rcases HFO.out with ⟨_, rfl, g0, g1⟩ | ⟨_, rfl⟩
      · exact Lib.itoa_length_le q (by omega) (by omega)
      · exact Nat.zero_le _
    go_wp2_with fail
    refine (implParse_calls o rn rb w9 (by have := HOZ.out; unfold maxLen; omega) HQ.out (HT.out.below HB9.out)).mono ?_
    rintro e w10 ⟨rfl, hb10⟩
    have HB10 := Lib.hid (HB9.out.trans (hb10.mono HB9.out.size))
    clear hb10
    have hK : (b = true ∧ rb = true ∧ rn = q) ∨ b = false := by
      rcases HFO.out with ⟨rfl, rfl, g0, g1⟩ | ⟨rfl, _⟩
      · left
        rcases HQ.out with ⟨rfl, _, _, h⟩ | ⟨_, _, h⟩
        · exact ⟨rfl, rfl, numB_inj h⟩
        · exact absurd rfl (h q g0 g1)
      · exact .inr rfl
    rcases hK with ⟨rfl, rfl, rfl⟩ | rfl
    · rcases HS.out with ⟨rfl, hk, rfl⟩ | ⟨rfl, hk, rfl⟩
      · have hyl : 0 < (sealB x).size := by rw [sealB_size]; omega
        have hyl4 : (sealB x).size ≤ 4000 := hk.2.2
        have HK := Lib.hid hk
        have HVS := Lib.hid (fun (W : World) (hW : Tabs W) => implVerify_calls (sealB x) x true W (by omega) (seal_verifies hk) hW)
        have HDT := Lib.hid (fun (Z : ByteArray) (k : Nat) (d : UInt8) (h1 : k < (sealB x).data.toList.length) (h2 : d ≠ (sealB x).data.toList[k]) (h3 : Z.data.toList = (sealB x).data.toList.set k d) => detect hk h1 h2 h3)
        clear hk HS HQ HFO HP
        generalize hyy : sealB x = y at *
        have HYY := Lib.hid hyy
        clear hyy
        go_wp2_with fail
        refine (HVS.out w10 (HT.out.below HB10.out)).mono ?_
        rintro e w11 ⟨rfl, hb11⟩
        have HB11 := Lib.hid (HB10.out.trans (hb11.mono HB10.out.size))
        clear hb11
        obtain ⟨cap, w12, hcv, hcell, hfr, hsz12, hb12⟩ := bytes_of_string w11 y
        have HCELL := Lib.hid hcell
        have HFR := Lib.hid hfr
        have HSZ12 := Lib.hid hsz12
        have HB12 := Lib.hid (HB11.out.trans (hb12.mono HB11.out.size))
        have hle11 : w.heap.size ≤ w11.heap.size := HB11.out.size
        clear hcell hfr hsz12 hb12
        go_wp2_with fail
        refine (HVA.out w12 ((HR.out.below HB12.out).more HB12.out.size) 9 (by omega)).mono ?_
        rintro e w' ⟨rfl, rfl⟩
        have v9 := HVB.out 9
        clear hcv
        obtain ⟨k, hk⟩ : ∃ k : Nat, vAtF zs n 9 % (y.size : Int) = k := ⟨(vAtF zs n 9 % (y.size : Int)).toNat, by have := Int.emod_nonneg (vAtF zs n 9) (show (y.size : Int) ≠ 0 by omega); omega⟩
        have hky : k < y.size := by have := Int.emod_lt_of_pos (vAtF zs n 9) (show (0 : Int) < y.size by omega); omega
        have HK2 := Lib.hid hk
        clear hk
        go_wp2_with fail
        rw [HK2.out]
        have hc0 : w'.cell? ⟨w11.heap.size, k, none⟩ = some (.int .u8 (y[k]).toNat) := HCELL.out k hky
        have hf0 : w'.frozen? ⟨w11.heap.size, k, none⟩ = false := HFR.out k hky
        have v10 := HVB.out 10
        have HV10 := Lib.hid (fun W hr => HVA.out W hr 10 (by omega))
        have CV := HV10.out w'.drew (((HR.out.below HB12.out).more HB12.out.size).drew)
        generalize vAtF zs n 10 = r10 at *
        have q1 : r10.tmod 255 = r10 % 255 := Int.tmod_eq_emod_of_nonneg (by omega)
        obtain ⟨e1, hx1, hx2⟩ := xor_other y[k] (1 + r10 % 255) (by omega) (by omega)
        have HX2 := Lib.hid hx2
        have CV := Lib.hid CV
        clear hx2
        refine wp_region_still_tail 13 (by kernel_rfl) (by kernel_rfl) ?_
        simp only [List.take_succ_cons, List.take_zero, List.drop_succ_cons, List.drop_zero]
        still_step
        still_step
        still_step
        still_step
        still_step
        still_step
        still_step
        still_call (CV.out)
        still_step
        still_step
        still_step
        still_step
        still_step
        refine wpStill_nil ?_
        change wpList _ _ _ _ _ w'.drew
        obtain ⟨wd, hwd⟩ : ∃ wd, w'.drew = wd := ⟨_, rfl⟩
        have hcd : wd.cell? ⟨w11.heap.size, k, none⟩ = some (.int .u8 (y[k]).toNat) := by rw [← hwd]; exact hc0
        have hfd : wd.frozen? ⟨w11.heap.size, k, none⟩ = false := by rw [← hwd]; exact hf0
        have HCD : Hid (∀ j (h : j < y.size), wd.cell? ⟨w11.heap.size, j, none⟩ = some (.int .u8 (y[j]).toNat)) := by
          show ∀ j (h : j < y.size), wd.cell? ⟨w11.heap.size, j, none⟩ = some (.int .u8 (y[j]).toNat)
          rw [← hwd]; exact HCELL.out
        have HBd : Hid (Below w.heap.size w wd) := by show Below w.heap.size w wd; rw [← hwd]; exact HB12.out.drew
        rw [hwd]
        clear hwd hc0 hf0 CV HV10
        obtain ⟨Z, hZ, hcv⟩ := string_of_cells (wd.setCell ⟨w11.heap.size, k, none⟩ (.int .u8 e1.toNat)) w11.heap.size cap (y.data.toList.set k e1) (fun j v hv => by
          rw [List.getElem?_set] at hv
          by_cases hjk : k = j
          · subst hjk
            rw [if_pos rfl, if_pos (by simpa using hky)] at hv
            injection hv with hv
            subst hv
            exact World.cell?_setCell_same' _ _ _ (by rw [hcd]; rfl)
          · rw [if_neg hjk] at hv
            obtain ⟨hj, hjv⟩ := byte_at hv
            rw [World.cell?_setCell_other _ _ _ _ (by intro e; injection e with _ e2; exact hjk e2), HCD.out j hj, hjv])
        rw [List.length_set, size_eq] at hcv
        have hno : ¬ VerOk Z := HDT.out Z k e1 (by simpa using hky) (fun e => HX2.out (e.trans rfl)) hZ
        have hzs : Z.size ≤ 4000 := by
          have := congrArg List.length hZ
          rw [List.length_set, size_eq, size_eq] at this
          omega
        have HVZ := Lib.hid (fun (W : World) (hW : Tabs W) => implVerify_calls Z ByteArray.empty false W (by omega) (.inr ⟨rfl, hno, rfl⟩) hW)
        have hself2 : (x.toList == x.toList) = true := beq_self_eq_true _
        have HBS : Hid (Below w.heap.size w (wd.setCell ⟨w11.heap.size, k, none⟩ (.int .u8 e1.toNat))) := HBd.out.setCell (p := ⟨w11.heap.size, k, none⟩) hle11 _
        clear hno hZ
        go_wp2_with fail
        refine (HVZ.out _ (HT.out.below HBS.out)).mono ?_
        rintro e w20 ⟨rfl, hb20⟩
        have HB20 := Lib.hid (HBS.out.trans (hb20.mono HBS.out.size))
        clear hb20
        go_wp2_with fail
        go_ret
        exact ⟨rfl, HB20.out⟩
      · go_wp2_with fail
        go_ret
        exact ⟨rfl, HB10.out⟩
    · rcases HS.out with ⟨rfl, hk, rfl⟩ | ⟨rfl, hk, rfl⟩
      · have hyl : 0 < (sealB x).size := by rw [sealB_size]; omega
        have hyl4 : (sealB x).size ≤ 4000 := hk.2.2
        have HK := Lib.hid hk
        have HVS := Lib.hid (fun (W : World) (hW : Tabs W) => implVerify_calls (sealB x) x true W (by omega) (seal_verifies hk) hW)
        have HDT := Lib.hid (fun (Z : ByteArray) (k : Nat) (d : UInt8) (h1 : k < (sealB x).data.toList.length) (h2 : d ≠ (sealB x).data.toList[k]) (h3 : Z.data.toList = (sealB x).data.toList.set k d) => detect hk h1 h2 h3)
        clear hk HS HQ HFO HP
        generalize hyy : sealB x = y at *
        have HYY := Lib.hid hyy
        clear hyy
        go_wp2_with fail
        refine (HVS.out w10 (HT.out.below HB10.out)).mono ?_
        rintro e w11 ⟨rfl, hb11⟩
        have HB11 := Lib.hid (HB10.out.trans (hb11.mono HB10.out.size))
        clear hb11
        obtain ⟨cap, w12, hcv, hcell, hfr, hsz12, hb12⟩ := bytes_of_string w11 y
        have HCELL := Lib.hid hcell
        have HFR := Lib.hid hfr
        have HSZ12 := Lib.hid hsz12
        have HB12 := Lib.hid (HB11.out.trans (hb12.mono HB11.out.size))
        have hle11 : w.heap.size ≤ w11.heap.size := HB11.out.size
        clear hcell hfr hsz12 hb12
        go_wp2_with fail
        refine (HVA.out w12 ((HR.out.below HB12.out).more HB12.out.size) 9 (by omega)).mono ?_
        rintro e w' ⟨rfl, rfl⟩
        have v9 := HVB.out 9
        clear hcv
        obtain ⟨k, hk⟩ : ∃ k : Nat, vAtF zs n 9 % (y.size : Int) = k := ⟨(vAtF zs n 9 % (y.size : Int)).toNat, by have := Int.emod_nonneg (vAtF zs n 9) (show (y.size : Int) ≠ 0 by omega); omega⟩
        have hky : k < y.size := by have := Int.emod_lt_of_pos (vAtF zs n 9) (show (0 : Int) < y.size by omega); omega
        have HK2 := Lib.hid hk
        clear hk
        go_wp2_with fail
        rw [HK2.out]
        have hc0 : w'.cell? ⟨w11.heap.size, k, none⟩ = some (.int .u8 (y[k]).toNat) := HCELL.out k hky
        have hf0 : w'.frozen? ⟨w11.heap.size, k, none⟩ = false := HFR.out k hky
        have v10 := HVB.out 10
        have HV10 := Lib.hid (fun W hr => HVA.out W hr 10 (by omega))
        have CV := HV10.out w'.drew (((HR.out.below HB12.out).more HB12.out.size).drew)
        generalize vAtF zs n 10 = r10 at *
        have q1 : r10.tmod 255 = r10 % 255 := Int.tmod_eq_emod_of_nonneg (by omega)
        obtain ⟨e1, hx1, hx2⟩ := xor_other y[k] (1 + r10 % 255) (by omega) (by omega)
        have HX2 := Lib.hid hx2
        have CV := Lib.hid CV
        clear hx2
        refine wp_region_still_tail 13 (by kernel_rfl) (by kernel_rfl) ?_
        simp only [List.take_succ_cons, List.take_zero, List.drop_succ_cons, List.drop_zero]
        still_step
        still_step
        still_step
        still_step
        still_step
        still_step
        still_step
        still_call (CV.out)
        still_step
        still_step
        still_step
        still_step
        still_step
        refine wpStill_nil ?_
        change wpList _ _ _ _ _ w'.drew
        obtain ⟨wd, hwd⟩ : ∃ wd, w'.drew = wd := ⟨_, rfl⟩
        have hcd : wd.cell? ⟨w11.heap.size, k, none⟩ = some (.int .u8 (y[k]).toNat) := by rw [← hwd]; exact hc0
        have hfd : wd.frozen? ⟨w11.heap.size, k, none⟩ = false := by rw [← hwd]; exact hf0
        have HCD : Hid (∀ j (h : j < y.size), wd.cell? ⟨w11.heap.size, j, none⟩ = some (.int .u8 (y[j]).toNat)) := by
          show ∀ j (h : j < y.size), wd.cell? ⟨w11.heap.size, j, none⟩ = some (.int .u8 (y[j]).toNat)
          rw [← hwd]; exact HCELL.out
        have HBd : Hid (Below w.heap.size w wd) := by show Below w.heap.size w wd; rw [← hwd]; exact HB12.out.drew
        rw [hwd]
        clear hwd hc0 hf0 CV HV10
        obtain ⟨Z, hZ, hcv⟩ := string_of_cells (wd.setCell ⟨w11.heap.size, k, none⟩ (.int .u8 e1.toNat)) w11.heap.size cap (y.data.toList.set k e1) (fun j v hv => by
          rw [List.getElem?_set] at hv
          by_cases hjk : k = j
          · subst hjk
            rw [if_pos rfl, if_pos (by simpa using hky)] at hv
            injection hv with hv
            subst hv
            exact World.cell?_setCell_same' _ _ _ (by rw [hcd]; rfl)
          · rw [if_neg hjk] at hv
            obtain ⟨hj, hjv⟩ := byte_at hv
            rw [World.cell?_setCell_other _ _ _ _ (by intro e; injection e with _ e2; exact hjk e2), HCD.out j hj, hjv])
        rw [List.length_set, size_eq] at hcv
        have hno : ¬ VerOk Z := HDT.out Z k e1 (by simpa using hky) (fun e => HX2.out (e.trans rfl)) hZ
        have hzs : Z.size ≤ 4000 := by
          have := congrArg List.length hZ
          rw [List.length_set, size_eq, size_eq] at this
          omega
        have HVZ := Lib.hid (fun (W : World) (hW : Tabs W) => implVerify_calls Z ByteArray.empty false W (by omega) (.inr ⟨rfl, hno, rfl⟩) hW)
        have hself2 : (x.toList == x.toList) = true := beq_self_eq_true _
        have HBS : Hid (Below w.heap.size w (wd.setCell ⟨w11.heap.size, k, none⟩ (.int .u8 e1.toNat))) := HBd.out.setCell (p := ⟨w11.heap.size, k, none⟩) hle11 _
        clear hno hZ
        go_wp2_with fail
        refine (HVZ.out _ (HT.out.below HBS.out)).mono ?_
        rintro e w20 ⟨rfl, hb20⟩
        have HB20 := Lib.hid (HBS.out.trans (hb20.mono HBS.out.size))
        clear hb20
        go_wp2_with fail
        go_ret
        exact ⟨rfl, HB20.out⟩
      · go_wp2_with fail
        go_ret
        exact ⟨rfl, HB10.out⟩
  · clear hr hz hn ht
    go_enter Tryd.func3, Tryd.ntmps3
    go_wp2_with (go_at_call 8; go_in)
    go_ret
    exact ⟨rfl, Below.refl _ _⟩
end Go.Proofs.YtnkbpoenncgcnaaDoor
