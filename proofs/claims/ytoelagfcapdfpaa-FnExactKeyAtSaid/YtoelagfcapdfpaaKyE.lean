/-
  The key that a window has at a place: KeyAt of both.
-/
import Derived.Test.YtoelagfcapdfpaaKyR
import Derived.Test.YtoelagfcapdfpaaWin2
namespace Go.Proofs.Ytoelagfcapdfpaa
open Go.RowKit Go.ChangeShapes Go.WideShapes Go.Joins Go.Deep

/-- A window has a key at a place. -/
def HasKey (m : List (List Int)) (x : Win) (i : Int) : Prop := WinOK m x ∧ 0 ≤ i ∧ i ≤ x.len - 16
instance (m : List (List Int)) (x : Win) (i : Int) : Decidable (HasKey m x i) := inferInstanceAs (Decidable (_ ∧ _))
/-- What KeyAt answers. -/
def keyAtR (m : List (List Int)) (x : Win) (i : Int) : List Int × Bool :=
  if HasKey m x i then (((wb m x.arr.toNat x.start.toNat x.len.toNat).drop i.toNat).take 16, true) else (zeroK, false)
theorem keyAtR_len (m : List (List Int)) (x : Win) (i : Int) : (keyAtR m x i).1.length = 16 := by
  unfold keyAtR
  split
  · rename_i h
    obtain ⟨hm, h0, h1⟩ := h
    obtain ⟨n, s, l, c, rfl, hnl, hlc, hsc, _⟩ := hm.nat
    simp only [Int.toNat_natCast] at *
    rw [List.length_take, List.length_drop, wb_len hnl (by omega)]
    omega
  · rfl
theorem newKey9 (W : World) : KeyBox (W.alloc (.cells #[.int .u8 0, .int .u8 0, .int .u8 0, .int .u8 0, .int .u8 0, .int .u8 0, .int .u8 0, .int .u8 0, .int .u8 0, .int .u8 0, .int .u8 0, .int .u8 0, .int .u8 0, .int .u8 0, .int .u8 0, .int .u8 0] 28)) W.heap.size zeroK := ⟨heap_alloc_new _ _, by decide⟩
theorem enterMWK (A : Option Addr) (n c : Nat) (a s l k : Int) (w : World) :
    ∃ w0, ((w.alloc (.cells #[.slice A n c] 31)).alloc (.cells #[.int .i64 a, .int .i64 s, .int .i64 l, .int .i64 k] 33)).alloc (.cells #[.int .u8 0, .int .u8 0, .int .u8 0, .int .u8 0, .int .u8 0, .int .u8 0, .int .u8 0, .int .u8 0, .int .u8 0, .int .u8 0, .int .u8 0, .int .u8 0, .int .u8 0, .int .u8 0, .int .u8 0, .int .u8 0] 28) = w0 ∧ Below w.heap.size w w0 ∧ w0.heap.size = w.heap.size + 3 ∧ MW w0 w.heap.size A n c a s l k ∧ KeyBox w0 (w.heap.size + 1 + 1) zeroK := by
  obtain ⟨h1, h2, h3, h4, h5⟩ := enter3 w (.cells #[.slice A n c] 31) (.cells #[.int .i64 a, .int .i64 s, .int .i64 l, .int .i64 k] 33) (.cells #[.int .u8 0, .int .u8 0, .int .u8 0, .int .u8 0, .int .u8 0, .int .u8 0, .int .u8 0, .int .u8 0, .int .u8 0, .int .u8 0, .int .u8 0, .int .u8 0, .int .u8 0, .int .u8 0, .int .u8 0, .int .u8 0] 28)
  exact ⟨_, rfl, h1, h5, ⟨h2, h3⟩, ⟨h4, by decide⟩⟩
theorem MW.row {W : World} {g g' : Nat} {A : Option Addr} {n c : Nat} {a s l k : Int} (h : MW W g A n c a s l k) (hg : g + 1 < g') (cs : Array Value) : MW (W.setRow g' cs) g A n c a s l k :=
  ⟨(setRow_other W g' g cs (by omega)).trans h.mem, (setRow_other W g' (g + 1) cs (by omega)).trans h.win⟩
theorem MW.set1 {W : World} {g g' j : Nat} {A : Option Addr} {n c : Nat} {a s l k : Int} {u : Value} (h : MW W g A n c a s l k) (hg : g + 1 < g') : MW (W.setCell ⟨g', j, none⟩ u) g A n c a s l k :=
  ⟨keep_setA h.mem (show g' ≠ g by omega), keep_setA h.win (show g' ≠ g + 1 by omega)⟩

set_option maxRecDepth 100000 in
theorem specHas_calls (A : Option Addr) (cm : Nat) (m : List (List Int)) (x : Win) (i : Int) (w : World) (hr : Rd2 w w.heap.size A m) (hn : m.length ≤ maxLen) :
    Calls Try.prog 70 #[.agg #[.slice A m.length cm], .agg #[.int .i64 x.arr, .int .i64 x.start, .int .i64 x.len, .int .i64 x.cap], .int .i64 i] w fun e w' => e = .returned (.bool (decide (HasKey m x i))) ∧ Below w.heap.size w w' := by
  obtain ⟨w0, hw0, hb0, hz0, hmw⟩ := enterMW A m.length cm x.arr x.start x.len x.cap w
  have HC := Lib.hid (specWindow_calls A cm m x w0 ((hr.below hb0).more hb0.size) hn)
  unfold Win.val at HC
  have HB := Lib.hid hb0
  have HW := Lib.hid hw0
  have HMW := Lib.hid hmw
  obtain ⟨t0, t1, t2, t3⟩ := four_cells hmw.win
  have t4 := one_cell hmw.mem
  clear hr hb0 hmw hw0 hz0
  go_enter Try.func70, Try.ntmps70
  go_upto_region 1 with fail
  rw [HW.out]
  go_wp2_with fail
  refine HC.out.mono ?_
  rintro e w2 ⟨rfl, hb2⟩
  have HB2 := Lib.hid (HB.out.trans (hb2.mono HB.out.size))
  have HM2 := Lib.hid (HMW.out.below hb2)
  obtain ⟨d0, d1, d2, d3⟩ := four_cells HM2.out.win
  clear hb2 t0 t1 t2 t3 t4
  by_cases hm : WinOK m x
  · rw [show decide (WinOK m x) = true from decide_eq_true hm]
    obtain ⟨n, s, l, c, rfl, hnl, hlc, hsc, h1, h64, h16⟩ := hm.nat
    have HI := Lib.hid (specIn_calls i 0 ((l : Int) - 16) w2)
    have HV : Hid (decide (HasKey m ⟨n, s, l, c⟩ i) = decide (0 ≤ i ∧ i ≤ (l : Int) - 16)) := Lib.hid (by
      rw [decide_eq_decide]
      exact ⟨fun h => h.2, fun h => ⟨hm, h⟩⟩)
    have i1 : (0 : Int) ≤ l := by omega
    have i2 : (l : Int) ≤ 64 := by omega
    dsimp only at *
    clear hm
    obtain ⟨p, hp⟩ : ∃ p, decide (0 ≤ i ∧ i ≤ (l : Int) - 16) = p := ⟨_, rfl⟩
    rw [hp] at HI HV
    clear hp
    go_wp2_with fail
    refine HI.out.mono ?_
    rintro e w3 ⟨rfl, rfl⟩
    go_wp2_with fail
    go_ret
    exact ⟨by rw [HV.out]; simp, HB2.out⟩
  · rw [show decide (WinOK m x) = false from decide_eq_false hm]
    have HV : Hid (decide (HasKey m x i) = false) := Lib.hid (decide_eq_false (fun h => hm h.1))
    clear hm
    go_wp2_with fail
    go_ret
    exact ⟨by rw [HV.out]; rfl, HB2.out⟩

set_option maxRecDepth 100000 in
set_option maxHeartbeats 1200000 in
theorem specKey9_calls (A : Option Addr) (cm : Nat) (m : List (List Int)) (n s l : Nat) (c : Int) (i : Nat) (w : World) (hr : Rd2 w w.heap.size A m) (hn : n < m.length) (h16 : m.length ≤ 16) (hsl : s + l ≤ m[n].length) (h64 : m[n].length ≤ 64) (hi : i + 16 ≤ l) :
    Calls Try.prog 71 #[.agg #[.slice A m.length cm], .agg #[.int .i64 n, .int .i64 s, .int .i64 l, .int .i64 c], .int .i64 i] w fun e w' => e = .returned (.agg (keyA (((wb m n s l).drop i).take 16))) ∧ Below w.heap.size w w' := by
  obtain ⟨w0, hw0, hb0, hz0, hmw, hk0⟩ := enterMWK A m.length cm n s l c w
  have hbl : (wb m n s l).length = l := wb_len hn hsl
  have hKl : (((wb m n s l).drop i).take 16).length = 16 := by rw [List.length_take, List.length_drop, hbl]; omega
  have HAT : Hid (∀ (j : Nat) (hj : j < 16) W, Below w.heap.size w W → Calls Try.prog 97 #[.agg #[.slice A m.length cm], .agg #[.int .i64 n, .int .i64 s, .int .i64 l, .int .i64 c], .int .i64 (i + j)] W fun e w' => e = .returned (.int .u8 ((((wb m n s l).drop i).take 16).getD j 0)) ∧ Below W.heap.size W w') := Lib.hid fun j hj W hb => by
    have h := specAt_calls A cm m n s (i + j) l c W ((hr.below hb).more hb.size) hn h16 (by omega) h64
    have e : (((wb m n s l).drop i).take 16).getD j 0 = m[n][s + (i + j)]'(by omega) := by
      rw [List.getD_eq_getElem?_getD, List.getElem?_eq_getElem (by omega), Option.getD_some, List.getElem_take, List.getElem_drop, wb_get hn (by omega) (by omega)]
    rw [e, show (i : Int) + j = ((i + j : Nat) : Int) by omega]
    exact h
  obtain ⟨K, hK⟩ : ∃ K, ((wb m n s l).drop i).take 16 = K := ⟨_, rfl⟩
  have HB := Lib.hid hb0
  have HW := Lib.hid hw0
  have HM := Lib.hid hmw
  have HK0 := Lib.hid hk0
  have hs0 : w.heap.size + 3 ≤ w0.heap.size := by omega
  rw [hK] at hKl HAT ⊢
  have HKL := Lib.hid hKl
  have i1 : (0 : Int) ≤ i := by omega
  have i2 : (i : Int) ≤ 64 := by omega
  clear hr hb0 hmw hw0 hk0 hz0 hbl hKl hK
  go_enter Try.func71, Try.ntmps71
  go_upto_region 1 with fail
  rw [HW.out]
  go_upto_region 2 with (refine KeyBox.st (k' := zeroK) (newKey9 _) rfl _ _ rfl rfl (by decide) rfl ?_)
  have HV : Hid (Below w.heap.size w ((w0.alloc (.cells #[.int .u8 0, .int .u8 0, .int .u8 0, .int .u8 0, .int .u8 0, .int .u8 0, .int .u8 0, .int .u8 0, .int .u8 0, .int .u8 0, .int .u8 0, .int .u8 0, .int .u8 0, .int .u8 0, .int .u8 0, .int .u8 0] 28)).setRow w0.heap.size (keyA zeroK))) := Lib.hid (Below.setRow (HB.out.alloc (by omega) _) (by omega) _)
  have HVK : Hid (KeyBox ((w0.alloc (.cells #[.int .u8 0, .int .u8 0, .int .u8 0, .int .u8 0, .int .u8 0, .int .u8 0, .int .u8 0, .int .u8 0, .int .u8 0, .int .u8 0, .int .u8 0, .int .u8 0, .int .u8 0, .int .u8 0, .int .u8 0, .int .u8 0] 28)).setRow w0.heap.size (keyA zeroK)) w0.heap.size zeroK) := Lib.hid ((newKey9 w0).row (by decide))
  have HVM : Hid (MW ((w0.alloc (.cells #[.int .u8 0, .int .u8 0, .int .u8 0, .int .u8 0, .int .u8 0, .int .u8 0, .int .u8 0, .int .u8 0, .int .u8 0, .int .u8 0, .int .u8 0, .int .u8 0, .int .u8 0, .int .u8 0, .int .u8 0, .int .u8 0] 28)).setRow w0.heap.size (keyA zeroK)) w.heap.size A m.length cm n s l c) := Lib.hid ((HM.out.below ((Below.refl _ _).alloc (Nat.le_refl _) _)).row (by omega) _)
  have HVR : Hid (KeyBox ((w0.alloc (.cells #[.int .u8 0, .int .u8 0, .int .u8 0, .int .u8 0, .int .u8 0, .int .u8 0, .int .u8 0, .int .u8 0, .int .u8 0, .int .u8 0, .int .u8 0, .int .u8 0, .int .u8 0, .int .u8 0, .int .u8 0, .int .u8 0] 28)).setRow w0.heap.size (keyA zeroK)) (w.heap.size + 1 + 1) zeroK) := Lib.hid ((HK0.out.below ((Below.refl _ _).alloc (Nat.le_refl _) _)).rowOther (by omega) _)
  generalize (w0.alloc (.cells #[.int .u8 0, .int .u8 0, .int .u8 0, .int .u8 0, .int .u8 0, .int .u8 0, .int .u8 0, .int .u8 0, .int .u8 0, .int .u8 0, .int .u8 0, .int .u8 0, .int .u8 0, .int .u8 0, .int .u8 0, .int .u8 0] 28)).setRow w0.heap.size (keyA zeroK) = V at *
  obtain ⟨G, hG⟩ : ∃ G, w0.heap.size = G := ⟨_, rfl⟩
  rw [hG] at HVK hs0 ⊢
  clear hG
  go_wp2_with fail
  go_loopw [8] (fun t wr => ∃ (j : Nat) (z : List Int), j ≤ 16 ∧ t = .int .i64 j ∧ z.take j = K.take j ∧ KeyBox wr G z ∧ KeyBox wr (w.heap.size + 1 + 1) zeroK ∧ MW wr w.heap.size A m.length cm n s l c ∧ Below w.heap.size w wr) (fun t _ => 16 - (intOf t).toNat)
  case atStart => exact ⟨0, zeroK, Nat.zero_le _, rfl, by rw [List.take_zero, List.take_zero], HVK.out, HVR.out, HVM.out, HV.out⟩
  case round =>
    obtain ⟨j, z, hj, rfl, ht, hkz, hkr, hmw, hb⟩ := hrel
    have HT := Lib.hid ht
    have HKZ := Lib.hid hkz
    have HKR := Lib.hid hkr
    have HM1 := Lib.hid hmw
    have HB1 := Lib.hid hb
    by_cases hlt : j < 16
    · have HA := Lib.hid (HAT.out j hlt wr hb)
      have hjk : j < K.length := by have := HKL.out; omega
      have hjz : j < z.length := by have := hkz.2; omega
      have HTN := Lib.hid (show (z.set j K[j]).take (j + 1) = K.take (j + 1) from take_set_snoc ht hjz hjk)
      obtain ⟨d0, d1, d2, d3⟩ := four_cells hmw.win
      have c1 := one_cell hmw.mem
      have ey : K.getD j 0 = K[j] := by rw [List.getD_eq_getElem?_getD, List.getElem?_eq_getElem hjk, Option.getD_some]
      rw [ey] at HA
      clear ey
      generalize K[j] = y at *
      have j1 : (0 : Int) ≤ j := by omega
      have j2 : (j : Int) < 16 := by omega
      clear ht hkz hkr hmw hb
      go_wp2_with fail
      refine HA.out.mono ?_
      rintro e w5 ⟨rfl, hb5⟩
      have HKZ5 := Lib.hid (HKZ.out.below hb5)
      have HKR5 := Lib.hid (HKR.out.below hb5)
      have HM5 := Lib.hid (HM1.out.below hb5)
      have HB5 := Lib.hid (HB1.out.trans (hb5.mono HB1.out.size))
      have x1 := HKZ5.out.cell hjz
      have xf := HKZ5.out.frozen j
      have HN := Lib.hid (HKZ5.out.put j y)
      clear hb5 c1 d0 d1 d2 d3
      go_wp2_with fail
      go_roundw
      case rel => exact ⟨j + 1, _, by omega, by go_num, HTN.out, HN.out, HKR5.out.other (show G ≠ w.heap.size + 1 + 1 by omega) _, HM5.out.set1 (by omega), HB5.out.setCell (p := ⟨G, j, none⟩) (show w.heap.size ≤ G by omega) _⟩
      case measure => simp [intOf]; omega
    · obtain rfl : j = 16 := by omega
      have HE := Lib.hid (take_all ht hkz.2 HKL.out)
      clear ht hkz hkr hmw hb
      go_wp2_with (first | (refine KeyBox.ld HKZ.out rfl _ rfl rfl ?_) | (refine KeyBox.st HKR.out rfl _ _ rfl rfl HKZ.out.2 rfl ?_))
      exact bodyPost_ret (v := .agg (keyA z)) (results_cell_row rfl _ _ (w.heap.size + 1 + 1) _ (keyA z) _ _ rfl (HKR.out.row HKZ.out.2).1 Try.underlying28 rfl (size_keyA HKZ.out.2)) rfl ⟨by rw [HE.out], Below.setRow HB1.out (by omega) _⟩

set_option maxRecDepth 100000 in
set_option maxHeartbeats 1200000 in
theorem specKeyAt_calls (A : Option Addr) (cm : Nat) (m : List (List Int)) (x : Win) (i : Int) (w : World) (hr : Rd2 w w.heap.size A m) (hn : m.length ≤ maxLen) :
    Calls Try.prog 19 #[.agg #[.slice A m.length cm], .agg #[.int .i64 x.arr, .int .i64 x.start, .int .i64 x.len, .int .i64 x.cap], .int .i64 i] w fun e w' => e = .returned (.tuple #[.agg (keyA (keyAtR m x i).1), .bool (keyAtR m x i).2]) ∧ Below w.heap.size w w' := by
  obtain ⟨w0, hw0, hb0, hz0, hmw, hk0⟩ := enterMWK A m.length cm x.arr x.start x.len x.cap w
  have HC := Lib.hid (specHas_calls A cm m x i w0 ((hr.below hb0).more hb0.size) hn)
  have HB := Lib.hid hb0
  have HR := Lib.hid hr
  have HW := Lib.hid hw0
  have HM := Lib.hid hmw
  have HK0 := Lib.hid hk0
  obtain ⟨t0, t1, t2, t3⟩ := four_cells hmw.win
  have t4 := one_cell hmw.mem
  clear hr hb0 hmw hw0 hk0 hz0
  go_enter Try.func19, Try.ntmps19
  go_upto_region 1 with fail
  rw [HW.out]
  go_wp2_with fail
  refine HC.out.mono ?_
  rintro e w2 ⟨rfl, hb2⟩
  have HB2 := Lib.hid (HB.out.trans (hb2.mono HB.out.size))
  have HM2 := Lib.hid (HM.out.below hb2)
  have HK2 := Lib.hid (HK0.out.below hb2)
  clear hb2 t0 t1 t2 t3 t4
  by_cases hk : HasKey m x i
  · rw [show decide (HasKey m x i) = true from decide_eq_true hk]
    have hk' := hk
    obtain ⟨hm, hi0, hi1⟩ := hk
    obtain ⟨n, s, l, c, rfl, hnl, hlc, hsc, h1, h64, h16⟩ := hm.nat
    obtain ⟨j, rfl⟩ : ∃ j : Nat, i = (j : Int) := ⟨i.toNat, by omega⟩
    have HV : Hid (keyAtR m ⟨n, s, l, c⟩ j = (((wb m n s l).drop j).take 16, true)) := Lib.hid (by rw [keyAtR, if_pos hk']; simp only [Int.toNat_natCast])
    dsimp only at *
    have HKY := Lib.hid (specKey9_calls A cm m n s l c j w2 ((HR.out.below HB2.out).more HB2.out.size) hnl h16 (by omega) h64 (by omega))
    have hKl := keyAtR_len m ⟨n, s, l, c⟩ j
    rw [HV.out] at hKl
    obtain ⟨K, hK⟩ : ∃ K, ((wb m n s l).drop j).take 16 = K := ⟨_, rfl⟩
    rw [hK] at HKY HV hKl
    have HKL := Lib.hid (show K.length = 16 from hKl)
    obtain ⟨d0, d1, d2, d3⟩ := four_cells HM2.out.win
    have c1 := one_cell HM2.out.mem
    clear hm hk' hK hKl
    go_wp2_with fail
    refine HKY.out.mono ?_
    rintro e w3 ⟨rfl, hb3⟩
    have HB3 := Lib.hid (HB2.out.trans (hb3.mono HB2.out.size))
    have HK3 := Lib.hid (HK2.out.below hb3)
    clear hb3 c1 d0 d1 d2 d3
    go_wp2_with (refine KeyBox.st HK3.out rfl _ _ rfl rfl HKL.out rfl ?_)
    have HS := (HK3.out.row HKL.out).loaded
    exact bodyPost_ret (v := .tuple #[.agg (keyA K), .bool true]) (by simp [results, Try.results19, asAddr, Result.andThen, HS]) rfl ⟨by rw [HV.out], Below.setRow HB3.out (by omega) _⟩
  · rw [show decide (HasKey m x i) = false from decide_eq_false hk]
    have HV : Hid (keyAtR m x i = (zeroK, false)) := Lib.hid (by rw [keyAtR, if_neg hk])
    clear hk
    go_wp2_with (refine KeyBox.st (k' := zeroK) HK2.out rfl _ _ rfl rfl (by decide) rfl ?_)
    have HS := (HK2.out.row (k' := zeroK) (by decide)).loaded
    exact bodyPost_ret (v := .tuple #[.agg (keyA zeroK), .bool false]) (by simp [results, Try.results19, asAddr, Result.andThen, HS]) rfl ⟨by rw [HV.out], Below.setRow HB2.out (by omega) _⟩

theorem run_arrayAt9 (a : Addr) (n c : Nat) (w : World) (h : ¬ n < 16) : (Instr.arrayAt 28 (.slice (some a) n c)).run Try.prog w = .ok (.pointer (some a)) w := by
  unfold Instr.arrayAt
  simp [Sem.run_bind, run_underlying under_key, Result.andThen, h]
set_option maxRecDepth 100000 in
set_option maxHeartbeats 1200000 in
theorem implKeyAt_calls (A : Option Addr) (cm : Nat) (m : List (List Int)) (x : Win) (i : Int) (w : World) (hr : Rd2 w w.heap.size A m) (hn : m.length ≤ maxLen) (hx : WArg x) (hi : (Lit.int .i64 i).wf = true) :
    Calls Try.prog 22 #[.agg #[.slice A m.length cm], .agg #[.int .i64 x.arr, .int .i64 x.start, .int .i64 x.len, .int .i64 x.cap], .int .i64 i] w fun e w' => e = .returned (.tuple #[.agg (keyA (keyAtR m x i).1), .bool (keyAtR m x i).2]) ∧ Below w.heap.size w w' := by
  obtain ⟨w0, hw0, hb0, hz0, hmw, hk0⟩ := enterMWK A m.length cm x.arr x.start x.len x.cap w
  have HC := Lib.hid (areOne_calls A cm m x w0 ((hr.below hb0).more hb0.size) hn hx (w.heap.size + 1 + 1 + 1) (by omega))
  have HB := Lib.hid hb0
  have HR := Lib.hid hr
  have HW := Lib.hid hw0
  have HM := Lib.hid hmw
  have HK0 := Lib.hid hk0
  have hrb := run_win1
  obtain ⟨t0, t1, t2, t3⟩ := four_cells hmw.win
  have t4 := one_cell hmw.mem
  clear hr hb0 hmw hw0 hk0 hx
  go_enter Try.func22, Try.ntmps22
  go_upto_region 1 with fail
  rw [HW.out]
  go_wp2_with fail
  clear hrb
  refine HC.out.mono ?_
  rintro e w2 ⟨rfl, hb2⟩
  have HB2 := Lib.hid (HB.out.trans (hb2.mono HB.out.size))
  have HM2 := Lib.hid (HM.out.below hb2)
  have HK2 := Lib.hid (HK0.out.below hb2)
  obtain ⟨d0, d1, d2, d3⟩ := four_cells HM2.out.win
  have c1 := one_cell HM2.out.mem
  clear hb2 t0 t1 t2 t3 t4 hz0
  by_cases hm : WinOK m x
  · rw [show decide (WinOK m x) = true from decide_eq_true hm]
    have hm' := hm
    obtain ⟨n, s, l, c, rfl, hnl, hlc, hsc, h1, h64, h16⟩ := hm.nat
    have l1 : (0 : Int) ≤ l := by omega
    have l2 : (l : Int) ≤ 64 := by omega
    dsimp only at *
    by_cases hlo : i < 0
    · have HV : Hid (keyAtR m ⟨n, s, l, c⟩ i = (zeroK, false)) := Lib.hid (by rw [keyAtR, if_neg (fun h => by have := h.2.1; omega)])
      clear hm hm'
      go_wp2_with (refine KeyBox.st (k' := zeroK) HK2.out rfl _ _ rfl rfl (by decide) rfl ?_)
      have HS := (HK2.out.row (k' := zeroK) (by decide)).loaded
      exact bodyPost_ret (v := .tuple #[.agg (keyA zeroK), .bool false]) (by simp [results, Try.results22, asAddr, Result.andThen, HS]) rfl ⟨by rw [HV.out], Below.setRow HB2.out (by omega) _⟩
    · obtain ⟨j, rfl⟩ : ∃ j : Nat, i = (j : Int) := ⟨i.toNat, by omega⟩
      by_cases hhi : (l : Int) - 16 < j
      · have HV : Hid (keyAtR m ⟨n, s, l, c⟩ j = (zeroK, false)) := Lib.hid (by rw [keyAtR, if_neg (fun h => by have := h.2.2; have h3 : (j : Int) ≤ (l : Int) - 16 := this; omega)])
        clear hm hm'
        go_wp2_with (refine KeyBox.st (k' := zeroK) HK2.out rfl _ _ rfl rfl (by decide) rfl ?_)
        have HS := (HK2.out.row (k' := zeroK) (by decide)).loaded
        exact bodyPost_ret (v := .tuple #[.agg (keyA zeroK), .bool false]) (by simp [results, Try.results22, asAddr, Result.andThen, HS]) rfl ⟨by rw [HV.out], Below.setRow HB2.out (by omega) _⟩
      · have hk' : HasKey m ⟨n, s, l, c⟩ j := ⟨hm', by omega, by show (j : Int) ≤ (l : Int) - 16; omega⟩
        have HV : Hid (keyAtR m ⟨n, s, l, c⟩ j = (((wb m n s l).drop j).take 16, true)) := Lib.hid (by rw [keyAtR, if_pos hk']; simp only [Int.toNat_natCast])
        have HSE := Lib.hid (seenR_calls A cm m n s l c w2 ((HR.out.below HB2.out).more HB2.out.size) hnl h16 hlc hsc h1 h64)
        have hKl := keyAtR_len m ⟨n, s, l, c⟩ j
        rw [HV.out] at hKl
        have hjc : ¬ c = j := by omega
        have hjc2 : ¬ j = c := by omega
        have j0 : (0 : Int) ≤ j := by omega
        have j1 : (j : Int) ≤ l := by omega
        have j2 : (l : Int) ≤ c := by omega
        have j3 : ¬ (l - j : Nat) < 16 := by omega
        clear hm hm' hk'
        go_wp2_with fail
        refine HSE.out.mono ?_
        rintro e w3 ⟨⟨bA, hbA, hsp, rfl, hrA⟩, hb3⟩
        obtain ⟨bb, off, spot⟩ := bA
        have hsp' : spot = none := hsp
        subst hsp'
        have HB3 := Lib.hid (HB2.out.trans (hb3.mono HB2.out.size))
        have HK3 := Lib.hid (HK2.out.below hb3)
        have hrK : Rd w3 w3.heap.size (some ⟨bb, off + j, none⟩) (intV .u8 (((wb m n s l).drop j).take 16)) := ((hrA.below hb3).more hb3.size).part j 16
        obtain ⟨K, hK⟩ : ∃ K, ((wb m n s l).drop j).take 16 = K := ⟨_, rfl⟩
        rw [hK] at hrK HV hKl
        have HKL := Lib.hid (show K.length = 16 from hKl)
        have hrange : w3.rangeAt bb (off + j) (intV .u8 K) := by
          rcases hrK with h | ⟨b', o', e', _, hc⟩
          · intro q v hv
            rw [h] at hv; cases hv
          · injection e' with e'
            injection e' with e1 e2
            subst e1; subst e2
            exact hc
        have hAP := run_arrayAt9 ⟨bb, off + j, none⟩ (l - j) (c - j) w3 j3
        clear hb3 hrA hbA hsp c1 d0 d1 d2 d3 hrK hK hKl
        go_wp2_with (first | (refine wpList_load_mid rfl 28 _ rfl bb (off + j) rfl (intV .u8 K) _ hrange under_key rfl (size_key HKL.out) ?_) | (refine KeyBox.st HK3.out rfl _ _ rfl rfl HKL.out rfl ?_))
        have HS := (HK3.out.row HKL.out).loaded
        exact bodyPost_ret (v := .tuple #[.agg (keyA K), .bool true]) (by simp [results, Try.results22, asAddr, Result.andThen, HS]) rfl ⟨by rw [HV.out], Below.setRow HB3.out (by omega) _⟩
  · rw [show decide (WinOK m x) = false from decide_eq_false hm]
    have HV : Hid (keyAtR m x i = (zeroK, false)) := Lib.hid (by rw [keyAtR, if_neg (fun h => hm h.1)])
    clear hm
    go_wp2_with (refine KeyBox.st (k' := zeroK) HK2.out rfl _ _ rfl rfl (by decide) rfl ?_)
    have HS := (HK2.out.row (k' := zeroK) (by decide)).loaded
    exact bodyPost_ret (v := .tuple #[.agg (keyA zeroK), .bool false]) (by simp [results, Try.results22, asAddr, Result.andThen, HS]) rfl ⟨by rw [HV.out], Below.setRow HB2.out (by omega) _⟩
end Go.Proofs.Ytoelagfcapdfpaa
