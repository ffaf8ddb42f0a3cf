/-
  Windows that see a place: seenBy and isOn of impl's arrayPlace, numbersOf of impl.
-/
import Derived.Test.YtomgjhdknondmabIdx
namespace Go.Proofs.Ytomgjhdknondmab
open Go.RowKit

theorem two_cells {w : World} {g : Nat} {u0 u1 : Value} {t : TypeId} (h : w.heap[g]? = some (.cells #[u0, u1] t)) : w.cell? ⟨g, 0, none⟩ = some u0 ∧ w.cell? ⟨g, 1, none⟩ = some u1 := by simp [World.cell?, h]

set_option maxRecDepth 100000 in
theorem seenBy_calls (x : Win) (ar pl : Int) (w : World) (hx : Tame x) :
    Calls Try.prog 145 #[.agg #[.int .i64 ar, .int .i64 pl], .agg #[.int .i64 x.arr, .int .i64 x.start, .int .i64 x.len, .int .i64 x.cap]] w fun e w' => e = .returned (.bool (decide (SeesP x ar pl))) ∧ Below w.heap.size w w' := by
  obtain ⟨n, s, l, c⟩ := x
  obtain ⟨x1, x2, x3, x4, _, _⟩ := hx
  dsimp only at *
  obtain ⟨g1, g2, g3, g4⟩ := enter2 w (.cells #[.int .i64 ar, .int .i64 pl] 153) (.cells #[.int .i64 n, .int .i64 s, .int .i64 l, .int .i64 c] 55)
  obtain ⟨w0, hw0⟩ : ∃ w0, (w.alloc (.cells #[.int .i64 ar, .int .i64 pl] 153)).alloc (.cells #[.int .i64 n, .int .i64 s, .int .i64 l, .int .i64 c] 55) = w0 := ⟨_, rfl⟩
  rw [hw0] at g1 g2 g3 g4
  have HB := Lib.hid g1
  have HW := Lib.hid hw0
  obtain ⟨p0, p1⟩ := two_cells g2
  obtain ⟨d0, d1, d2, d3⟩ := four_cells g3
  clear g1 g2 g3 g4 hw0
  by_cases ha : n = ar
  · subst ha
    have hbe : (n == n) = true := by simp
    by_cases h1 : s ≤ pl
    · by_cases h2 : pl < s + l
      · have HD := Lib.hid (show decide (SeesP ⟨n, s, l, c⟩ n pl) = true from decide_eq_true ⟨rfl, h1, h2⟩)
        go_enter Try.func145, Try.ntmps145
        go_wp2_with fail
        go_ret
        exact ⟨ret_bool (by rw [HD.out]; try exact decide_eq_true (by omega)), by rw [HW.out]; exact HB.out⟩
      · have HD := Lib.hid (show decide (SeesP ⟨n, s, l, c⟩ n pl) = false from decide_eq_false fun h => h2 h.2.2)
        go_enter Try.func145, Try.ntmps145
        go_wp2_with fail
        go_ret
        exact ⟨ret_bool (by rw [HD.out]; try exact decide_eq_false (by omega)), by rw [HW.out]; exact HB.out⟩
    · have HD := Lib.hid (show decide (SeesP ⟨n, s, l, c⟩ n pl) = false from decide_eq_false fun h => h1 h.2.1)
      have h1' : pl < s := by omega
      clear h1
      go_enter Try.func145, Try.ntmps145
      go_wp2_with fail
      go_ret
      exact ⟨ret_bool (by rw [HD.out]), by rw [HW.out]; exact HB.out⟩
  · have hne : (ar == n) = false := by simp; omega
    have HD := Lib.hid (show decide (SeesP ⟨n, s, l, c⟩ ar pl) = false from decide_eq_false fun h => ha h.1)
    clear ha
    go_enter Try.func145, Try.ntmps145
    go_wp2_with fail
    go_ret
    exact ⟨ret_bool HD.out.symm, by rw [HW.out]; exact HB.out⟩

set_option maxRecDepth 100000 in
set_option maxHeartbeats 800000 in
theorem isOn_calls (A : Option Addr) (cm : Nat) (m : List (List Int)) (ar pl : Int) (w : World) (hr : Rd2 w w.heap.size A m) (hm : MemOK m) :
    Calls Try.prog 143 #[.agg #[.int .i64 ar, .int .i64 pl], .agg #[.slice A m.length cm]] w fun e w' => e = .returned (.bool (decide (PlaceOK m ar pl))) ∧ Below w.heap.size w w' := by
  obtain ⟨g1, g2, g3, g4⟩ := enter2 w (.cells #[.int .i64 ar, .int .i64 pl] 153) (.cells #[.slice A m.length cm] 31)
  obtain ⟨w0, hw0⟩ : ∃ w0, (w.alloc (.cells #[.int .i64 ar, .int .i64 pl] 153)).alloc (.cells #[.slice A m.length cm] 31) = w0 := ⟨_, rfl⟩
  rw [hw0] at g1 g2 g3 g4
  have HB := Lib.hid g1
  have HW := Lib.hid hw0
  obtain ⟨p0, p1⟩ := two_cells g2
  have c0 := one_cell g3
  have HR := Lib.hid (hr.below g1)
  have HM := Lib.hid hm
  have h16 := hm.1
  clear g1 g2 g3 g4 hw0 hr hm
  by_cases ha0 : 0 ≤ ar
  · by_cases ha1 : ar < m.length
    · obtain ⟨n, rfl⟩ : ∃ n : Nat, ar = n := ⟨ar.toNat, by omega⟩
      have hlt : n < m.length := by omega
      obtain ⟨b, off, Ai, ci, rfl, hbb, hc, hci, hcm, hri⟩ := HR.out.at_ hlt
      have hl64 := (HM.out.2 m[n] (List.getElem_mem hlt)).2
      have HD : Hid (decide (PlaceOK m n pl) = decide (0 ≤ pl ∧ pl < (m[n].length : Int))) := Lib.hid (decide_eq_decide.2 (by
        unfold PlaceOK
        simp only [Int.toNat_natCast, getD_eq hlt]
        omega))
      clear hri
      by_cases hp0 : 0 ≤ pl
      · by_cases hp1 : pl < m[n].length
        · go_enter Try.func143, Try.ntmps143
          go_wp2_with fail
          rw [HW.out]
          go_quiet (fail)
          go_wp2_with fail
          go_ret
          exact ⟨ret_bool (by rw [HD.out, decide_eq_true ⟨hp0, hp1⟩]; try exact decide_eq_true (by omega)), below_drewN HB.out _⟩
        · go_enter Try.func143, Try.ntmps143
          go_wp2_with fail
          rw [HW.out]
          go_quiet (fail)
          go_wp2_with fail
          go_ret
          exact ⟨ret_bool (by rw [HD.out, decide_eq_false (p := 0 ≤ pl ∧ pl < (m[n].length : Int)) (by omega)]; try exact decide_eq_false (by omega)), below_drewN HB.out _⟩
      · have hd : decide ((0 : Int) ≤ pl) = false := decide_eq_false hp0
        have HDF := Lib.hid (show decide (PlaceOK m n pl) = false by rw [HD.out]; exact decide_eq_false (fun h => hp0 h.1))
        clear hp0
        go_enter Try.func143, Try.ntmps143
        go_wp2_with fail
        rw [HW.out]
        go_quiet (fail)
        go_wp2_with fail
        go_ret
        exact ⟨ret_bool (by rw [HDF.out]), below_drewN HB.out _⟩
    · have hd : decide (ar < (m.length : Int)) = false := decide_eq_false ha1
      have HDF := Lib.hid (show decide (PlaceOK m ar pl) = false from decide_eq_false (fun h => ha1 h.2.1))
      clear ha1
      go_enter Try.func143, Try.ntmps143
      go_wp2_with fail
      rw [HW.out]
      go_quiet (fail)
      go_wp2_with fail
      go_ret
      exact ⟨ret_bool (by rw [HDF.out]), below_drewN HB.out _⟩
  · have hd : decide ((0 : Int) ≤ ar) = false := decide_eq_false ha0
    have HDF := Lib.hid (show decide (PlaceOK m ar pl) = false from decide_eq_false (fun h => ha0 h.1))
    clear ha0
    go_enter Try.func143, Try.ntmps143
    go_wp2_with fail
    rw [HW.out]
    go_quiet (fail)
    go_wp2_with fail
    go_ret
    exact ⟨ret_bool (by rw [HDF.out]), below_drewN HB.out _⟩

set_option maxRecDepth 100000 in
set_option maxHeartbeats 1600000 in
/-- numbersOf, handed seenBy. -/
theorem numbersOf_seenBy_calls (B : Option Addr) (ck : Nat) (L : List Win) (ar pl : Int) (p : Nat → Bool) (w : World) (hx : RdW w w.heap.size B L) (hl : L.length ≤ 12)
    (hp : ∀ (k : Nat) (hk : k < L.length) (W : World), Calls Try.prog 145 #[.agg #[.int .i64 ar, .int .i64 pl], .agg #[.int .i64 L[k].arr, .int .i64 L[k].start, .int .i64 L[k].len, .int .i64 L[k].cap]] W fun e w' => e = .returned (.bool (p k)) ∧ Below W.heap.size W w') :
    Calls Try.prog 144 #[.slice B L.length ck, .func (.func 145) #[.agg #[.int .i64 ar, .int .i64 pl]] #[]] w fun e w' => ∃ g cap, e = .returned (.slice (some ⟨g, 0, none⟩) (idxsTo p L.length).length cap) ∧ w'.ownsRow w.heap.size 3 1 (.slice (some ⟨g, 0, none⟩) (idxsTo p L.length).length cap) (idxsTo p L.length).length (intV .i64 (idxsTo p L.length)) ∧ Below w.heap.size w w' := by
  obtain ⟨i0, hi0, hz, hz1, hz2⟩ := info_parts info_int
  obtain ⟨w3, hw3⟩ : ∃ w3, w.alloc (.cells #[] 3) = w3 := ⟨_, rfl⟩
  have HB3 := Lib.hid (show Below w.heap.size w w3 by rw [← hw3]; exact (Below.refl _ _).alloc (Nat.le_refl _) _)
  have HO3 : Hid (w3.ownsRow w.heap.size 3 1 (.slice (some ⟨w.heap.size, 0, none⟩) 0 0) 0 []) := Lib.hid (by rw [← hw3]; exact World.ownsRow_made (base := w.heap.size) (e := 3) (size := 1) w #[] 0 (Nat.le_refl _) (Nat.zero_le _) rfl)
  have HX := Lib.hid hx
  have HP := Lib.hid hp
  have HW := Lib.hid hw3
  clear hx hw3 hp
  go_enter Try.func144, Try.ntmps144
  go_upto_region 2 with fail
  rw [HW.out]
  go_wp2_with fail
  go_loopw [5, 11] (fun v i wr => ∃ k : Nat, k ≤ L.length ∧ i = .int .i64 k ∧ wr.ownsRow w.heap.size 3 1 v (idxsTo p k).length (intV .i64 (idxsTo p k)) ∧ Below w.heap.size w wr ∧ ∃ g cap, v = .slice (some ⟨g, 0, none⟩) (idxsTo p k).length cap) (fun _ i _ => L.length - (intOf i).toNat)
  case atStart => exact ⟨0, Nat.zero_le _, rfl, by simpa [idxsTo, intV] using HO3.out, HB3.out, _, _, rfl⟩
  case round =>
    obtain ⟨k, hk, rfl, hown, hbr, gv, cv, rfl⟩ := hrel
    have HO := Lib.hid hown
    have HBR := Lib.hid hbr
    have hbs := hbr.size
    have hlen := idxsTo_len p k
    clear hown hbr
    by_cases hlt : k < L.length
    · obtain ⟨b, off, rfl, hbb, e0, e1, e2, e3⟩ := (HX.out.below HBR.out).at_ hlt
      have HPK := Lib.hid (HP.out k hlt)
      generalize L[k] = x at *
      obtain ⟨w1, hw1⟩ : ∃ w1, wr.alloc (.cells #[.int .i64 x.arr, .int .i64 x.start, .int .i64 x.len, .int .i64 x.cap] 55) = w1 := ⟨_, rfl⟩
      have hb1 : Below wr.heap.size wr w1 := by rw [← hw1]; exact (Below.refl _ _).alloc (Nat.le_refl _) _
      have HS := Lib.hid (HPK.out w1)
      have HW1 := Lib.hid hw1
      have HB1 := Lib.hid (HBR.out.trans (hb1.mono hbs))
      have HO1 := Lib.hid (own_below HO.out hb1)
      clear hw1 hb1
      rcases hpk : p k with _ | _
      · have HSN := Lib.hid (idxsTo_no hpk)
        rw [hpk] at HS
        clear hpk
        go_wp2_with fail
        rw [HW1.out]
        refine HS.out.mono ?_
        rintro e w4 ⟨rfl, hb4⟩
        have HB4 := Lib.hid (HB1.out.trans (hb4.mono HB1.out.size))
        have HO4 := Lib.hid (own_below HO1.out hb4)
        clear hb4 e0 e1 e2 e3
        go_wp2_with fail
        go_roundw
        case rel => exact ⟨k + 1, by omega, by go_num, by rw [HSN.out]; exact HO4.out, HB4.out, by rw [HSN.out]; exact ⟨_, _, rfl⟩⟩
        case measure => simp [intOf]; omega
      · have HSN := Lib.hid (idxsTo_yes hpk)
        rw [hpk] at HS
        clear hpk
        go_wp2_with fail
        rw [HW1.out]
        refine HS.out.mono ?_
        rintro e w4 ⟨rfl, hb4⟩
        have HB4 := Lib.hid (HB1.out.trans (hb4.mono HB1.out.size))
        have HO4 := Lib.hid (own_below HO1.out hb4)
        have hbs4 := HB4.out.size
        clear hb4 e0 e1 e2 e3
        go_wp2_with ((at_builtin; refine wpList_append_own _ rfl _ _ 28 rfl w.heap.size 3 i0 _ 1 8 Try.underlying28 hi0 hz hz1 hz2 rfl (by decide) _ _ _ rfl (HO4.out.alloc _) ⟨w4.heap.size, 0, none⟩ 1 1 [.int .i64 k] rfl rfl (cell_one_new _ _ _) (by simp [Value.oneCell']) (by simp only [maxLen]; omega) (by omega) (by simp; omega) ?_; intro v' w5 hown5 hgrow _))
        have HB5 : Hid (Below w.heap.size w w5) := below_own0 (HB4.out.alloc hbs4 _) (HO4.out.alloc _) hgrow (by simp; omega)
        have HL5 := Lib.hid (show (idxsTo p (k + 1)).length = (idxsTo p k).length + 1 by rw [HSN.out]; simp)
        have HO5 : Hid (w5.ownsRow w.heap.size 3 1 v' (idxsTo p (k + 1)).length (intV .i64 (idxsTo p (k + 1)))) := Lib.hid (by
          rw [HL5.out, show intV .i64 (idxsTo p (k + 1)) = intV .i64 (idxsTo p k) ++ [.int .i64 k] by rw [HSN.out]; simp [intV]]; exact hown5)
        have HF5 := Lib.hid (own_some0 HO5.out (by rw [HL5.out]; omega))
        clear hown5 hgrow
        go_roundw
        case rel => exact ⟨k + 1, by omega, by go_num, HO5.out, HB5.out, HF5.out⟩
        case measure => simp [intOf]; omega
    · obtain rfl : k = L.length := by omega
      go_wp2_with fail
      go_ret
      exact ⟨_, _, rfl, HO.out, HBR.out⟩
end Go.Proofs.Ytomgjhdknondmab
