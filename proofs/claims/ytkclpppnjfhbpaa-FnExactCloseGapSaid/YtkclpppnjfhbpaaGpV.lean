/-
  The hole moved: l6Move, MoveGap of spec.
-/
import Derived.Test.YtkclpppnjfhbpaaGpI
import Derived.Test.YtkclpppnjfhbpaaGpL
import Derived.Test.YtkclpppnjfhbpaaGpO
import Derived.Test.YtkclpppnjfhbpaaCpy0
import Derived.Test.YtkclpppnjfhbpaaBytes
import Derived.Test.YtkclpppnjfhbpaaMeet
import Derived.Deep.DeepCutAuto
namespace Go.Proofs.Ytkclpppnjfhbpaa
open Go.RowKit

set_option maxRecDepth 100000 in
set_option maxHeartbeats 6400000 in
theorem specMove_calls (A : Option Addr) (cm : Nat) (m : List (List Int)) (n s l c a b p q C : Nat) (w : World) (hr : Rd2 w w.heap.size A m) (hok : GpOK m ⟨⟨n, s, l, c⟩, a, b⟩) (hq : p + (b - a) = q) (hql : q ≤ l) (hC : moveC a p = C) :
    Calls Try.prog 95 #[.agg #[.slice A m.length cm, .int .i64 n, .int .i64 s, .int .i64 l, .int .i64 c, .int .i64 a, .int .i64 b], .int .i64 p] w fun e w' => ∃ v, e = .returned (.tuple #[.agg #[v, .int .i64 n, .int .i64 s, .int .i64 l, .int .i64 c, .int .i64 p, .int .i64 q], .int .i64 C]) ∧ OwnM w' w.heap.size w'.heap.size v (moveM m n s l a b p) ∧ Below w.heap.size w w' := by
  have hmo := hok.1.1
  obtain ⟨n', s', l', c', a', b', hnl, e, hab, hbl, hlc, hsc, h1m, h64, h16⟩ := hok.nat
  injection e with e1 e2 e3
  injection e1 with e4 e5 e6 e7
  obtain rfl : n = n' := by omega
  obtain rfl : s = s' := by omega
  obtain rfl : l = l' := by omega
  obtain rfl : c = c' := by omega
  obtain rfl : a = a' := by omega
  obtain rfl : b = b' := by omega
  clear e2 e3 e4 e5 e6 e7
  obtain ⟨H, hH⟩ : ∃ H : Nat, b - a = H := ⟨_, rfl⟩
  have hHi : (b : Int) - a = H := by omega
  obtain ⟨w0, hw0, hb0, hz0, hgg⟩ := enterGG A m.length cm ⟨⟨n, s, l, c⟩, a, b⟩ w
  dsimp only at hw0 hgg
  have HC := Lib.hid (specBytes_calls A cm m n s l c w0.drew (show Rd2 w0 w0.heap.size A m from (hr.below hb0).more hb0.size) hnl h16 (by omega) h64)
  have HB := Lib.hid hb0
  have HR := Lib.hid hr
  have HW := Lib.hid hw0
  have HGG := Lib.hid hgg
  have hwl : (wb m n s l).length = l := wb_len hnl (by omega)
  obtain ⟨R, hR⟩ : ∃ R, moveM m n s l a b p = R := ⟨_, rfl⟩
  rw [hR]
  have HMV : Hid (R = if p ≤ a then m.set n (over m[n] (s + (p + H)) (((wb m n s l).drop p).take (a - p))) else m.set n (over m[n] (s + a) (((wb m n s l).drop b).take (p - a)))) := Lib.hid (by rw [← hR, moveM, getD_eq hnl, hH])
  clear hR
  have HMO := Lib.hid hmo
  generalize wb m n s l = Z at *
  have HWL := Lib.hid hwl
  clear hwl
  have HL := Lib.hid (fun (W : World) (hb : Below w0.heap.size w0 W) => gap_cells (hgg.below hb).par)
  obtain ⟨c0, d0, d1, d2, d3, d4, d5⟩ := HL.out w0.drew (Below.refl _ _).drew
  have hwr : IntKind.i64.wrap ((b : Int) - a) = H := by rw [hHi]; exact IntWalk.i64_in _ (by omega)
  have HHI := Lib.hid hHi
  have HHH := Lib.hid hH
  have HCC := Lib.hid hC
  have HQQ := Lib.hid hq
  clear hr hb0 hw0 hgg hok hmo hHi hH hC hq
  go_enter Try.func95, Try.ntmps95
  go_wp2_with fail
  rw [HW.out]
  go_region_held3 (fun W => W.cell? ⟨w.heap.size, 0, none⟩ = some (.slice A m.length cm) ∧ W.cell? ⟨w.heap.size, 1, none⟩ = some (.int .i64 n) ∧ W.cell? ⟨w.heap.size, 2, none⟩ = some (.int .i64 s) ∧ W.cell? ⟨w.heap.size, 3, none⟩ = some (.int .i64 l) ∧ W.cell? ⟨w.heap.size, 4, none⟩ = some (.int .i64 c) ∧ W.cell? ⟨w.heap.size, 5, none⟩ = some (.int .i64 a) ∧ W.cell? ⟨w.heap.size, 6, none⟩ = some (.int .i64 b))
    (first | (with_reducible exact ⟨c0, d0, d1, d2, d3, d4, d5⟩) | (with_reducible exact HL.out _ hc3))
    (first | (go_at_call 131; (with_reducible refine HC.out.mono ?_); rintro e w3 ⟨g3, k3, rfl, ho3, hb3⟩; have hc3 : Below w0.heap.size w0 w3 := (Below.refl _ _).drew.trans hb3))
  have HB3 := Lib.hid (HB.out.trans (hc3.mono HB.out.size))
  have HG3 := Lib.hid (HGG.out.below hc3)
  have hcap := own_cap ho3
  have hk3 := (own_le ho3).2
  have HRD := Lib.hid (Rd.of_own (show w3.ownsRow w0.heap.size 5 1 (.slice (some ⟨g3, 0, none⟩) l k3) l (intV .u8 Z) from ho3))
  have hs3 := hc3.size
  have hs0 := HB.out.size
  clear hc3 hb3 ho3 c0 d0 d1 d2 d3 d4 d5 hwr
  unfold maxLen at hk3
  obtain ⟨c0, d0, d1, d2, d3, d4, d5⟩ := gap_cells HG3.out.par
  have HA3 : Hid (∀ W, Below w3.heap.size w3 W → W.cell? ⟨w.heap.size, 0, none⟩ = some (.slice A m.length cm) ∧ W.cell? ⟨w.heap.size, 1, none⟩ = some (.int .i64 n) ∧ W.cell? ⟨w.heap.size, 2, none⟩ = some (.int .i64 s) ∧ W.cell? ⟨w.heap.size, 3, none⟩ = some (.int .i64 l) ∧ W.cell? ⟨w.heap.size, 4, none⟩ = some (.int .i64 c) ∧ W.cell? ⟨w.heap.size, 5, none⟩ = some (.int .i64 a) ∧ W.cell? ⟨w.heap.size, 6, none⟩ = some (.int .i64 b)) := Lib.hid fun W hb => gap_cells (HG3.out.below hb).par
  have HD3 := HB3.out.size
  have hwq : IntKind.i64.wrap ((p : Int) + H) = q := by rw [show (p : Int) + H = q by have := HQQ.out; have := HHH.out; omega]; exact IntWalk.i64_in _ (by omega)
  have hwqq : IntKind.i64.wrap (q : Int) = q := IntWalk.i64_in _ (by omega)
  by_cases hpa : p ≤ a
  · have hpi : (p : Int) ≤ a := by omega
    have HRR := Lib.hid (show R = m.set n (over m[n] (s + q) ((Z.drop p).take (a - p))) by rw [HMV.out, if_pos hpa, show p + H = q by have := HQQ.out; have := HHH.out; omega])
    have i1 : (0 : Int) ≤ p := by omega
    have i2 : (a : Int) ≤ k3 := by omega
    have i3 : (p : Int) ≤ a := by omega
    by_cases hke : p = k3
    · subst hke
      have HX : Hid (Rd w3 w3.heap.size (some ⟨g3, 0, none⟩) (intV .u8 ((Z.drop p).take (a - p)))) := Lib.hid (by
        rw [List.drop_eq_nil_of_le (by rw [HWL.out]; omega), List.take_nil]; exact Rd.empty)
      have HXL := Lib.hid (show ((Z.drop p).take (a - p)).length = a - p by rw [List.length_take, List.length_drop, HWL.out]; have := HQQ.out; have := HHH.out; omega)
      have HWC : Hid (∀ W (_ _ : Unit), Below w3.heap.size w3 W → Calls Try.prog 132 #[.agg #[.slice A m.length cm], .agg #[.int .i64 n, .int .i64 s, .int .i64 l, .int .i64 c], .int .i64 q, .slice (some ⟨g3, 0, none⟩) (a - p) 0] W fun e w' => ∃ v, e = .returned (.agg #[v]) ∧ OwnM w' W.heap.size w'.heap.size v R ∧ Below W.heap.size W w') := Lib.hid fun W _ _ hb => by
        have h := specWrite_calls A cm m n s q l c (some ⟨g3, 0, none⟩) 0 ((Z.drop p).take (a - p)) W ((HR.out.below (HB3.out.trans (hb.mono HB3.out.size))).more (Nat.le_trans HB3.out.size hb.size)) HMO.out hnl (by rw [HXL.out]; have := HQQ.out; have := HHH.out; omega) ((HX.out.below hb).more hb.size)
        rw [HXL.out] at h
        rw [HRR.out]
        exact h
      have HSC : Hid ((a : Int) - p = C) := Lib.hid (by have h := HCC.out; rw [moveC, if_pos hpa] at h; omega)
      have hw1 : IntKind.i64.wrap ((a : Int) - p) = C := by rw [HSC.out]; exact IntWalk.i64_in _ (by have := HQQ.out; have := HHH.out; have h := HCC.out; rw [moveC, if_pos hpa] at h; omega)
      clear c0 d0 d1 d2 d3 d4 d5
      go_upto_region 3 with fail
      have hcd : Below w3.heap.size w3 w3.drew := (Below.refl _ _).drew
      have hca : Below w3.heap.size w3 (w3.alloc (.cells #[.slice none 0 0] 31)).drew := ((Below.refl _ _).alloc (Nat.le_refl _) _).drew
      have HK0 := Lib.hid (HA3.out _ hcd)
      have HK1 := Lib.hid (HA3.out _ hca)
      have HLP := Lib.hid (fun (W : World) (hb : W.heap[w.heap.size]? = some (.cells #[.slice A m.length cm, .int .i64 n, .int .i64 s, .int .i64 l, .int .i64 c, .int .i64 a, .int .i64 b] 34)) => gap_cells hb)
      have lp := (Array.getElem?_eq_some_iff.1 HG3.out.par).1
      go_cut [8] (fun s8 wx => ∃ (g4 lo4 hi4 : Nat) (v4 : Value), s8 = .pointer (some ⟨g4, 0, none⟩) ∧ MBox wx w3.heap.size g4 lo4 hi4 v4 R ∧ Below w3.heap.size w3 wx)
      case first =>
        go_region_held3 (fun W => W.cell? ⟨w.heap.size, 0, none⟩ = some (.slice A m.length cm) ∧ W.cell? ⟨w.heap.size, 1, none⟩ = some (.int .i64 n) ∧ W.cell? ⟨w.heap.size, 2, none⟩ = some (.int .i64 s) ∧ W.cell? ⟨w.heap.size, 3, none⟩ = some (.int .i64 l) ∧ W.cell? ⟨w.heap.size, 4, none⟩ = some (.int .i64 c) ∧ W.cell? ⟨w.heap.size, 5, none⟩ = some (.int .i64 a) ∧ W.cell? ⟨w.heap.size, 6, none⟩ = some (.int .i64 b))
          (first | (with_reducible exact HK0.out) | (with_reducible exact HK1.out) | (with_reducible exact HK2.out) | (with_reducible exact HK3.out) | (with_reducible exact HK4.out))
          (first | (go_at_call 132; (with_reducible refine (HWC.out w3.drew () () hcd).mono ?_); rintro e w4 ⟨v4, rfl, ho4, hb4⟩; obtain ⟨A4, k4, rfl, hk4⟩ := ho4.form; have hc4 : Below w3.heap.size w3 w4 := hcd.trans hb4; have HOA := Lib.hid (show OwnM w4 w3.heap.size w4.heap.size (.slice A4 R.length k4) R from ho4); have HK2 := Lib.hid (HA3.out _ hc4); have HK3 := Lib.hid (HA3.out _ (hc4.alloc hc4.size (.cells #[.slice none 0 0] 31))); have HK4 := Lib.hid (HA3.out _ (hc4.alloc hc4.size (.cells #[.slice A4 R.length k4] 31)))) | (go_at_call 132; (with_reducible refine (HWC.out (w3.alloc (.cells #[.slice none 0 0] 31)).drew () () hca).mono ?_); rintro e w4 ⟨v4, rfl, ho4, hb4⟩; obtain ⟨A4, k4, rfl, hk4⟩ := ho4.form; have hc4 : Below w3.heap.size w3 w4 := hca.trans (hb4.mono hca.size); have HZB := Lib.hid (show w4.heap[w3.heap.size]? = some (.cells #[.slice none 0 0] 31) from box_new_d hb4); have y0 := one_cell HZB.out; have yf := one_frozen HZB.out; have hbg := al_led hb4; have HOB := Lib.hid (show OwnM w4 (w3.heap.size + 1) w4.heap.size (.slice A4 R.length k4) R from own_ald ho4); have HK2 := Lib.hid (HA3.out _ hc4); have HK3 := Lib.hid (HLP.out _ (keep_set (h := w3.heap.size) (i := 0) (u := .slice A4 R.length k4) (HG3.out.below hc4).par (by omega)))))
        all_goals (go_wp2_with fail)
        all_goals go_meet
        all_goals (first | (with_reducible exact meet_new HOA.out hc4) | (with_reducible exact meet_old HOB.out hc4 HZB.out hbg))
      case rest =>
        obtain ⟨g4, lo4, hi4, v4, rfl, hm4, hb4⟩ := hcut
        obtain ⟨w4, hw4⟩ : ∃ w4, w4 = wc := ⟨_, rfl⟩
        subst hw4
        obtain ⟨A4, k4, rfl, hk4⟩ := hm4.own.form
        have HM4 := Lib.hid hm4
        have HG4 := Lib.hid (HG3.out.below hb4)
        have HB4 := Lib.hid (HB3.out.trans (hb4.mono HB3.out.size))
        have hg4 := hm4.bg
        have hlo4 := hm4.blo
        have hw34 := hb4.size
        clear hm4 hb4 hk4
        have l2 := (Array.getElem?_eq_some_iff.1 HG4.out.res).1
        have l2' := (Array.getElem?_eq_some_iff.1 HG3.out.res).1
        have HLB := Lib.hid (fun (W : World) (h : W.heap[g4]? = some (.cells #[.slice A4 R.length k4] 31)) (h' : W.heap[w.heap.size]? = some (.cells #[.slice A m.length cm, .int .i64 n, .int .i64 s, .int .i64 l, .int .i64 c, .int .i64 a, .int .i64 b] 34)) => And.intro (one_cell h) (gap_cells h'))
        obtain ⟨m0, c0, d0, d1, d2, d3, d4, d5⟩ := HLB.out w4.drew (block_drew HM4.out.box) (block_drew HG4.out.par)
        obtain ⟨r0, r1, r2, r3, r4, r5, r6⟩ := gap_cells HG4.out.res
        obtain ⟨f0, f1, f2, f3, f4, f5, f6⟩ := gap_frozen HG4.out.res
        have HS := Lib.hid (HLB.out _ (block_drew (gap_keep (q := w.heap.size + 1) (v0 := .slice A4 R.length k4) (v1 := .int .i64 n) (v2 := .int .i64 s) (v3 := .int .i64 l) (v4 := .int .i64 c) (v5 := .int .i64 p) (v6 := .int .i64 q) HM4.out.box (by omega))) (block_drew (gap_keep (q := w.heap.size + 1) (v0 := .slice A4 R.length k4) (v1 := .int .i64 n) (v2 := .int .i64 s) (v3 := .int .i64 l) (v4 := .int .i64 c) (v5 := .int .i64 p) (v6 := .int .i64 q) HG4.out.par (by omega))))
        go_wp2_with fail
        go_region_held3 (fun W => W.cell? ⟨g4, 0, none⟩ = some (.slice A4 R.length k4) ∧ W.cell? ⟨w.heap.size, 0, none⟩ = some (.slice A m.length cm) ∧ W.cell? ⟨w.heap.size, 1, none⟩ = some (.int .i64 n) ∧ W.cell? ⟨w.heap.size, 2, none⟩ = some (.int .i64 s) ∧ W.cell? ⟨w.heap.size, 3, none⟩ = some (.int .i64 l) ∧ W.cell? ⟨w.heap.size, 4, none⟩ = some (.int .i64 c) ∧ W.cell? ⟨w.heap.size, 5, none⟩ = some (.int .i64 a) ∧ W.cell? ⟨w.heap.size, 6, none⟩ = some (.int .i64 b))
          (first | (with_reducible exact ⟨m0, c0, d0, d1, d2, d3, d4, d5⟩) | (with_reducible exact HS.out))
          (fail)
        go_wp2_with fail
        refine bodyPost_ret (v := .tuple #[.agg #[.slice A4 R.length k4, .int .i64 n, .int .i64 s, .int .i64 l, .int .i64 c, .int .i64 p, .int .i64 q], .int .i64 C]) (by simp [results, Try.results95, go_sem, r0, r1, r2, r3, r4, r5, r6]) rfl ⟨_, rfl, ?_, by (repeat (first | (with_reducible exact Below.refl _ _) | (with_reducible refine Below.drew ?_) | ((with_reducible refine Below.alloc ?_ ?hB _); case hB => (first | (with_reducible exact Nat.le_refl _) | omega | (simp; done) | (simp; omega))) | ((with_reducible refine Below.setCell ?_ ?hB _); case hB => (first | (with_reducible exact Nat.le_refl _) | omega | (simp; done) | (simp; omega))))); exact HB4.out⟩
        have hfin := own_seven (g := w.heap.size + 1) (v0 := .slice A4 R.length k4) (v1 := .int .i64 n) (v2 := .int .i64 s) (v3 := .int .i64 l) (v4 := .int .i64 c) (v5 := .int .i64 p) (v6 := .int .i64 q) HM4.out.own (.inl (by omega))
        have hhi := HM4.out.hiW
        first | (with_reducible exact own_finG hfin (by rw [size_seven]; exact hhi) (by omega)) | (with_reducible exact own_drewG hfin (by rw [size_seven]; exact hhi) (by omega))
    · have hne : ¬ k3 = p := fun h => hke h.symm
      have HX : Hid (Rd w3 w3.heap.size (some ⟨g3, p, none⟩) (intV .u8 ((Z.drop p).take (a - p)))) := Lib.hid (by
        have h := HRD.out.part p (a - p); rw [Nat.zero_add] at h; exact h)
      have HXL := Lib.hid (show ((Z.drop p).take (a - p)).length = a - p by rw [List.length_take, List.length_drop, HWL.out]; have := HQQ.out; have := HHH.out; omega)
      have HWC : Hid (∀ W (_ _ : Unit), Below w3.heap.size w3 W → Calls Try.prog 132 #[.agg #[.slice A m.length cm], .agg #[.int .i64 n, .int .i64 s, .int .i64 l, .int .i64 c], .int .i64 q, .slice (some ⟨g3, p, none⟩) (a - p) (k3 - p)] W fun e w' => ∃ v, e = .returned (.agg #[v]) ∧ OwnM w' W.heap.size w'.heap.size v R ∧ Below W.heap.size W w') := Lib.hid fun W _ _ hb => by
        have h := specWrite_calls A cm m n s q l c (some ⟨g3, p, none⟩) (k3 - p) ((Z.drop p).take (a - p)) W ((HR.out.below (HB3.out.trans (hb.mono HB3.out.size))).more (Nat.le_trans HB3.out.size hb.size)) HMO.out hnl (by rw [HXL.out]; have := HQQ.out; have := HHH.out; omega) ((HX.out.below hb).more hb.size)
        rw [HXL.out] at h
        rw [HRR.out]
        exact h
      have HSC : Hid ((a : Int) - p = C) := Lib.hid (by have h := HCC.out; rw [moveC, if_pos hpa] at h; omega)
      have hw1 : IntKind.i64.wrap ((a : Int) - p) = C := by rw [HSC.out]; exact IntWalk.i64_in _ (by have := HQQ.out; have := HHH.out; have h := HCC.out; rw [moveC, if_pos hpa] at h; omega)
      clear c0 d0 d1 d2 d3 d4 d5
      go_upto_region 3 with fail
      have hcd : Below w3.heap.size w3 w3.drew := (Below.refl _ _).drew
      have hca : Below w3.heap.size w3 (w3.alloc (.cells #[.slice none 0 0] 31)).drew := ((Below.refl _ _).alloc (Nat.le_refl _) _).drew
      have HK0 := Lib.hid (HA3.out _ hcd)
      have HK1 := Lib.hid (HA3.out _ hca)
      have HLP := Lib.hid (fun (W : World) (hb : W.heap[w.heap.size]? = some (.cells #[.slice A m.length cm, .int .i64 n, .int .i64 s, .int .i64 l, .int .i64 c, .int .i64 a, .int .i64 b] 34)) => gap_cells hb)
      have lp := (Array.getElem?_eq_some_iff.1 HG3.out.par).1
      go_cut [8] (fun s8 wx => ∃ (g4 lo4 hi4 : Nat) (v4 : Value), s8 = .pointer (some ⟨g4, 0, none⟩) ∧ MBox wx w3.heap.size g4 lo4 hi4 v4 R ∧ Below w3.heap.size w3 wx)
      case first =>
        go_region_held3 (fun W => W.cell? ⟨w.heap.size, 0, none⟩ = some (.slice A m.length cm) ∧ W.cell? ⟨w.heap.size, 1, none⟩ = some (.int .i64 n) ∧ W.cell? ⟨w.heap.size, 2, none⟩ = some (.int .i64 s) ∧ W.cell? ⟨w.heap.size, 3, none⟩ = some (.int .i64 l) ∧ W.cell? ⟨w.heap.size, 4, none⟩ = some (.int .i64 c) ∧ W.cell? ⟨w.heap.size, 5, none⟩ = some (.int .i64 a) ∧ W.cell? ⟨w.heap.size, 6, none⟩ = some (.int .i64 b))
          (first | (with_reducible exact HK0.out) | (with_reducible exact HK1.out) | (with_reducible exact HK2.out) | (with_reducible exact HK3.out) | (with_reducible exact HK4.out))
          (first | (go_at_call 132; (with_reducible refine (HWC.out w3.drew () () hcd).mono ?_); rintro e w4 ⟨v4, rfl, ho4, hb4⟩; obtain ⟨A4, k4, rfl, hk4⟩ := ho4.form; have hc4 : Below w3.heap.size w3 w4 := hcd.trans hb4; have HOA := Lib.hid (show OwnM w4 w3.heap.size w4.heap.size (.slice A4 R.length k4) R from ho4); have HK2 := Lib.hid (HA3.out _ hc4); have HK3 := Lib.hid (HA3.out _ (hc4.alloc hc4.size (.cells #[.slice none 0 0] 31))); have HK4 := Lib.hid (HA3.out _ (hc4.alloc hc4.size (.cells #[.slice A4 R.length k4] 31)))) | (go_at_call 132; (with_reducible refine (HWC.out (w3.alloc (.cells #[.slice none 0 0] 31)).drew () () hca).mono ?_); rintro e w4 ⟨v4, rfl, ho4, hb4⟩; obtain ⟨A4, k4, rfl, hk4⟩ := ho4.form; have hc4 : Below w3.heap.size w3 w4 := hca.trans (hb4.mono hca.size); have HZB := Lib.hid (show w4.heap[w3.heap.size]? = some (.cells #[.slice none 0 0] 31) from box_new_d hb4); have y0 := one_cell HZB.out; have yf := one_frozen HZB.out; have hbg := al_led hb4; have HOB := Lib.hid (show OwnM w4 (w3.heap.size + 1) w4.heap.size (.slice A4 R.length k4) R from own_ald ho4); have HK2 := Lib.hid (HA3.out _ hc4); have HK3 := Lib.hid (HLP.out _ (keep_set (h := w3.heap.size) (i := 0) (u := .slice A4 R.length k4) (HG3.out.below hc4).par (by omega)))))
        all_goals (go_wp2_with fail)
        all_goals go_meet
        all_goals (first | (with_reducible exact meet_new HOA.out hc4) | (with_reducible exact meet_old HOB.out hc4 HZB.out hbg))
      case rest =>
        obtain ⟨g4, lo4, hi4, v4, rfl, hm4, hb4⟩ := hcut
        obtain ⟨w4, hw4⟩ : ∃ w4, w4 = wc := ⟨_, rfl⟩
        subst hw4
        obtain ⟨A4, k4, rfl, hk4⟩ := hm4.own.form
        have HM4 := Lib.hid hm4
        have HG4 := Lib.hid (HG3.out.below hb4)
        have HB4 := Lib.hid (HB3.out.trans (hb4.mono HB3.out.size))
        have hg4 := hm4.bg
        have hlo4 := hm4.blo
        have hw34 := hb4.size
        clear hm4 hb4 hk4
        have l2 := (Array.getElem?_eq_some_iff.1 HG4.out.res).1
        have l2' := (Array.getElem?_eq_some_iff.1 HG3.out.res).1
        have HLB := Lib.hid (fun (W : World) (h : W.heap[g4]? = some (.cells #[.slice A4 R.length k4] 31)) (h' : W.heap[w.heap.size]? = some (.cells #[.slice A m.length cm, .int .i64 n, .int .i64 s, .int .i64 l, .int .i64 c, .int .i64 a, .int .i64 b] 34)) => And.intro (one_cell h) (gap_cells h'))
        obtain ⟨m0, c0, d0, d1, d2, d3, d4, d5⟩ := HLB.out w4.drew (block_drew HM4.out.box) (block_drew HG4.out.par)
        obtain ⟨r0, r1, r2, r3, r4, r5, r6⟩ := gap_cells HG4.out.res
        obtain ⟨f0, f1, f2, f3, f4, f5, f6⟩ := gap_frozen HG4.out.res
        have HS := Lib.hid (HLB.out _ (block_drew (gap_keep (q := w.heap.size + 1) (v0 := .slice A4 R.length k4) (v1 := .int .i64 n) (v2 := .int .i64 s) (v3 := .int .i64 l) (v4 := .int .i64 c) (v5 := .int .i64 p) (v6 := .int .i64 q) HM4.out.box (by omega))) (block_drew (gap_keep (q := w.heap.size + 1) (v0 := .slice A4 R.length k4) (v1 := .int .i64 n) (v2 := .int .i64 s) (v3 := .int .i64 l) (v4 := .int .i64 c) (v5 := .int .i64 p) (v6 := .int .i64 q) HG4.out.par (by omega))))
        go_wp2_with fail
        go_region_held3 (fun W => W.cell? ⟨g4, 0, none⟩ = some (.slice A4 R.length k4) ∧ W.cell? ⟨w.heap.size, 0, none⟩ = some (.slice A m.length cm) ∧ W.cell? ⟨w.heap.size, 1, none⟩ = some (.int .i64 n) ∧ W.cell? ⟨w.heap.size, 2, none⟩ = some (.int .i64 s) ∧ W.cell? ⟨w.heap.size, 3, none⟩ = some (.int .i64 l) ∧ W.cell? ⟨w.heap.size, 4, none⟩ = some (.int .i64 c) ∧ W.cell? ⟨w.heap.size, 5, none⟩ = some (.int .i64 a) ∧ W.cell? ⟨w.heap.size, 6, none⟩ = some (.int .i64 b))
          (first | (with_reducible exact ⟨m0, c0, d0, d1, d2, d3, d4, d5⟩) | (with_reducible exact HS.out))
          (fail)
        go_wp2_with fail
        refine bodyPost_ret (v := .tuple #[.agg #[.slice A4 R.length k4, .int .i64 n, .int .i64 s, .int .i64 l, .int .i64 c, .int .i64 p, .int .i64 q], .int .i64 C]) (by simp [results, Try.results95, go_sem, r0, r1, r2, r3, r4, r5, r6]) rfl ⟨_, rfl, ?_, by (repeat (first | (with_reducible exact Below.refl _ _) | (with_reducible refine Below.drew ?_) | ((with_reducible refine Below.alloc ?_ ?hB _); case hB => (first | (with_reducible exact Nat.le_refl _) | omega | (simp; done) | (simp; omega))) | ((with_reducible refine Below.setCell ?_ ?hB _); case hB => (first | (with_reducible exact Nat.le_refl _) | omega | (simp; done) | (simp; omega))))); exact HB4.out⟩
        have hfin := own_seven (g := w.heap.size + 1) (v0 := .slice A4 R.length k4) (v1 := .int .i64 n) (v2 := .int .i64 s) (v3 := .int .i64 l) (v4 := .int .i64 c) (v5 := .int .i64 p) (v6 := .int .i64 q) HM4.out.own (.inl (by omega))
        have hhi := HM4.out.hiW
        first | (with_reducible exact own_finG hfin (by rw [size_seven]; exact hhi) (by omega)) | (with_reducible exact own_drewG hfin (by rw [size_seven]; exact hhi) (by omega))
  · have hpi : ¬ (p : Int) ≤ a := by omega
    have HRR := Lib.hid (show R = m.set n (over m[n] (s + a) ((Z.drop b).take (p - a))) by rw [HMV.out, if_neg hpa])
    have i1 : (0 : Int) ≤ b := by omega
    have i2 : (q : Int) ≤ k3 := by omega
    have i3 : (b : Int) ≤ q := by have := HQQ.out; have := HHH.out; omega
    by_cases hke : b = k3
    · exfalso
      have := HQQ.out
      have := HHH.out
      omega
    · have hne : ¬ k3 = b := fun h => hke h.symm
      have HX : Hid (Rd w3 w3.heap.size (some ⟨g3, b, none⟩) (intV .u8 ((Z.drop b).take (p - a)))) := Lib.hid (by
        have h := HRD.out.part b (p - a); rw [Nat.zero_add] at h; exact h)
      have HXL := Lib.hid (show ((Z.drop b).take (p - a)).length = q - b by rw [List.length_take, List.length_drop, HWL.out]; have := HQQ.out; have := HHH.out; omega)
      have HWC : Hid (∀ W (_ _ : Unit), Below w3.heap.size w3 W → Calls Try.prog 132 #[.agg #[.slice A m.length cm], .agg #[.int .i64 n, .int .i64 s, .int .i64 l, .int .i64 c], .int .i64 a, .slice (some ⟨g3, b, none⟩) (q - b) (k3 - b)] W fun e w' => ∃ v, e = .returned (.agg #[v]) ∧ OwnM w' W.heap.size w'.heap.size v R ∧ Below W.heap.size W w') := Lib.hid fun W _ _ hb => by
        have h := specWrite_calls A cm m n s a l c (some ⟨g3, b, none⟩) (k3 - b) ((Z.drop b).take (p - a)) W ((HR.out.below (HB3.out.trans (hb.mono HB3.out.size))).more (Nat.le_trans HB3.out.size hb.size)) HMO.out hnl (by rw [HXL.out]; have := HQQ.out; have := HHH.out; omega) ((HX.out.below hb).more hb.size)
        rw [HXL.out] at h
        rw [HRR.out]
        exact h
      have HSC : Hid ((p : Int) - a = C) := Lib.hid (by have h := HCC.out; rw [moveC, if_neg hpa] at h; omega)
      have hw1 : IntKind.i64.wrap ((p : Int) - a) = C := by rw [HSC.out]; exact IntWalk.i64_in _ (by have := HQQ.out; have := HHH.out; have h := HCC.out; rw [moveC, if_neg hpa] at h; omega)
      clear c0 d0 d1 d2 d3 d4 d5
      go_upto_region 5 with fail
      have hcd : Below w3.heap.size w3 w3.drew := (Below.refl _ _).drew
      have hca : Below w3.heap.size w3 (w3.alloc (.cells #[.slice none 0 0] 31)).drew := ((Below.refl _ _).alloc (Nat.le_refl _) _).drew
      have HK0 := Lib.hid (HA3.out _ hcd)
      have HK1 := Lib.hid (HA3.out _ hca)
      have HLP := Lib.hid (fun (W : World) (hb : W.heap[w.heap.size]? = some (.cells #[.slice A m.length cm, .int .i64 n, .int .i64 s, .int .i64 l, .int .i64 c, .int .i64 a, .int .i64 b] 34)) => gap_cells hb)
      have lp := (Array.getElem?_eq_some_iff.1 HG3.out.par).1
      go_cut [9] (fun s9 wx => ∃ (g4 lo4 hi4 : Nat) (v4 : Value), s9 = .pointer (some ⟨g4, 0, none⟩) ∧ MBox wx w3.heap.size g4 lo4 hi4 v4 R ∧ Below w3.heap.size w3 wx)
      case first =>
        go_region_held3 (fun W => W.cell? ⟨w.heap.size, 0, none⟩ = some (.slice A m.length cm) ∧ W.cell? ⟨w.heap.size, 1, none⟩ = some (.int .i64 n) ∧ W.cell? ⟨w.heap.size, 2, none⟩ = some (.int .i64 s) ∧ W.cell? ⟨w.heap.size, 3, none⟩ = some (.int .i64 l) ∧ W.cell? ⟨w.heap.size, 4, none⟩ = some (.int .i64 c) ∧ W.cell? ⟨w.heap.size, 5, none⟩ = some (.int .i64 a) ∧ W.cell? ⟨w.heap.size, 6, none⟩ = some (.int .i64 b))
          (first | (with_reducible exact HK0.out) | (with_reducible exact HK1.out) | (with_reducible exact HK2.out) | (with_reducible exact HK3.out) | (with_reducible exact HK4.out))
          (first | (go_at_call 132; (with_reducible refine (HWC.out w3.drew () () hcd).mono ?_); rintro e w4 ⟨v4, rfl, ho4, hb4⟩; obtain ⟨A4, k4, rfl, hk4⟩ := ho4.form; have hc4 : Below w3.heap.size w3 w4 := hcd.trans hb4; have HOA := Lib.hid (show OwnM w4 w3.heap.size w4.heap.size (.slice A4 R.length k4) R from ho4); have HK2 := Lib.hid (HA3.out _ hc4); have HK3 := Lib.hid (HA3.out _ (hc4.alloc hc4.size (.cells #[.slice none 0 0] 31))); have HK4 := Lib.hid (HA3.out _ (hc4.alloc hc4.size (.cells #[.slice A4 R.length k4] 31)))) | (go_at_call 132; (with_reducible refine (HWC.out (w3.alloc (.cells #[.slice none 0 0] 31)).drew () () hca).mono ?_); rintro e w4 ⟨v4, rfl, ho4, hb4⟩; obtain ⟨A4, k4, rfl, hk4⟩ := ho4.form; have hc4 : Below w3.heap.size w3 w4 := hca.trans (hb4.mono hca.size); have HZB := Lib.hid (show w4.heap[w3.heap.size]? = some (.cells #[.slice none 0 0] 31) from box_new_d hb4); have y0 := one_cell HZB.out; have yf := one_frozen HZB.out; have hbg := al_led hb4; have HOB := Lib.hid (show OwnM w4 (w3.heap.size + 1) w4.heap.size (.slice A4 R.length k4) R from own_ald ho4); have HK2 := Lib.hid (HA3.out _ hc4); have HK3 := Lib.hid (HLP.out _ (keep_set (h := w3.heap.size) (i := 0) (u := .slice A4 R.length k4) (HG3.out.below hc4).par (by omega)))))
        all_goals (go_wp2_with fail)
        all_goals go_meet
        all_goals (first | (with_reducible exact meet_new HOA.out hc4) | (with_reducible exact meet_old HOB.out hc4 HZB.out hbg))
      case rest =>
        obtain ⟨g4, lo4, hi4, v4, rfl, hm4, hb4⟩ := hcut
        obtain ⟨w4, hw4⟩ : ∃ w4, w4 = wc := ⟨_, rfl⟩
        subst hw4
        obtain ⟨A4, k4, rfl, hk4⟩ := hm4.own.form
        have HM4 := Lib.hid hm4
        have HG4 := Lib.hid (HG3.out.below hb4)
        have HB4 := Lib.hid (HB3.out.trans (hb4.mono HB3.out.size))
        have hg4 := hm4.bg
        have hlo4 := hm4.blo
        have hw34 := hb4.size
        clear hm4 hb4 hk4
        have l2 := (Array.getElem?_eq_some_iff.1 HG4.out.res).1
        have l2' := (Array.getElem?_eq_some_iff.1 HG3.out.res).1
        have HLB := Lib.hid (fun (W : World) (h : W.heap[g4]? = some (.cells #[.slice A4 R.length k4] 31)) (h' : W.heap[w.heap.size]? = some (.cells #[.slice A m.length cm, .int .i64 n, .int .i64 s, .int .i64 l, .int .i64 c, .int .i64 a, .int .i64 b] 34)) => And.intro (one_cell h) (gap_cells h'))
        obtain ⟨m0, c0, d0, d1, d2, d3, d4, d5⟩ := HLB.out w4.drew (block_drew HM4.out.box) (block_drew HG4.out.par)
        obtain ⟨r0, r1, r2, r3, r4, r5, r6⟩ := gap_cells HG4.out.res
        obtain ⟨f0, f1, f2, f3, f4, f5, f6⟩ := gap_frozen HG4.out.res
        have HS := Lib.hid (HLB.out _ (block_drew (gap_keep (q := w.heap.size + 1) (v0 := .slice A4 R.length k4) (v1 := .int .i64 n) (v2 := .int .i64 s) (v3 := .int .i64 l) (v4 := .int .i64 c) (v5 := .int .i64 p) (v6 := .int .i64 q) HM4.out.box (by omega))) (block_drew (gap_keep (q := w.heap.size + 1) (v0 := .slice A4 R.length k4) (v1 := .int .i64 n) (v2 := .int .i64 s) (v3 := .int .i64 l) (v4 := .int .i64 c) (v5 := .int .i64 p) (v6 := .int .i64 q) HG4.out.par (by omega))))
        go_wp2_with fail
        go_region_held3 (fun W => W.cell? ⟨g4, 0, none⟩ = some (.slice A4 R.length k4) ∧ W.cell? ⟨w.heap.size, 0, none⟩ = some (.slice A m.length cm) ∧ W.cell? ⟨w.heap.size, 1, none⟩ = some (.int .i64 n) ∧ W.cell? ⟨w.heap.size, 2, none⟩ = some (.int .i64 s) ∧ W.cell? ⟨w.heap.size, 3, none⟩ = some (.int .i64 l) ∧ W.cell? ⟨w.heap.size, 4, none⟩ = some (.int .i64 c) ∧ W.cell? ⟨w.heap.size, 5, none⟩ = some (.int .i64 a) ∧ W.cell? ⟨w.heap.size, 6, none⟩ = some (.int .i64 b))
          (first | (with_reducible exact ⟨m0, c0, d0, d1, d2, d3, d4, d5⟩) | (with_reducible exact HS.out))
          (fail)
        go_wp2_with fail
        refine bodyPost_ret (v := .tuple #[.agg #[.slice A4 R.length k4, .int .i64 n, .int .i64 s, .int .i64 l, .int .i64 c, .int .i64 p, .int .i64 q], .int .i64 C]) (by simp [results, Try.results95, go_sem, r0, r1, r2, r3, r4, r5, r6]) rfl ⟨_, rfl, ?_, by (repeat (first | (with_reducible exact Below.refl _ _) | (with_reducible refine Below.drew ?_) | ((with_reducible refine Below.alloc ?_ ?hB _); case hB => (first | (with_reducible exact Nat.le_refl _) | omega | (simp; done) | (simp; omega))) | ((with_reducible refine Below.setCell ?_ ?hB _); case hB => (first | (with_reducible exact Nat.le_refl _) | omega | (simp; done) | (simp; omega))))); exact HB4.out⟩
        have hfin := own_seven (g := w.heap.size + 1) (v0 := .slice A4 R.length k4) (v1 := .int .i64 n) (v2 := .int .i64 s) (v3 := .int .i64 l) (v4 := .int .i64 c) (v5 := .int .i64 p) (v6 := .int .i64 q) HM4.out.own (.inl (by omega))
        have hhi := HM4.out.hiW
        first | (with_reducible exact own_finG hfin (by rw [size_seven]; exact hhi) (by omega)) | (with_reducible exact own_drewG hfin (by rw [size_seven]; exact hhi) (by omega))
end Go.Proofs.Ytkclpppnjfhbpaa
