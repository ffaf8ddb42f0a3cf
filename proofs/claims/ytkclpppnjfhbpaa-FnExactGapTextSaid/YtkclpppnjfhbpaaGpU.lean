/-
  GapText of impl.
-/
import Derived.Test.YtkclpppnjfhbpaaGpT
import Derived.Test.YtkclpppnjfhbpaaNewS
namespace Go.Proofs.Ytkclpppnjfhbpaa
open Go.RowKit

set_option maxRecDepth 100000 in
set_option maxHeartbeats 3200000 in
theorem implGT_ok (A : Option Addr) (cm : Nat) (m : List (List Int)) (n s l c a b : Nat) (w : World) (hr : Rd2 w w.heap.size A m) (hok : GpOK m ⟨⟨n, s, l, c⟩, a, b⟩) (hx : GArgW ⟨⟨n, s, l, c⟩, a, b⟩) :
    Calls Try.prog 32 #[.agg #[.slice A m.length cm, .int .i64 n, .int .i64 s, .int .i64 l, .int .i64 c, .int .i64 a, .int .i64 b]] w fun e w' => ∃ v, e = .returned (.tuple #[v, .bool true]) ∧ w'.ownsRow w.heap.size 5 1 v (textL m n s l a b).length (intV .u8 (textL m n s l a b)) ∧ Below w.heap.size w w' := by
  have hn : m.length ≤ maxLen := by have := hok.1.1.1; simp only [maxLen]; omega
  obtain ⟨n', s', l', c', a', b', hnl, e, hab, hbl, hlc, hsc, h1m, h64, h16⟩ := hok.nat
  injection e with e1 e2 e3
  injection e1 with e4 e5 e6 e7
  obtain rfl : n = n' := by omega
  obtain rfl : s = s' := by omega
  obtain rfl : l = l' := by omega
  obtain rfl : c = c' := by omega
  obtain rfl : a = a' := by omega
  obtain rfl : b = b' := by omega
  clear e2 e3 e4 e5 e6 e7
  obtain ⟨N, hN⟩ : ∃ N, l - (b - a) = N := ⟨_, rfl⟩
  have hNi : (l : Int) - ((b : Int) - a) = N := by omega
  obtain ⟨w0, hw0, hb0, hz0, hg0⟩ := enterG A m.length cm ⟨⟨n, s, l, c⟩, a, b⟩ w
  have HC := Lib.hid (implIsGap_calls A cm m ⟨⟨n, s, l, c⟩, a, b⟩ w0 ((hr.below hb0).more hb0.size) hn hx)
  dsimp only at hw0 hg0 HC
  rw [decide_eq_true hok] at HC
  have HB := Lib.hid hb0
  have HR := Lib.hid hr
  have HW := Lib.hid hw0
  have HG := Lib.hid hg0
  have hwl : (wb m n s l).length = l := wb_len hnl (by omega)
  have HT := Lib.hid (show textL m n s l a b = (wb m n s l).take a ++ (wb m n s l).drop b from rfl)
  have HSR := Lib.hid (fun W (hb : Below w.heap.size w W) => storedR_calls A cm m n s l c a b W ((hr.below hb).more hb.size) hnl h16 hlc hsc h1m h64)
  have HLC : Hid (∀ W, Calls Try.prog 92 #[.agg #[.slice A m.length cm, .int .i64 n, .int .i64 s, .int .i64 l, .int .i64 c, .int .i64 a, .int .i64 b]] W fun e w' => e = .returned (.int .i64 N) ∧ Below W.heap.size W w') := Lib.hid fun W => by
    have h := length_calls A m.length cm ⟨⟨n, s, l, c⟩, a, b⟩ W (by dsimp only; omega) (by dsimp only; omega) (by dsimp only; omega)
    dsimp only at h
    rw [hNi] at h
    exact h
  obtain ⟨mk, hmk⟩ := make_all N (by omega)
  have hrun := fun W => (hmk W).1
  have HMK := Lib.hid hmk
  obtain ⟨c0, d0, d1, d2, d3, d4, d5⟩ := gap_cells hg0
  have hszu : (Try.prog.info? 5).map (·.size) = some 1 := by kernel_rfl
  generalize wb m n s l = Z at *
  clear hb0 hw0 hg0 hr hz0 hmk hok
  have HWL := Lib.hid hwl
  clear hwl
  have HRUN := Lib.hid hrun
  clear hrun
  go_enter Try.func32, Try.ntmps32
  go_upto_region 1 with fail
  rw [HW.out]
  go_wp2_with fail
  refine HC.out.mono ?_
  rintro e w2 ⟨rfl, hb2⟩
  have HB2 := Lib.hid (HB.out.trans (hb2.mono HB.out.size))
  have HG2 := Lib.hid ((hb2.block _ (Array.getElem?_eq_some_iff.1 HG.out).1).trans HG.out)
  have HK := Lib.hid (fun (W : World) (hb : Below w2.heap.size w2 W) => gap_cells ((hb.block _ (Array.getElem?_eq_some_iff.1 HG2.out).1).trans HG2.out))
  clear hb2 c0 d0 d1 d2 d3 d4 d5
  obtain ⟨c0, d0, d1, d2, d3, d4, d5⟩ := HK.out w2.drew (Below.refl _ _).drew
  have hrun := HRUN.out
  go_wp2_with fail
  go_region_held3 (fun W => W.cell? ⟨w.heap.size, 0, none⟩ = some (.slice A m.length cm) ∧ W.cell? ⟨w.heap.size, 1, none⟩ = some (.int .i64 n) ∧ W.cell? ⟨w.heap.size, 2, none⟩ = some (.int .i64 s) ∧ W.cell? ⟨w.heap.size, 3, none⟩ = some (.int .i64 l) ∧ W.cell? ⟨w.heap.size, 4, none⟩ = some (.int .i64 c) ∧ W.cell? ⟨w.heap.size, 5, none⟩ = some (.int .i64 a) ∧ W.cell? ⟨w.heap.size, 6, none⟩ = some (.int .i64 b))
    (first | (with_reducible exact ⟨c0, d0, d1, d2, d3, d4, d5⟩) | (with_reducible exact HK.out _ hc4) | (with_reducible exact HK.out _ hc3) | exact HK.out _ (hc4.trans ((HMK.out w4).2.2.mono hc4.size)))
    (first | (go_at_call 91; (with_reducible refine (HSR.out w2.drew HB2.out.drew).mono ?_); rintro e w3 ⟨⟨⟨b3, o3, p3⟩, hbb3, hsp3, rfl, hrd3⟩, hb3⟩; obtain rfl : p3 = none := hsp3; have hc3 : Below w2.heap.size w2 w3 := (Below.refl _ _).drew.trans hb3) | (go_at_call 92; (with_reducible refine (HLC.out w3).mono ?_); rintro e w4 ⟨rfl, hb4⟩; have hc4 : Below w2.heap.size w2 w4 := hc3.trans (hb4.mono hc3.size)))
  obtain ⟨hown5, hb5⟩ := (HMK.out w4).2
  obtain ⟨w5, hw5⟩ : ∃ w5, mk w4 = w5 := ⟨_, rfl⟩
  rw [hw5] at hown5 hb5 ⊢
  have hc5 : Below w2.heap.size w2 w5 := hc4.trans (hb5.mono hc4.size)
  have HB5 := Lib.hid (HB2.out.trans (hc5.mono HB2.out.size))
  have h35 := hc3.size
  have h45 := hb4.size
  have hs5 := hb5.size
  have HRD5 := Lib.hid ((((hrd3.below hb4).more hb4.size).below hb5).more hb5.size)
  have HP3 := Lib.hid hbb3
  have HLZ := Lib.hid (show (List.replicate N (0 : Int)).length = N from List.length_replicate)
  have HO5 : Hid (w5.ownsRow w4.heap.size 5 1 (.slice (some ⟨w4.heap.size, 0, none⟩) (List.replicate N (0 : Int)).length N) (List.replicate N (0 : Int)).length (intV .u8 (List.replicate N 0))) := Lib.hid (by rw [HLZ.out]; exact hown5)
  have hs02 := HB2.out.size
  have hlw2 : w.heap.size < w2.heap.size := (Array.getElem?_eq_some_iff.1 HG2.out).1
  have HTA := Lib.hid (show (Z.take a).length = a by rw [List.length_take, HWL.out]; omega)
  have HTB := Lib.hid (show (Z.drop b).length = l - b by rw [List.length_drop, HWL.out])
  have hb3w : b3 < w4.heap.size := Nat.lt_of_lt_of_le hbb3 h45
  clear hbb3
  have HS1 : Hid (0 < (Z.take a).length → ∃ ad, some (⟨b3, o3, none⟩ : Addr) = some ad ∧ ∀ j v, (intV .u8 (Z.take a))[j]? = some v → w5.cell? (ad.add j) = some v) := Lib.hid fun _ => ⟨_, rfl, rd_cells (rd_take HRD5.out a)⟩
  obtain ⟨e0, e1, e2, e3, e4, e5, e6⟩ := HK.out w5 hc5
  have j1 : (0 : Int) ≤ (a : Int) := by omega
  have j2 : (a : Int) ≤ (c : Int) := by omega
  clear hrun hrd3 hb3 hb4 hb5 hown5 hc3 hc4 hw5 c0 d0 d1 d2 d3 d4 d5
  go_wp2_with (refine wpList_copy_row0 rfl _ _ 46 46 rfl Try.underlying46 hszu _ _ N N a c rfl rfl w4.heap.size w4.heap.size N (List.replicate N 0) HO5.out 0 (Z.take a) a HTA.out (by show a = min a N; omega) (fun _ => rfl) (by rw [HTA.out, HLZ.out]; omega) HS1.out ?_; intro w6 hown6 hg6)
  have hc6 : Below w2.heap.size w2 w6 := hc5.grown hg6 hc5.size (fun g e => by injection e with e; omega)
  have HYL := Lib.hid (show (over (List.replicate N (0 : Int)) 0 (Z.take a)).length = N by rw [over_len (by rw [HTA.out, HLZ.out]; omega), HLZ.out])
  have HR6 : Hid (w6.ownsRow w4.heap.size 5 1 (.slice (some ⟨w4.heap.size, 0, none⟩) (over (List.replicate N (0 : Int)) 0 (Z.take a)).length N) (over (List.replicate N (0 : Int)) 0 (Z.take a)).length (intV .u8 (over (List.replicate N (0 : Int)) 0 (Z.take a)))) := Lib.hid (by rw [HYL.out]; rw [HLZ.out] at hown6; exact hown6)
  have HOV := Lib.hid (over_two (N := N) (xs := Z.take a) (ys := Z.drop b) (by rw [HTA.out, HTB.out]; omega))
  rw [HTA.out] at HOV
  have HRD6 := Lib.hid (show Rd w6 w4.heap.size (some ⟨b3, o3, none⟩) (intV .u8 Z) from by
    have h := HRD5.out
    rcases h with h | ⟨b', off, e, hb, hc⟩
    · exact .inl h
    · have e' := e
      injection e' with e'
      injection e' with e1 e2
      exact .inr ⟨b', off, e, by omega, fun i u hu => grown_cell hg6 (hc i u hu) (by simp; omega)⟩)
  have HS2 : Hid (0 < (Z.drop b).length → ∃ ad, some (⟨b3, o3 + b, none⟩ : Addr) = some ad ∧ ∀ j v, (intV .u8 (Z.drop b))[j]? = some v → w6.cell? (ad.add j) = some v) := Lib.hid fun _ => ⟨_, rfl, rd_cells (by
    have h := HRD6.out.part b (l - b)
    rw [List.take_of_length_le (by rw [HTB.out]; exact Nat.le_refl _)] at h
    exact h)⟩
  have hs6 := hc6.size
  have HR6D : Hid (w6.drew.ownsRow w4.heap.size 5 1 (.slice (some ⟨w4.heap.size, 0, none⟩) (over (List.replicate N (0 : Int)) 0 (Z.take a)).length N) (over (List.replicate N (0 : Int)) 0 (Z.take a)).length (intV .u8 (over (List.replicate N (0 : Int)) 0 (Z.take a)))) := Lib.hid HR6.out
  clear hown6 hg6 e0 e1 e2 e3 e4 e5 e6
  obtain ⟨e0, e1, e2, e3, e4, e5, e6⟩ := HK.out w6.drew hc6.drew
  generalize over (List.replicate N (0 : Int)) 0 (Z.take a) = Y at *
  have hbi1 : (0 : Int) ≤ (b : Int) := by omega
  have hbi2 : (b : Int) ≤ (l : Int) := by omega
  have haN : (a : Int) ≤ (N : Int) := by omega
  rcases (show (a = N ∧ b = l ∧ b = c) ∨ (a = N ∧ b = l ∧ b < c) ∨ (a < N ∧ b < c) by omega) with ⟨h1, h2, h3⟩ | ⟨h1, h2, h3⟩ | ⟨h1, h2⟩
  · subst h1
    subst h2
    subst h3
    have HHN := Lib.hid (show b - b = Nat.min 0 0 by show b - b = min 0 0; omega)
    have HHF := Lib.hid (show a + (Z.drop b).length ≤ Y.length by rw [HTB.out, HYL.out]; omega)
    have HHP : Hid (0 < (Z.drop b).length → ((some ⟨w4.heap.size, 0, none⟩) : Option Addr) = some ⟨w4.heap.size, a, none⟩) := Lib.hid (fun h0 => by first | rfl | (rw [HTB.out] at h0; omega))
    have HHS : Hid (0 < (Z.drop b).length → ∃ ad, ((some ⟨b3, o3, none⟩) : Option Addr) = some ad ∧ ∀ j v, (intV .u8 (Z.drop b))[j]? = some v → w6.drew.cell? (ad.add j) = some v) := Lib.hid (fun h0 => by first | exact HS2.out h0 | (rw [HTB.out] at h0; omega))
    go_wp2_with fail
    go_region_held3 (fun W => W.cell? ⟨w.heap.size, 0, none⟩ = some (.slice A m.length cm) ∧ W.cell? ⟨w.heap.size, 1, none⟩ = some (.int .i64 n) ∧ W.cell? ⟨w.heap.size, 2, none⟩ = some (.int .i64 s) ∧ W.cell? ⟨w.heap.size, 3, none⟩ = some (.int .i64 b) ∧ W.cell? ⟨w.heap.size, 4, none⟩ = some (.int .i64 b) ∧ W.cell? ⟨w.heap.size, 5, none⟩ = some (.int .i64 a) ∧ W.cell? ⟨w.heap.size, 6, none⟩ = some (.int .i64 b))
      (first | (with_reducible exact ⟨e0, e1, e2, e3, e4, e5, e6⟩) | (with_reducible exact HK.out _ hc7))
      (first | (refine step_copy_row0 (by rfl) _ _ 46 46 (by rfl) Try.underlying46 hszu (some ⟨w4.heap.size, 0, none⟩) (some ⟨b3, o3, none⟩) 0 0 0 0 (by rfl) (by rfl) w4.heap.size w4.heap.size a Y HR6D.out a (Z.drop b) (b - b) HTB.out HHN.out HHP.out HHF.out HHS.out ?_; intro w7 hown7 hg7; have hc7 : Below w2.heap.size w2 w7 := hc6.drew.grown hg7 hs6 (fun g e => by injection e with e; omega)))
    have HO7 : Hid (w7.ownsRow w.heap.size 5 1 (.slice (some ⟨w4.heap.size, 0, none⟩) a a) a (intV .u8 (textL m n s b a b))) := Lib.hid (by rw [HYL.out] at hown7; rw [HT.out, ← HOV.out]; exact own_monoR hown7 (by omega))
    have HB7 := Lib.hid (HB2.out.trans (hc7.mono HB2.out.size))
    clear hown7 hg7
    go_wp2_with fail
    go_ret2
    refine ⟨_, rfl, ?_, HB7.out⟩
    rw [show (textL m n s b a b).length = a by rw [HT.out, List.length_append, HTA.out, HTB.out]; omega]
    exact HO7.out
  · subst h1
    subst h2
    have hcb : ¬ c = b := by omega
    have HHN := Lib.hid (show b - b = Nat.min 0 0 by show b - b = min 0 0; omega)
    have HHF := Lib.hid (show a + (Z.drop b).length ≤ Y.length by rw [HTB.out, HYL.out]; omega)
    have HHP : Hid (0 < (Z.drop b).length → ((some ⟨w4.heap.size, 0, none⟩) : Option Addr) = some ⟨w4.heap.size, a, none⟩) := Lib.hid (fun h0 => by first | rfl | (rw [HTB.out] at h0; omega))
    have HHS : Hid (0 < (Z.drop b).length → ∃ ad, ((some ⟨b3, o3 + b, none⟩) : Option Addr) = some ad ∧ ∀ j v, (intV .u8 (Z.drop b))[j]? = some v → w6.drew.cell? (ad.add j) = some v) := Lib.hid (fun h0 => by first | exact HS2.out h0 | (rw [HTB.out] at h0; omega))
    go_wp2_with fail
    go_region_held3 (fun W => W.cell? ⟨w.heap.size, 0, none⟩ = some (.slice A m.length cm) ∧ W.cell? ⟨w.heap.size, 1, none⟩ = some (.int .i64 n) ∧ W.cell? ⟨w.heap.size, 2, none⟩ = some (.int .i64 s) ∧ W.cell? ⟨w.heap.size, 3, none⟩ = some (.int .i64 b) ∧ W.cell? ⟨w.heap.size, 4, none⟩ = some (.int .i64 c) ∧ W.cell? ⟨w.heap.size, 5, none⟩ = some (.int .i64 a) ∧ W.cell? ⟨w.heap.size, 6, none⟩ = some (.int .i64 b))
      (first | (with_reducible exact ⟨e0, e1, e2, e3, e4, e5, e6⟩) | (with_reducible exact HK.out _ hc7))
      (first | (refine step_copy_row0 (by rfl) _ _ 46 46 (by rfl) Try.underlying46 hszu (some ⟨w4.heap.size, 0, none⟩) (some ⟨b3, o3 + b, none⟩) 0 0 0 (c - b) (by rfl) (by rfl) w4.heap.size w4.heap.size a Y HR6D.out a (Z.drop b) (b - b) HTB.out HHN.out HHP.out HHF.out HHS.out ?_; intro w7 hown7 hg7; have hc7 : Below w2.heap.size w2 w7 := hc6.drew.grown hg7 hs6 (fun g e => by injection e with e; omega)))
    have HO7 : Hid (w7.ownsRow w.heap.size 5 1 (.slice (some ⟨w4.heap.size, 0, none⟩) a a) a (intV .u8 (textL m n s b a b))) := Lib.hid (by rw [HYL.out] at hown7; rw [HT.out, ← HOV.out]; exact own_monoR hown7 (by omega))
    have HB7 := Lib.hid (HB2.out.trans (hc7.mono HB2.out.size))
    clear hown7 hg7
    go_wp2_with fail
    go_ret2
    refine ⟨_, rfl, ?_, HB7.out⟩
    rw [show (textL m n s b a b).length = a by rw [HT.out, List.length_append, HTA.out, HTB.out]; omega]
    exact HO7.out
  · have hNa : ¬ N = a := by omega
    have hcb : ¬ c = b := by omega
    have HHN := Lib.hid (show l - b = Nat.min (l - b) (N - a) by show l - b = min (l - b) (N - a); omega)
    have HHF := Lib.hid (show a + (Z.drop b).length ≤ Y.length by rw [HTB.out, HYL.out]; omega)
    have HHS : Hid (0 < (Z.drop b).length → ∃ ad, ((some ⟨b3, o3 + b, none⟩) : Option Addr) = some ad ∧ ∀ j v, (intV .u8 (Z.drop b))[j]? = some v → w6.drew.cell? (ad.add j) = some v) := Lib.hid (fun h0 => by first | exact HS2.out h0 | (rw [HTB.out] at h0; omega))
    go_wp2_with fail
    go_region_held3 (fun W => W.cell? ⟨w.heap.size, 0, none⟩ = some (.slice A m.length cm) ∧ W.cell? ⟨w.heap.size, 1, none⟩ = some (.int .i64 n) ∧ W.cell? ⟨w.heap.size, 2, none⟩ = some (.int .i64 s) ∧ W.cell? ⟨w.heap.size, 3, none⟩ = some (.int .i64 l) ∧ W.cell? ⟨w.heap.size, 4, none⟩ = some (.int .i64 c) ∧ W.cell? ⟨w.heap.size, 5, none⟩ = some (.int .i64 a) ∧ W.cell? ⟨w.heap.size, 6, none⟩ = some (.int .i64 b))
      (first | (with_reducible exact ⟨e0, e1, e2, e3, e4, e5, e6⟩) | (with_reducible exact HK.out _ hc7))
      (first | (refine step_copy_row0 (by rfl) _ _ 46 46 (by rfl) Try.underlying46 hszu (some ⟨w4.heap.size, a, none⟩) (some ⟨b3, o3 + b, none⟩) (N - a) (N - a) (l - b) (c - b) (by rfl) (by rfl) w4.heap.size w4.heap.size N Y HR6D.out a (Z.drop b) (l - b) HTB.out HHN.out (fun _ => rfl) HHF.out HHS.out ?_; intro w7 hown7 hg7; have hc7 : Below w2.heap.size w2 w7 := hc6.drew.grown hg7 hs6 (fun g e => by injection e with e; omega)))
    have HO7 : Hid (w7.ownsRow w.heap.size 5 1 (.slice (some ⟨w4.heap.size, 0, none⟩) N N) N (intV .u8 (textL m n s l a b))) := Lib.hid (by rw [HYL.out] at hown7; rw [HT.out, ← HOV.out]; exact own_monoR hown7 (by omega))
    have HB7 := Lib.hid (HB2.out.trans (hc7.mono HB2.out.size))
    clear hown7 hg7
    go_wp2_with fail
    go_ret2
    refine ⟨_, rfl, ?_, HB7.out⟩
    rw [show (textL m n s l a b).length = N by rw [HT.out, List.length_append, HTA.out, HTB.out]; omega]
    exact HO7.out

set_option maxRecDepth 100000 in
set_option maxHeartbeats 800000 in
theorem implGapText_calls (A : Option Addr) (cm : Nat) (m : List (List Int)) (g : Gp) (w : World) (hr : Rd2 w w.heap.size A m) (hn : m.length ≤ maxLen) (hx : GArgW g) :
    Calls Try.prog 32 #[.agg #[.slice A m.length cm, .int .i64 g.w.arr, .int .i64 g.w.start, .int .i64 g.w.len, .int .i64 g.w.cap, .int .i64 g.fr, .int .i64 g.up]] w fun e w' => ∃ v, e = .returned (.tuple #[v, .bool (gapTextR m g).2]) ∧ w'.ownsRow w.heap.size 5 1 v (gapTextR m g).1.length (intV .u8 (gapTextR m g).1) ∧ Below w.heap.size w w' := by
  by_cases hok : GpOK m g
  · rw [show gapTextR m g = (textL m g.w.arr.toNat g.w.start.toNat g.w.len.toNat g.fr.toNat g.up.toNat, true) by rw [gapTextR, if_pos hok]]
    obtain ⟨n, s, l, c, a, b, hnl, rfl, _⟩ := hok.nat
    simp only [Int.toNat_natCast]
    exact implGT_ok A cm m n s l c a b w hr hok hx
  · obtain ⟨w0, hw0, hb0, hz0, hg0⟩ := enterG A m.length cm g w
    have HC := Lib.hid (implIsGap_calls A cm m g w0 ((hr.below hb0).more hb0.size) hn hx)
    rw [decide_eq_false hok] at HC
    have HV : Hid (gapTextR m g = ([], false)) := Lib.hid (by rw [gapTextR, if_neg hok])
    have HB := Lib.hid hb0
    have HW := Lib.hid hw0
    obtain ⟨c0, d0, d1, d2, d3, d4, d5⟩ := gap_cells hg0
    clear hr hb0 hw0 hok hg0 hz0
    go_enter Try.func32, Try.ntmps32
    go_upto_region 1 with fail
    rw [HW.out]
    go_wp2_with fail
    refine HC.out.mono ?_
    rintro e w2 ⟨rfl, hb2⟩
    have HB2 := Lib.hid (HB.out.trans (hb2.mono HB.out.size))
    have HO := Lib.hid (World.ownsRow_made (base := w.heap.size) (e := 5) (size := 1) w2 #[] 0 HB2.out.size (Nat.zero_le _) rfl)
    clear hb2 c0 d0 d1 d2 d3 d4 d5
    go_wp2_with fail
    go_ret2
    exact ⟨_, by rw [HV.out]; rfl, by rw [HV.out]; exact HO.out, by have hl := HB2.out.size; (repeat (first | (with_reducible exact Below.refl _ _) | (with_reducible refine Below.drew ?_) | ((with_reducible refine Below.alloc ?_ ?hB _); case hB => (first | (with_reducible exact Nat.le_refl _) | omega | (simp; done) | (simp; omega))) | ((with_reducible refine Below.setCell ?_ ?hB _); case hB => (first | (with_reducible exact Nat.le_refl _) | omega | (simp; done) | (simp; omega))))); exact HB2.out⟩
end Go.Proofs.Ytkclpppnjfhbpaa
