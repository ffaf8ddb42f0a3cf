/-
  Room for what is appended: roomFor of impl.
-/
import Derived.Test.YtoelagfcapdfpaaAppS
import Derived.Deep.RegionWith
namespace Go.Proofs.Ytoelagfcapdfpaa
open Go.RowKit

theorem run_copy_rowm {P : Program} {w : World} (dT sT T : TypeId) (hu : P.underlying dT = some (.slice 5)) (hsz : (P.info? 5).map (·.size) = some 1)
    (dp sp : Option Addr) (dLen dCap sLen sCap : Nat) (g lo cap : Nat) (r : List Int) (hr : w.ownsRow lo 5 1 (.slice (some ⟨g, 0, none⟩) r.length cap) r.length (intV .u8 r)) (h1 : 1 ≤ r.length)
    (p : Nat) (ys : List Int) (k : Nat) (hk : ys.length = k) (hn : k = Nat.min sLen dLen) (hp : 0 < ys.length → dp = some ⟨g, p, none⟩) (hfit : p + ys.length ≤ r.length)
    (hsrc : 0 < ys.length → ∃ ad, sp = some ad ∧ ∀ j v, (intV .u8 ys)[j]? = some v → w.cell? (ad.add j) = some v) :
    ∃ w', (Builtin.copy_ #[dT, sT] T #[.slice dp dLen dCap, .slice sp sLen sCap]).run P w = .ok (.int .i64 k) w' ∧ w'.ownsRow lo 5 1 (.slice (some ⟨g, 0, none⟩) r.length cap) r.length (intV .u8 (over r p ys)) ∧ w.grownBy w' (some g) := by
  subst hk
  by_cases h0 : ys.length = 0
  · obtain rfl : ys = [] := List.eq_nil_of_length_eq_zero h0
    exact ⟨w, run_copy_none (P := P) w dT sT T _ dp sp dLen dCap sLen sCap hu hsz (by simpa using hn.symm), by rw [over_nil]; exact hr, World.grownBy.refl _ _⟩
  · obtain ⟨ad, rfl, hc⟩ := hsrc (by omega)
    obtain rfl := hp (by omega)
    obtain ⟨cur, hg, hcs, hnc⟩ := own_block hr
    have hl : (intV .u8 ys).length = ys.length := intV_len _ _
    have hso := setRow_own hg hr h1 hfit
    have hrun := run_copy_row (P := P) w dT sT T _ g p dLen dCap ad sLen sCap cur _ (intV .u8 ys) hu hsz hg (by rw [hl]; exact hn) hc (by rw [hl]; omega) (one_intV ys)
    rw [List.append_assoc] at hrun
    refine ⟨_, hrun.trans ?_, hso.1, hso.2⟩
    rw [hl]
    rfl
theorem set_same {w : World} {b o : Nat} {u v : Value} (h : w.cell? ⟨b, o, none⟩ = some u) : (w.setCell ⟨b, o, none⟩ v).cell? ⟨b, o, none⟩ = some v := World.cell?_setCell_same' w ⟨b, o, none⟩ v (by rw [h]; rfl)
/-- What roomFor answers for a window of a memory. -/
def roomR (m : List (List Int)) (n s l c need : Nat) : List (List Int) × Win × Bool :=
  if need ≤ c then (m, ⟨n, s, l, c⟩, true)
  else if 64 < need ∨ m.length = 16 then ([], ⟨0, 0, 0, 0⟩, false)
  else (m ++ [wb m n s l ++ List.replicate (max need (min (2 * c) 64) - l) 0], ⟨m.length, 0, l, (max need (min (2 * c) 64) : Nat)⟩, true)

set_option maxRecDepth 100000 in
set_option maxHeartbeats 64000000 in
theorem roomFor_calls (A : Option Addr) (cm : Nat) (m : List (List Int)) (n s l c need : Nat) (w : World) (hr : Rd2 w w.heap.size A m) (hok : MemOK m) (hn : n < m.length) (hlc : l ≤ c) (hsc : s + c ≤ m[n].length) (hneed : need ≤ 4194304) (hln : l ≤ need) :
    Calls Try.prog 121 #[.agg #[.slice A m.length cm], .agg #[.int .i64 n, .int .i64 s, .int .i64 l, .int .i64 c], .int .i64 need] w fun e w' => ∃ v, e = .returned (.tuple #[.agg #[v], .agg #[.int .i64 (roomR m n s l c need).2.1.arr, .int .i64 (roomR m n s l c need).2.1.start, .int .i64 (roomR m n s l c need).2.1.len, .int .i64 (roomR m n s l c need).2.1.cap], .bool (roomR m n s l c need).2.2]) ∧ OwnM w' w.heap.size w'.heap.size v (roomR m n s l c need).1 ∧ Below w.heap.size w w' := by
  obtain ⟨w0, hw0, hb0, hz0, hmw⟩ := enterMWMW A m.length cm n s l c w
  obtain ⟨i0, hi0, hz, hz1, hz2⟩ := info_parts info_u8
  have hszu : (Try.prog.info? 5).map (·.size) = some 1 := by rw [hi0]; simp [hz1]
  have h64 := (hok.2 m[n] (List.getElem_mem hn)).2
  have h1 := (hok.2 m[n] (List.getElem_mem hn)).1
  have h16 := hok.1
  have HOK := Lib.hid hok
  have HB := Lib.hid hb0
  have HR := Lib.hid hr
  have HW := Lib.hid hw0
  have HMW := Lib.hid hmw
  have HA : Hid (∀ W, Below w0.heap.size w0 W → W.cell? ⟨w.heap.size, 0, none⟩ = some (.slice A m.length cm) ∧ W.cell? ⟨w.heap.size + 1, 0, none⟩ = some (.int .i64 n) ∧ W.cell? ⟨w.heap.size + 1, 1, none⟩ = some (.int .i64 s) ∧ W.cell? ⟨w.heap.size + 1, 2, none⟩ = some (.int .i64 l) ∧ W.cell? ⟨w.heap.size + 1, 3, none⟩ = some (.int .i64 c)) := Lib.hid fun W hb => by
    have h := HMW.out.below hb
    obtain ⟨d0, d1, d2, d3⟩ := four_cells h.mw.win
    exact ⟨one_cell h.mw.mem, d0, d1, d2, d3⟩
  have c1 := (HA.out w0 (Below.refl _ _)).1
  have d0 := (HA.out w0 (Below.refl _ _)).2.1
  have d1 := (HA.out w0 (Below.refl _ _)).2.2.1
  have d2 := (HA.out w0 (Below.refl _ _)).2.2.2.1
  have d3 := (HA.out w0 (Below.refl _ _)).2.2.2.2
  have hs0 := hb0.size
  have hc0 := (Below.refl w0.heap.size w0).drew
  by_cases hroom : need ≤ c
  · have hri : (need : Int) ≤ c := by omega
    have HV : Hid (roomR m n s l c need = (m, ⟨n, s, l, c⟩, true)) := Lib.hid (by rw [roomR, if_pos hroom])
    have HCP := Lib.hid (fun W (hb : Below w0.heap.size w0 W) => copyMemory_calls A cm m W ((HR.out.below (HB.out.trans (hb.mono HB.out.size))).more (Nat.le_trans HB.out.size hb.size)) HOK.out)
    clear hr hb0 hmw hw0 hok
    go_enter Try.func121, Try.ntmps121
    go_wp2_with fail
    rw [HW.out]
    go_upto_region 2 with fail
    clear c1 d0 d1 d2 d3
    obtain ⟨c1, d0, d1, d2, d3⟩ := HA.out w0.drew hc0
    go_region_held3 (fun W => W.cell? ⟨w.heap.size, 0, none⟩ = some (.slice A m.length cm) ∧ W.cell? ⟨w.heap.size + 1, 0, none⟩ = some (.int .i64 n) ∧ W.cell? ⟨w.heap.size + 1, 1, none⟩ = some (.int .i64 s) ∧ W.cell? ⟨w.heap.size + 1, 2, none⟩ = some (.int .i64 l) ∧ W.cell? ⟨w.heap.size + 1, 3, none⟩ = some (.int .i64 c))
      (first | (with_reducible exact ⟨c1, d0, d1, d2, d3⟩) | (with_reducible exact HA.out _ hc4) | (have h5 := HA.out _ hc4; (with_reducible exact ⟨kd1 h5.1 (by omega), kd1 h5.2.1 (by omega), kd1 h5.2.2.1 (by omega), kd1 h5.2.2.2.1 (by omega), kd1 h5.2.2.2.2 (by omega)⟩)) | (have h5 := HA.out _ hc4; (with_reducible exact ⟨kc1 h5.1 (by omega), kc1 h5.2.1 (by omega), kc1 h5.2.2.1 (by omega), kc1 h5.2.2.2.1 (by omega), kc1 h5.2.2.2.2 (by omega)⟩)) | (have h5 := HA.out _ hc4; (with_reducible exact ⟨kc5 h5.1 (by omega) (by omega), kc5 h5.2.1 (by omega) (by omega), kc5 h5.2.2.1 (by omega) (by omega), kc5 h5.2.2.2.1 (by omega) (by omega), kc5 h5.2.2.2.2 (by omega) (by omega)⟩)))
      (first | (go_at_call 128; refine (HCP.out _ hc0).mono ?_; rintro e w4 ⟨v, rfl, ho, hb3⟩; obtain ⟨Av, cv, rfl, hcv⟩ := ho.form; have hc4 := hc0.trans hb3; have HO4 := Lib.hid (show OwnM w4 w0.heap.size w4.heap.size (.slice Av m.length cv) m from ho); have HMW4 := Lib.hid (HMW.out.below hc4); have r0 := one_cell HMW4.out.resM; have rf := one_frozen HMW4.out.resM; have qq := four_cells HMW4.out.resW; obtain ⟨q0, q1, q2, q3⟩ := qq; have ff := oneM HMW4.out.resW; obtain ⟨f0, f1, f2, f3⟩ := ff))
    have HB4 := Lib.hid (HB.out.trans (hc4.mono HB.out.size))
    have hs4 : w0.heap.size ≤ w4.heap.size := hc4.size
    clear hb3 hc4 ho
    go_wp2_with fail
    refine bodyPost_ret (v := .tuple #[.agg #[.slice Av m.length cv], .agg #[.int .i64 n, .int .i64 s, .int .i64 l, .int .i64 c], .bool true]) (by simp [results, Try.results121, go_sem, r0, q0, q1, q2, q3]) rfl ⟨_, by rw [HV.out], ?_, by (repeat (first | (with_reducible exact Below.refl _ _) | (with_reducible refine Below.drew ?_) | ((with_reducible refine Below.alloc ?_ ?hB _); case hB => (first | (with_reducible exact Nat.le_refl _) | omega | (simp; done) | (simp; omega))) | ((with_reducible refine Below.setCell ?_ ?hB _); case hB => (first | (with_reducible exact Nat.le_refl _) | omega | (simp; done) | (simp; omega))))); exact HB4.out⟩
    rw [HV.out]
    with_reducible exact own_fin5c HO4.out (by omega) (by omega) (by omega)
  · have hri : ¬ (need : Int) ≤ c := by omega
    obtain ⟨C, hC⟩ : ∃ C, max need (min (2 * c) 64) = C := ⟨_, rfl⟩
    have hCI : (max (need : Int) (min (2 * c) 64)) = (C : Int) := by omega
    have HNA := Lib.hid (fun W (hb : Below w0.heap.size w0 W) => implNewArray_calls A cm m C W ((HR.out.below (HB.out.trans (hb.mono HB.out.size))).more (Nat.le_trans HB.out.size hb.size)) (by simp only [maxLen]; omega))
    have i1 : (0 : Int) ≤ c := by omega
    have i2 : (c : Int) ≤ 64 := by omega
    by_cases hbad : 64 < need ∨ m.length = 16
    · have HV : Hid (roomR m n s l c need = ([], ⟨0, 0, 0, 0⟩, false)) := Lib.hid (by rw [roomR, if_neg hroom, if_pos hbad])
      rw [show newR m C = ([], ⟨0, 0, 0, 0⟩, false) by rw [newR, if_neg (by omega)]] at HNA
      clear hr hb0 hmw hw0 hok
      go_enter Try.func121, Try.ntmps121
      go_wp2_with fail
      rw [HW.out]
      clear c1 d0 d1 d2 d3
      refine (HNA.out _ (Below.refl _ _)).mono ?_
      rintro e w2 ⟨v, rfl, ho, hb2⟩
      obtain ⟨Av, cv, rfl, hcv⟩ := ho.form
      rw [List.length_nil]
      obtain ⟨w3, hw3⟩ : ∃ w3, (w2.alloc (.cells #[.slice Av 0 cv] 31)).alloc (.cells #[.int .i64 0, .int .i64 0, .int .i64 0, .int .i64 0] 33) = w3 := ⟨_, rfl⟩
      have hb3 : Below w2.heap.size w2 w3 := by rw [← hw3]; exact ((Below.refl _ _).alloc (Nat.le_refl _) _).alloc (by simp) _
      have HB3 := Lib.hid ((HB.out.trans (hb2.mono HB.out.size)).trans (hb3.mono (Nat.le_trans HB.out.size hb2.size)))
      have HMW3 := Lib.hid ((HMW.out.below hb2).below hb3)
      have HW3 := Lib.hid hw3
      have r0 := one_cell HMW3.out.resM
      have rf := one_frozen HMW3.out.resM
      obtain ⟨q0, q1, q2, q3⟩ := four_cells HMW3.out.resW
      obtain ⟨f0, f1, f2, f3⟩ := oneM HMW3.out.resW
      clear ho hb2 hb3 hw3 hcv
      go_upto_region 4 with fail
      rw [HW3.out]
      go_wp2_with fail
      refine bodyPost_ret (v := .tuple #[.agg #[.slice none 0 0], .agg #[.int .i64 0, .int .i64 0, .int .i64 0, .int .i64 0], .bool false]) (by simp [results, Try.results121, go_sem, r0, q0, q1, q2, q3]) rfl ⟨_, by rw [HV.out], by rw [HV.out]; exact own_none _ _ _, by (repeat (first | (with_reducible exact Below.refl _ _) | (with_reducible refine Below.drew ?_) | ((with_reducible refine Below.alloc ?_ ?hB _); case hB => (first | (with_reducible exact Nat.le_refl _) | omega | (simp; done) | (simp; omega))) | ((with_reducible refine Below.setCell ?_ ?hB _); case hB => (first | (with_reducible exact Nat.le_refl _) | omega | (simp; done) | (simp; omega))))); exact HB3.out⟩
    · have HV : Hid (roomR m n s l c need = (m ++ [wb m n s l ++ List.replicate (C - l) 0], ⟨m.length, 0, l, C⟩, true)) := Lib.hid (by rw [roomR, if_neg hroom, if_neg hbad, hC])
      have hC1 : 1 ≤ C := by omega
      have hC2 : C ≤ 64 := by omega
      have hC3 : l ≤ C := by omega
      rw [show newR m C = (m ++ [List.replicate C 0], ⟨m.length, 0, C, C⟩, true) by rw [newR, if_pos ⟨HOK.out, by omega, by omega, by omega⟩]; rfl] at HNA
      clear hr hb0 hmw hw0 hok
      go_enter Try.func121, Try.ntmps121
      go_wp2_with fail
      rw [HW.out]
      clear c1 d0 d1 d2 d3
      refine (HNA.out _ (Below.refl _ _)).mono ?_
      rintro e w2 ⟨v, rfl, ho, hb2⟩
      obtain ⟨Av, cv, rfl, hcv⟩ := ho.form
      obtain ⟨m', hm'⟩ : ∃ m', m ++ [List.replicate C (0 : Int)] = m' := ⟨_, rfl⟩
      have hml : m'.length = m.length + 1 := by rw [← hm']; simp
      have hmr : m'[m.length]'(by omega) = List.replicate C 0 := by simp [← hm']
      have hms : ∀ ys, m'.set m.length ys = m ++ [ys] := fun ys => by rw [← hm', List.set_append_right _ _ (Nat.le_refl _)]; simp
      rw [hm'] at ho ⊢
      obtain ⟨r, hrr⟩ : ∃ r, m'[m.length]'(by omega) = r := ⟨_, rfl⟩
      obtain ⟨gb, g, cap, rfl, hgb, hg1, hg2, hg3, hg4, hrow, hcap1, hcap2, hcells, hfr, hro, hset⟩ := ho.row_at (n := m.length) (by omega) (by rw [hmr]; simp; omega)
      rw [hrr] at hmr
      have hrl : r.length = C := by rw [hmr]; simp
      simp only [hrr] at hrow hcap1 hro hset
      obtain ⟨w3, hw3⟩ : ∃ w3, (w2.alloc (.cells #[.slice (some ⟨gb, 0, none⟩) (m.length + 1) cv] 31)).alloc (.cells #[.int .i64 m.length, .int .i64 0, .int .i64 C, .int .i64 C] 33) = w3 := ⟨_, rfl⟩
      have hb3 : Below w2.heap.size w2 w3 := by rw [← hw3]; exact ((Below.refl _ _).alloc (Nat.le_refl _) _).alloc (by simp) _
      have hx1 : w3.heap[w2.heap.size]? = some (.cells #[.slice (some ⟨gb, 0, none⟩) (m.length + 1) cv] 31) := by rw [← hw3]; exact alloc_old _ (heap_alloc_new _ _)
      have hx2 : w3.heap[w2.heap.size + 1]? = some (.cells #[.int .i64 m.length, .int .i64 0, .int .i64 C, .int .i64 C] 33) := by rw [← hw3]; exact heap_alloc_at (by simp)
      have hs2 := hb2.size
      have hs3 : w3.heap.size = w2.heap.size + 2 := by rw [← hw3]; simp
      have HS3 := Lib.hid hs3
      have HB3 := Lib.hid ((HB.out.trans (hb2.mono HB.out.size)).trans (hb3.mono (Nat.le_trans HB.out.size hb2.size)))
      have HB03 := Lib.hid (hb2.trans (hb3.mono hb2.size))
      have HB23 := Lib.hid hb3
      have HMW3 := Lib.hid ((HMW.out.below hb2).below hb3)
      have HX1 := Lib.hid hx1
      have HX2 := Lib.hid hx2
      have HW3 := Lib.hid hw3
      have HRO3 := Lib.hid (own_below hro hb3)
      have HSE := Lib.hid hset
      have HROW := Lib.hid ((hb3.cell (p := ⟨gb, m.length, none⟩) hg3).trans hrow)
      have HMR := Lib.hid hmr
      have HMS := Lib.hid hms
      have HHW := Lib.hid (show (wb m n s l).length = l from wb_len hn (by omega))
      have HC3 : Hid (∀ W, Below w3.heap.size w3 W → W.cell? ⟨w2.heap.size, 0, none⟩ = some (.slice (some ⟨gb, 0, none⟩) (m.length + 1) cv) ∧ W.cell? ⟨w2.heap.size + 1, 0, none⟩ = some (.int .i64 m.length) ∧ W.cell? ⟨w2.heap.size + 1, 1, none⟩ = some (.int .i64 0) ∧ W.cell? ⟨w2.heap.size + 1, 2, none⟩ = some (.int .i64 C) ∧ W.cell? ⟨w2.heap.size + 1, 3, none⟩ = some (.int .i64 C) ∧ W.cell? ⟨w.heap.size, 0, none⟩ = some (.slice A m.length cm) ∧ W.cell? ⟨w.heap.size + 1, 0, none⟩ = some (.int .i64 n) ∧ W.cell? ⟨w.heap.size + 1, 1, none⟩ = some (.int .i64 s) ∧ W.cell? ⟨w.heap.size + 1, 2, none⟩ = some (.int .i64 l) ∧ W.cell? ⟨w.heap.size + 1, 3, none⟩ = some (.int .i64 c)) := Lib.hid fun W hb => by
        obtain ⟨y0, y1, y2, y3⟩ := four_cells ((hb.block _ (by have := HS3.out; omega)).trans HX2.out)
        exact ⟨one_cell ((hb.block _ (by have := HS3.out; omega)).trans HX1.out), y0, y1, y2, y3, HA.out W (HB03.out.trans (hb.mono HB03.out.size))⟩
      have HS1 : Hid (∀ W, Below w3.heap.size w3 W → Calls Try.prog 74 #[.agg #[.slice (some ⟨gb, 0, none⟩) (m.length + 1) cv], .agg #[.int .i64 m.length, .int .i64 0, .int .i64 C, .int .i64 C]] W fun e w' => e = .returned (.slice (some ⟨g, 0, none⟩) C C) ∧ Below W.heap.size W w') := Lib.hid fun W hb => by
        have h := seen_calls gb 0 cv m' m.length 0 C C g 0 cap W (by omega) (by omega) (Nat.le_refl _) (by rw [hrr, hrl]; omega) (by rw [hrr, hrl]; exact hC2) (by rw [hrr]; exact hcap1) hcap2 (by rw [hrr, Nat.zero_add]; exact (hb.cell (p := ⟨gb, m.length, none⟩) (show gb < w3.heap.size by omega)).trans HROW.out) (by have := hb.size; omega)
        rw [hml] at h
        refine h.mono ?_
        rintro e w' ⟨⟨o, rfl, ho⟩, hbw⟩
        obtain rfl := ho (by omega)
        exact ⟨rfl, hbw⟩
      have HS2 := Lib.hid (fun W (hb : Below w3.heap.size w3 W) => seenR_calls A cm m n s l c W ((HR.out.below (HB3.out.trans (hb.mono HB3.out.size))).more (Nat.le_trans HB3.out.size hb.size)) hn h16 hlc hsc h1 h64)
      have HRL := Lib.hid hrl
      have HML := Lib.hid hml
      clear ho hb2 hcells hfr hro hset hrow hb3 hx1 hx2 hw3 hm' hmr hms hs3
      go_upto_region 6 with fail
      rw [HW3.out]
      go_cut [] (fun wx => wx.cell? ⟨w2.heap.size, 0, none⟩ = some (.slice (some ⟨gb, 0, none⟩) (m.length + 1) cv) ∧ wx.cell? ⟨w2.heap.size + 1, 0, none⟩ = some (.int .i64 m.length) ∧ wx.cell? ⟨w2.heap.size + 1, 1, none⟩ = some (.int .i64 0) ∧ wx.cell? ⟨w2.heap.size + 1, 2, none⟩ = some (.int .i64 l) ∧ wx.cell? ⟨w2.heap.size + 1, 3, none⟩ = some (.int .i64 C) ∧ OwnM wx w0.heap.size w2.heap.size (.slice (some ⟨gb, 0, none⟩) (m.length + 1) cv) (m ++ [over r 0 (wb m n s l)]) ∧ Below w0.heap.size w0 wx ∧ w3.heap.size ≤ wx.heap.size)
      case first =>
        have hc0' := (Below.refl w3.heap.size w3).drew
        obtain ⟨a0, a1, a2, a3, a4, a5, a6, a7, a8, a9⟩ := HC3.out w3.drew hc0'
        go_region_with (first
          | (go_at_call 74; (with_reducible refine (HS1.out w3.drew hc0').mono ?_); rintro e w4 ⟨rfl, hb4⟩; have hc4 := hc0'.trans hb4; have hcs4 := HC3.out w4 hc4; obtain ⟨b0, b1, b2, b3, b4, b5, b6, b7, b8, b9⟩ := hcs4)
          | (go_at_call 74; (with_reducible refine (HS2.out w3.drew hc0').mono ?_); rintro e w4 ⟨⟨⟨b5, o5, p5⟩, _, hsp5, rfl, hrd⟩, hb4⟩; obtain rfl : p5 = none := hsp5; have hc4 := hc0'.trans hb4; have hrd4 := (hrd.below hb4).more hb4.size; have hcs4 := HC3.out w4 hc4; obtain ⟨b0, b1, b2, b3, b4, b5, b6, b7, b8, b9⟩ := hcs4)
          | (go_at_call 74; (with_reducible refine (HS2.out w4 hc4).mono ?_); rintro e w5 ⟨⟨⟨b5, o5, p5⟩, _, hsp5, rfl, hrd⟩, hb5⟩; obtain rfl : p5 = none := hsp5; have hc5 := hc4.trans (hb5.mono hc4.size); have HRD := Lib.hid (rd_src (hrd.below hb5)); have HRO5 := Lib.hid (own_below HRO3.out hc5); have hcs5 := HC3.out w5 hc5; obtain ⟨e0, e1, e2, e3, e4, e5, e6, e7, e8, e9⟩ := hcs5; have ef := (hc5.frozen (p := ⟨w2.heap.size + 1, 2, none⟩) (show w2.heap.size + 1 < w3.heap.size by have := HS3.out; omega)).trans (oneM HX2.out).2.2.1; obtain ⟨w6, hcp, hown6, hg6⟩ := run_copy_rowm (P := Try.prog) 64 64 3 Try.underlying64 hszu (some ⟨g, 0, none⟩) (some ⟨b5, o5, none⟩) C C l c g w0.heap.size cap r HRO5.out (by have := HRL.out; omega) 0 (wb m n s l) l HHW.out (by simp [Nat.min_eq_left hC3]) (fun _ => rfl) (by rw [HHW.out]; have := HRL.out; omega) HRD.out; have HO6 := Lib.hid hown6; have HG6 := Lib.hid hg6; have u2 := grown_cell hg6 e3 (by simp; omega); have uf : w6.frozen? ⟨w2.heap.size + 1, 2, none⟩ = false := (frozen_grown hg6 ef (cell_lt e3) (by simp; omega)); clear hown6 hg6)
          | (go_at_call 74; (with_reducible refine (HS1.out w4 hc4).mono ?_); rintro e w5 ⟨rfl, hb5⟩; have hc5 := hc4.trans (hb5.mono hc4.size); have HRD := Lib.hid (rd_src (hrd4.below hb5)); have HRO5 := Lib.hid (own_below HRO3.out hc5); have hcs5 := HC3.out w5 hc5; obtain ⟨e0, e1, e2, e3, e4, e5, e6, e7, e8, e9⟩ := hcs5; have ef := (hc5.frozen (p := ⟨w2.heap.size + 1, 2, none⟩) (show w2.heap.size + 1 < w3.heap.size by have := HS3.out; omega)).trans (oneM HX2.out).2.2.1; obtain ⟨w6, hcp, hown6, hg6⟩ := run_copy_rowm (P := Try.prog) 64 64 3 Try.underlying64 hszu (some ⟨g, 0, none⟩) (some ⟨b5, o5, none⟩) C C l c g w0.heap.size cap r HRO5.out (by have := HRL.out; omega) 0 (wb m n s l) l HHW.out (by simp [Nat.min_eq_left hC3]) (fun _ => rfl) (by rw [HHW.out]; have := HRL.out; omega) HRD.out; have HO6 := Lib.hid hown6; have HG6 := Lib.hid hg6; have u2 := grown_cell hg6 e3 (by simp; omega); have uf : w6.frozen? ⟨w2.heap.size + 1, 2, none⟩ = false := (frozen_grown hg6 ef (cell_lt e3) (by simp; omega)); clear hown6 hg6))
        all_goals (go_wp2_with fail)
        all_goals go_meet
        all_goals (
          have hG := ((grown_of_below HB23.out (some g)).trans (grown_of_below hc5 (some g))).trans HG6.out
          have hO := HSE.out w6 (over r 0 (wb m n s l)) (by rw [over_len (by rw [HHW.out]; have := HRL.out; omega)]) HO6.out hG
          rw [HMS.out, HML.out] at hO
          have hB := (HB03.out.trans (hc5.mono HB03.out.size)).grown HG6.out (by have := HB03.out.size; have := hc5.size; omega) (fun q e => by injection e with e; omega)
          have hz := hc5.size
          have hz6 := HG6.out.size
          have v0 := grown_cell HG6.out e0 (by simp; omega)
          have v1 := grown_cell HG6.out e1 (by simp; omega)
          have v2 := grown_cell HG6.out e2 (by simp; omega)
          have v4 := grown_cell HG6.out e4 (by simp; omega)
          exact ⟨kc1 v0 (by omega), (World.cell?_setCell_other _ _ _ _ (by simp)).trans v1, (World.cell?_setCell_other _ _ _ _ (by simp)).trans v2, set_same u2, (World.cell?_setCell_other _ _ _ _ (by simp)).trans v4, own_setC hO (.inr (by omega)), hB.setCell (by simp; omega) _, by rw [World.size_setCell]; omega⟩)
      case rest =>
        obtain ⟨x6, y0, y1, y2, y3, hom, hb6, hz6⟩ := hcut
        obtain ⟨w6, hw6⟩ : ∃ w6, w6 = wc := ⟨_, rfl⟩
        subst hw6
        have HB6 := Lib.hid (HB.out.trans (hb6.mono HB.out.size))
        have HMW6 := Lib.hid (HMW.out.below hb6)
        have HOM := Lib.hid hom
        have HOV := Lib.hid (show over r 0 (wb m n s l) = wb m n s l ++ List.replicate (C - l) 0 by rw [HMR.out]; unfold over; rw [HHW.out]; simp)
        have hs03 := HB03.out.size
        have hs3 := HS3.out
        have x6d : w6.drew.cell? ⟨w2.heap.size, 0, none⟩ = some (.slice (some ⟨gb, 0, none⟩) (m.length + 1) cv) := x6
        have y0d : w6.drew.cell? ⟨w2.heap.size + 1, 0, none⟩ = some (.int .i64 m.length) := y0
        have y1d : w6.drew.cell? ⟨w2.heap.size + 1, 1, none⟩ = some (.int .i64 0) := y1
        have y2d : w6.drew.cell? ⟨w2.heap.size + 1, 2, none⟩ = some (.int .i64 l) := y2
        have y3d : w6.drew.cell? ⟨w2.heap.size + 1, 3, none⟩ = some (.int .i64 C) := y3
        have r0 := one_cell HMW6.out.resM
        have rf := one_frozen HMW6.out.resM
        obtain ⟨q0, q1, q2, q3⟩ := four_cells HMW6.out.resW
        obtain ⟨f0, f1, f2, f3⟩ := oneM HMW6.out.resW
        clear hom hb6
        have HS3b := Lib.hid hs3
        clear hs3
        go_wp2_with fail
        go_region_held3 (fun W => W.cell? ⟨w2.heap.size, 0, none⟩ = some (.slice (some ⟨gb, 0, none⟩) (m.length + 1) cv) ∧ W.cell? ⟨w2.heap.size + 1, 0, none⟩ = some (.int .i64 m.length) ∧ W.cell? ⟨w2.heap.size + 1, 1, none⟩ = some (.int .i64 0) ∧ W.cell? ⟨w2.heap.size + 1, 2, none⟩ = some (.int .i64 l) ∧ W.cell? ⟨w2.heap.size + 1, 3, none⟩ = some (.int .i64 C))
          (first | (with_reducible exact ⟨x6d, y0d, y1d, y2d, y3d⟩) | (with_reducible exact ⟨kd1 x6 (by omega), kd1 y0 (by omega), kd1 y1 (by omega), kd1 y2 (by omega), kd1 y3 (by omega)⟩) | (with_reducible exact ⟨kd5 x6 (by omega) (by omega), kd5 y0 (by omega) (by omega), kd5 y1 (by omega) (by omega), kd5 y2 (by omega) (by omega), kd5 y3 (by omega) (by omega)⟩) | (with_reducible exact ⟨kd4 x6 (by omega), kd4 y0 (by omega), kd4 y1 (by omega), kd4 y2 (by omega), kd4 y3 (by omega)⟩)) (fail)
        go_wp2_with fail
        refine bodyPost_ret (v := .tuple #[.agg #[.slice (some ⟨gb, 0, none⟩) (m.length + 1) cv], .agg #[.int .i64 m.length, .int .i64 0, .int .i64 l, .int .i64 C], .bool true]) (by simp [results, Try.results121, go_sem, r0, q0, q1, q2, q3]) rfl ⟨_, by rw [HV.out], ?_, by (repeat (first | (with_reducible exact Below.refl _ _) | (with_reducible refine Below.drew ?_) | ((with_reducible refine Below.alloc ?_ ?hB _); case hB => (first | (with_reducible exact Nat.le_refl _) | omega | (simp; done) | (simp; omega))) | ((with_reducible refine Below.setCell ?_ ?hB _); case hB => (first | (with_reducible exact Nat.le_refl _) | omega | (simp; done) | (simp; omega))))); exact HB6.out⟩
        rw [HV.out, ← HOV.out]
        with_reducible exact own_fin5 (HOM.out.mono (Nat.le_refl _) (by have := HS3b.out; omega)) (by omega) (by omega) (by omega)
end Go.Proofs.Ytoelagfcapdfpaa
