/-
  Bytes put: PutBytes of impl.
-/
import Derived.Test.YtkclpppnjfhbpaaGpG
import Derived.Test.YtkclpppnjfhbpaaGpF
import Derived.Test.YtkclpppnjfhbpaaGpA
import Derived.Test.YtkclpppnjfhbpaaMeet
import Derived.Deep.RegionLaw
namespace Go.Proofs.Ytkclpppnjfhbpaa
open Go.RowKit

theorem meetH_new {w3 w5 : World} {lo : Nat} {A : Option Addr} {k : Nat} {R : List (List Int)} {y : Gp} (ho : OwnM w5 lo w5.heap.size (.slice A R.length k) R) (hc : Below w3.heap.size w3 w5) (h1 : w3.heap.size ≤ lo) (h2 : lo ≤ w5.heap.size) :
    ∃ (g lo hi : Nat) (v : Value), Value.pointer (some ⟨w5.heap.size, 0, none⟩) = .pointer (some ⟨g, 0, none⟩) ∧ GBox (w5.alloc (.cells #[.slice A R.length k, .int .i64 y.w.arr, .int .i64 y.w.start, .int .i64 y.w.len, .int .i64 y.w.cap, .int .i64 y.fr, .int .i64 y.up] 34)) w3.heap.size g lo hi v R y ∧ Below w3.heap.size w3 (w5.alloc (.cells #[.slice A R.length k, .int .i64 y.w.arr, .int .i64 y.w.start, .int .i64 y.w.len, .int .i64 y.w.cap, .int .i64 y.fr, .int .i64 y.up] 34)) :=
  ⟨w5.heap.size, lo, w5.heap.size, _, rfl, GBox.mk' (heap_alloc_new _ _) (ho.below ((Below.refl _ _).alloc (Nat.le_refl _) _)) hc.size h1 (by simp) (by simp; omega) (.inr (Nat.le_refl _)), hc.alloc hc.size _⟩
theorem meetH_old {w3 w5 : World} {lo g0 : Nat} {A : Option Addr} {k : Nat} {R : List (List Int)} {y : Gp} {u0 u1 u2 u3 u4 u5 u6 : Value} (ho : OwnM w5 lo w5.heap.size (.slice A R.length k) R) (hc : Below w3.heap.size w3 w5) (hz : w5.heap[g0]? = some (.cells #[u0, u1, u2, u3, u4, u5, u6] 34)) (h1 : w3.heap.size ≤ g0) (h2 : g0 < lo) (h3 : lo ≤ w5.heap.size) :
    ∃ (g lo hi : Nat) (v : Value), Value.pointer (some ⟨g0, 0, none⟩) = .pointer (some ⟨g, 0, none⟩) ∧ GBox (((((((w5.setCell ⟨g0, 0, none⟩ (.slice A R.length k)).setCell ⟨g0, 1, none⟩ (.int .i64 y.w.arr)).setCell ⟨g0, 2, none⟩ (.int .i64 y.w.start)).setCell ⟨g0, 3, none⟩ (.int .i64 y.w.len)).setCell ⟨g0, 4, none⟩ (.int .i64 y.w.cap)).setCell ⟨g0, 5, none⟩ (.int .i64 y.fr)).setCell ⟨g0, 6, none⟩ (.int .i64 y.up)) w3.heap.size g lo hi v R y ∧
      Below w3.heap.size w3 (((((((w5.setCell ⟨g0, 0, none⟩ (.slice A R.length k)).setCell ⟨g0, 1, none⟩ (.int .i64 y.w.arr)).setCell ⟨g0, 2, none⟩ (.int .i64 y.w.start)).setCell ⟨g0, 3, none⟩ (.int .i64 y.w.len)).setCell ⟨g0, 4, none⟩ (.int .i64 y.w.cap)).setCell ⟨g0, 5, none⟩ (.int .i64 y.fr)).setCell ⟨g0, 6, none⟩ (.int .i64 y.up)) :=
  ⟨g0, lo, w5.heap.size, _, rfl, GBox.mk' (gap_set hz) (own_seven ho (.inl h2)) h1 (by omega) (by rw [size_seven]; exact Nat.le_refl _) (by rw [size_seven]; exact h3) (.inl h2), ((((((hc.setCell h1 _).setCell h1 _).setCell h1 _).setCell h1 _).setCell h1 _).setCell h1 _).setCell h1 _⟩

theorem src_cells {w : World} {B : Nat} {LA : Option Addr} {xs : List Int} (h : Rd w B LA (intV .u8 xs)) : 0 < xs.length → ∃ ad, LA = some ad ∧ ∀ j v, (intV .u8 xs)[j]? = some v → w.cell? (ad.add j) = some v := by
  intro h0
  have h2 := h
  rcases h2 with h3 | ⟨b', off, e, hb', hc⟩
  · have h4 := congrArg List.length h3
    simp [intV] at h4
    rw [h4] at h0
    cases h0
  · subst e
    exact ⟨_, rfl, rd_cells h⟩
set_option maxRecDepth 100000 in
set_option maxHeartbeats 6400000 in
theorem implPut_ok (A : Option Addr) (cm : Nat) (m : List (List Int)) (g : Gp) (LA : Option Addr) (lc : Nat) (xs : List Int) (w : World) (hr : Rd2 w w.heap.size A m) (hn : m.length ≤ maxLen) (hok : GpOK m g) (hx : GArgW g) (hx1 : xs.length ≤ lc) (hx2 : xs.length ≤ 2097152) (hl : Rd w w.heap.size LA (intV .u8 xs)) :
    Calls Try.prog 42 #[.agg #[.slice A m.length cm, .int .i64 g.w.arr, .int .i64 g.w.start, .int .i64 g.w.len, .int .i64 g.w.cap, .int .i64 g.fr, .int .i64 g.up], .slice LA xs.length lc] w fun e w' => ∃ v, e = .returned (.tuple #[.agg #[v, .int .i64 (putW m g xs).2.1.w.arr, .int .i64 (putW m g xs).2.1.w.start, .int .i64 (putW m g xs).2.1.w.len, .int .i64 (putW m g xs).2.1.w.cap, .int .i64 (putW m g xs).2.1.fr, .int .i64 (putW m g xs).2.1.up], .bool (putW m g xs).2.2]) ∧ OwnM w' w.heap.size w'.heap.size v (putW m g xs).1 ∧ Below w.heap.size w w' := by
  obtain ⟨w0, hw0, hb0, hz0, hgg⟩ := enterGG A m.length cm g w
  have HC := Lib.hid (implIsGap_calls A cm m g w0 ((hr.below hb0).more hb0.size) hn hx)
  rw [decide_eq_true hok] at HC
  have HR := Lib.hid hr
  have HL := Lib.hid hl
  have HB := Lib.hid hb0
  have HW := Lib.hid hw0
  have HGG := Lib.hid hgg
  have HXX := Lib.hid hx
  have HOK := Lib.hid hok
  have hlr0 : w.heap.size + 2 ≤ w0.heap.size := by omega
  obtain ⟨c0, d0, d1, d2, d3, d4, d5⟩ := gap_cells hgg.par
  obtain ⟨d, hd⟩ : ∃ d : Nat, g.fr + d = g.up := ⟨(g.up - g.fr).toNat, by have := hok.2; omega⟩
  have hfb : 0 ≤ g.fr ∧ g.up ≤ 64 := by
    obtain ⟨_, _, _, _, _, _, hc0, hc1, hlc, hsc⟩ := hok.1.small
    have h := hok.2
    omega
  obtain ⟨k, hk⟩ : ∃ k, xs.length - (g.up.toNat - g.fr.toNat) = k := ⟨_, rfl⟩
  obtain ⟨R, y, ok, hwd⟩ : ∃ R y ok, widenW m g k = (R, y, ok) := ⟨_, _, _, rfl⟩
  have HMV : Hid (∀ W, Below w.heap.size w W → Calls Try.prog 39 #[.agg #[.slice A m.length cm, .int .i64 g.w.arr, .int .i64 g.w.start, .int .i64 g.w.len, .int .i64 g.w.cap, .int .i64 g.fr, .int .i64 g.up], .int .i64 (max ((xs.length : Int) - d) 0)] W fun e w' => ∃ v, e = .returned (.tuple #[.agg #[v, .int .i64 y.w.arr, .int .i64 y.w.start, .int .i64 y.w.len, .int .i64 y.w.cap, .int .i64 y.fr, .int .i64 y.up], .bool ok]) ∧ OwnM w' W.heap.size w'.heap.size v R ∧ Below W.heap.size W w') := Lib.hid (fun W hb => by
    have h := implWidenGap_calls A cm m g k W ((HR.out.below hb).more hb.size) hn HXX.out
    rw [widenGapR, if_pos ⟨HOK.out, by omega⟩, Int.toNat_natCast, hwd] at h
    rw [show max ((xs.length : Int) - d) 0 = (k : Int) by omega]
    exact h)
  have HLEN : Hid (∀ W, Calls Try.prog 97 #[.agg #[.slice A m.length cm, .int .i64 g.w.arr, .int .i64 g.w.start, .int .i64 g.w.len, .int .i64 g.w.cap, .int .i64 g.fr, .int .i64 g.up]] W fun e w' => e = .returned (.int .i64 d) ∧ Below W.heap.size W w') := Lib.hid (fun W => by
    have h := hole_calls A m.length cm g W (by omega) (by omega)
    rw [show g.up - g.fr = (d : Int) by omega] at h
    exact h)
  have hwz : IntKind.i64.wrap ((xs.length : Int) - d) = (xs.length : Int) - d := IntWalk.i64_in _ (by omega)
  have HD := Lib.hid hd
  have HK := Lib.hid hk
  have HWD := Lib.hid hwd
  have HFB := Lib.hid hfb
  clear hr hb0 hw0 hgg hok hx hl hz0 hd hk hwd hfb
  go_enter Try.func42, Try.ntmps42
  go_wp2_with fail
  rw [HW.out]
  refine HC.out.mono ?_
  rintro e w3 ⟨rfl, hb3⟩
  have HB3 := Lib.hid (HB.out.trans (hb3.mono HB.out.size))
  have HG3 := Lib.hid (HGG.out.below hb3)
  have hs0 := HB3.out.size
  have hs03 := hb3.size
  clear hb3 c0 d0 d1 d2 d3 d4 d5
  have HA3 := Lib.hid (fun (W : World) (hb : Below w3.heap.size w3 W) => gap_cells (HG3.out.below hb).par)
  have hcd : Below w3.heap.size w3 w3.drew := (Below.refl _ _).drew
  have hca : Below w3.heap.size w3 (w3.alloc (.cells #[.slice none 0 0, .int .i64 0, .int .i64 0, .int .i64 0, .int .i64 0, .int .i64 0, .int .i64 0] 34)).drew := ((Below.refl _ _).alloc (Nat.le_refl _) _).drew
  go_upto_region 3 with fail
  go_cut [6, 7] (fun s6 s7 wx => ∃ (g5 lo5 hi5 : Nat) (v5 : Value), s6 = .pointer (some ⟨g5, 0, none⟩) ∧ s7 = .bool ok ∧ GBox wx w3.heap.size g5 lo5 hi5 v5 R y ∧ Below w3.heap.size w3 wx)
  case first =>
    go_region_held3 (fun W => W.cell? ⟨w.heap.size, 0, none⟩ = some (.slice A m.length cm) ∧ W.cell? ⟨w.heap.size, 1, none⟩ = some (.int .i64 g.w.arr) ∧ W.cell? ⟨w.heap.size, 2, none⟩ = some (.int .i64 g.w.start) ∧ W.cell? ⟨w.heap.size, 3, none⟩ = some (.int .i64 g.w.len) ∧ W.cell? ⟨w.heap.size, 4, none⟩ = some (.int .i64 g.w.cap) ∧ W.cell? ⟨w.heap.size, 5, none⟩ = some (.int .i64 g.fr) ∧ W.cell? ⟨w.heap.size, 6, none⟩ = some (.int .i64 g.up))
      (first | (with_reducible exact HA3.out _ hcd) | (with_reducible exact HA3.out _ hca) | (with_reducible exact HA3.out _ hc5) | (with_reducible exact HA3.out _ hc5z) | (with_reducible exact HA3.out _ hc5v) | (with_reducible exact HA3.out _ hc4) | (with_reducible exact HA3.out _ hc4z) | (with_reducible exact HA3.out _ hc5s))
      (first | (go_at_call 97; (with_reducible refine (HLEN.out w3.drew).mono ?_); rintro e w4 ⟨rfl, hb4⟩; have hc4 : Below w3.heap.size w3 w4 := hcd.trans hb4; have hc4z := hc4.alloc hc4.size (.cells #[.slice none 0 0, .int .i64 0, .int .i64 0, .int .i64 0, .int .i64 0, .int .i64 0, .int .i64 0] 34); have hs34 := hc4.size) | (go_at_call 97; (with_reducible refine (HLEN.out (w3.alloc (.cells #[.slice none 0 0, .int .i64 0, .int .i64 0, .int .i64 0, .int .i64 0, .int .i64 0, .int .i64 0] 34)).drew).mono ?_); rintro e w4 ⟨rfl, hb4⟩; have hc4 : Below w3.heap.size w3 w4 := hca.trans (hb4.mono hca.size); have HZ4 := Lib.hid (show w4.heap[w3.heap.size]? = some (.cells #[.slice none 0 0, .int .i64 0, .int .i64 0, .int .i64 0, .int .i64 0, .int .i64 0, .int .i64 0] 34) from box_new_d hb4); have hg4 := al_led hb4; have hs34 := hc4.size) | (go_at_call 39; have hq4 := HZ4.out; (with_reducible refine (HMV.out w4 (HB3.out.trans (hc4.mono hs0))).mono ?_); rintro e w5 ⟨v5, rfl, ho5, hb5⟩; obtain ⟨AM, kM, rfl, hkM⟩ := ho5.form; have hc5 : Below w3.heap.size w3 w5 := hc4.trans (hb5.mono hc4.size); have hs45 := hb5.size; have HZ5 := Lib.hid ((hb5.block _ (Array.getElem?_eq_some_iff.1 hq4).1).trans hq4); have HM5 := Lib.hid (fun (_ : True) => meetH_old (y := y) ho5 hc5 HZ5.out (Nat.le_refl _) hg4 hs45); obtain ⟨y0, y1, y2, y3, y4, y5, y6⟩ := gap_cells HZ5.out; obtain ⟨z0, z1, z2, z3, z4, z5, z6⟩ := gap_frozen HZ5.out; have hc5s := (((((((hc5.setCell (p := ⟨w3.heap.size, 0, none⟩) (Nat.le_refl _) (.slice AM R.length kM)).setCell (p := ⟨w3.heap.size, 1, none⟩) (Nat.le_refl _) (.int .i64 y.w.arr)).setCell (p := ⟨w3.heap.size, 2, none⟩) (Nat.le_refl _) (.int .i64 y.w.start)).setCell (p := ⟨w3.heap.size, 3, none⟩) (Nat.le_refl _) (.int .i64 y.w.len)).setCell (p := ⟨w3.heap.size, 4, none⟩) (Nat.le_refl _) (.int .i64 y.w.cap)).setCell (p := ⟨w3.heap.size, 5, none⟩) (Nat.le_refl _) (.int .i64 y.fr)).setCell (p := ⟨w3.heap.size, 6, none⟩) (Nat.le_refl _) (.int .i64 y.up))) | (go_at_call 39; (with_reducible refine (HMV.out w4 (HB3.out.trans (hc4.mono hs0))).mono ?_); rintro e w5 ⟨v5, rfl, ho5, hb5⟩; obtain ⟨AM, kM, rfl, hkM⟩ := ho5.form; have hc5 : Below w3.heap.size w3 w5 := hc4.trans (hb5.mono hc4.size); have hs45 := hb5.size; have hc5z := hc5.alloc hc5.size (.cells #[.slice none 0 0, .int .i64 0, .int .i64 0, .int .i64 0, .int .i64 0, .int .i64 0, .int .i64 0] 34); have hc5v := hc5.alloc hc5.size (.cells #[.slice AM R.length kM, .int .i64 y.w.arr, .int .i64 y.w.start, .int .i64 y.w.len, .int .i64 y.w.cap, .int .i64 y.fr, .int .i64 y.up] 34); have HM5 := Lib.hid (fun (_ : True) => meetH_new (y := y) ho5 hc5 hs34 hs45)) | (go_at_call 39; (with_reducible refine (HMV.out (w4.alloc (.cells #[.slice none 0 0, .int .i64 0, .int .i64 0, .int .i64 0, .int .i64 0, .int .i64 0, .int .i64 0] 34)) (HB3.out.trans (hc4z.mono hs0))).mono ?_); rintro e w5 ⟨v5, rfl, ho5, hb5⟩; obtain ⟨AM, kM, rfl, hkM⟩ := ho5.form; have hc5 : Below w3.heap.size w3 w5 := hc4z.trans (hb5.mono hc4z.size); have hs45 := al_le hb5; have HZ5 := Lib.hid (show w5.heap[w4.heap.size]? = some (.cells #[.slice none 0 0, .int .i64 0, .int .i64 0, .int .i64 0, .int .i64 0, .int .i64 0, .int .i64 0] 34) from box_new hb5); have HM5 := Lib.hid (fun (_ : True) => meetH_old (y := y) (own_al ho5) hc5 HZ5.out hs34 (Nat.lt_succ_self _) hs45); obtain ⟨y0, y1, y2, y3, y4, y5, y6⟩ := gap_cells HZ5.out; obtain ⟨z0, z1, z2, z3, z4, z5, z6⟩ := gap_frozen HZ5.out; have hc5s := (((((((hc5.setCell (p := ⟨w4.heap.size, 0, none⟩) hs34 (.slice AM R.length kM)).setCell (p := ⟨w4.heap.size, 1, none⟩) hs34 (.int .i64 y.w.arr)).setCell (p := ⟨w4.heap.size, 2, none⟩) hs34 (.int .i64 y.w.start)).setCell (p := ⟨w4.heap.size, 3, none⟩) hs34 (.int .i64 y.w.len)).setCell (p := ⟨w4.heap.size, 4, none⟩) hs34 (.int .i64 y.w.cap)).setCell (p := ⟨w4.heap.size, 5, none⟩) hs34 (.int .i64 y.fr)).setCell (p := ⟨w4.heap.size, 6, none⟩) hs34 (.int .i64 y.up))))
    all_goals (go_wp2_with fail)
    all_goals go_meet
    all_goals (obtain ⟨q1, q2, q3, q4, q5, q6, q7⟩ := HM5.out True.intro; with_reducible exact ⟨q1, q2, q3, q4, q5, rfl, q6, q7⟩)
  case rest =>
    obtain ⟨g5, lo5, hi5, v5, rfl, rfl, hm5, hb5⟩ := hcut
    obtain ⟨w5, hw5⟩ : ∃ w5, w5 = wc := ⟨_, rfl⟩
    subst hw5
    obtain ⟨A5, k5, rfl, hk5⟩ := hm5.own.form
    have HM5 := Lib.hid hm5
    have HB5 := Lib.hid (HB3.out.trans (hb5.mono hs0))
    have HG5 := Lib.hid (HG3.out.below hb5)
    have hs5 := hb5.size
    clear hm5 hb5 hk5 hcd hca hwz
    obtain ⟨n, s, l, c, a, b, hnl, hge, hab, _⟩ := HOK.out.nat
    have hpc := put_cases xs (hge ▸ HOK.out)
    have hkk : xs.length - (b - a) = k := by have h := HK.out; rw [hge] at h; simpa using h
    rcases hpc with ⟨hno, hval⟩ | ⟨R2, n', s', c', L, q, R', p, hw⟩
    · rw [← hge] at hno hval
      rw [hkk, HWD.out] at hno
      simp only [Prod.mk.injEq] at hno
      obtain ⟨_, _, ho⟩ := hno
      subst ho
      have HV := Lib.hid hval
      clear hval hge
      obtain ⟨r0, r1, r2, r3, r4, r5, r6⟩ := gap_cells HG5.out.res
      obtain ⟨f0, f1, f2, f3, f4, f5, f6⟩ := gap_frozen HG5.out.res
      go_wp2_with fail
      refine bodyPost_ret (v := .tuple #[.agg #[.slice none 0 0, .int .i64 0, .int .i64 0, .int .i64 0, .int .i64 0, .int .i64 0, .int .i64 0], .bool false]) (by simp [results, Try.results42, go_sem, r0, r1, r2, r3, r4, r5, r6]) rfl ⟨_, by rw [HV.out]; rfl, by rw [HV.out]; exact own_none _ _ _, by (repeat (first | (with_reducible exact Below.refl _ _) | (with_reducible refine Below.drew ?_) | ((with_reducible refine Below.alloc ?_ ?hB _); case hB => (first | (with_reducible exact Nat.le_refl _) | omega | (simp; done) | (simp; omega))) | ((with_reducible refine Below.setCell ?_ ?hB _); case hB => (first | (with_reducible exact Nat.le_refl _) | omega | (simp; done) | (simp; omega))))); exact HB5.out⟩
    · have hwid := hw.wid
      have hval := hw.val
      rw [← hge] at hwid hval
      rw [hkk, HWD.out] at hwid
      simp only [Prod.mk.injEq] at hwid
      obtain ⟨hR, hy, ho⟩ := hwid
      subst ho
      subst hy
      subst hR
      have HF := Lib.hid hw
      have HV := Lib.hid hval
      have HRES := Lib.hid hw.res
      have hp := hw.hp
      have hn' := hw.hn
      have hq1 := hw.lc
      have hq2 := hw.sc
      have hq3 := hw.ql
      have hq4 := hw.fit
      have h16' := hw.ok.1
      have h64' := (hw.ok.2 _ (List.getElem_mem hn')).2
      have h1m' := (hw.ok.2 _ (List.getElem_mem hn')).1
      have HX5' : Hid (w5.heap[g5]? = some (.cells #[.slice A5 R.length k5, .int .i64 n', .int .i64 s', .int .i64 L, .int .i64 c', .int .i64 a, .int .i64 q] 34)) := Lib.hid HM5.out.box
      obtain ⟨gb, gr, cap, rfl, hgb, hg1, hg2, hg3, hg4, hrow, hcap1, hcap2, hcells, hfr, hro, hset⟩ := HM5.out.own.row_at hn' h1m'
      have HRO := Lib.hid hro
      have HRW := Lib.hid hrow
      have HSE := Lib.hid hset
      have HOU := Lib.hid HM5.out.out
      have hgb5 := HM5.out.gW
      have hlo5 := HM5.out.blo
      have hhi5 := HM5.out.hiW
      have hbg5 := HM5.out.bg
      have hgne : g5 ≠ gr := by have := HM5.out.out; omega
      have hgnr : w.heap.size + 1 ≠ gr := by omega
      have hgrw : w.heap.size ≤ gr := by omega
      have hgw : w.heap.size ≤ g5 := by omega
      have hg1w : w.heap.size + 1 ≠ g5 := by omega
      obtain ⟨gb5, hgbe⟩ : ∃ x, x = g5 := ⟨_, rfl⟩
      subst hgbe
      have HX5 := HX5'
      clear HX5' hval hge hcells hfr hro hrow hset
      have HST := Lib.hid (stored_calls gb 0 k5 R n' s' L c' a q gr 0 cap w5.drew hn' h16' hq1 hq2 h64' hcap1 hcap2 (by rw [Nat.zero_add]; exact HRW.out) hg3)
      obtain ⟨x0, x1, x2, x3, x4, x5, x6⟩ := gap_cells (block_drew HX5.out)
      have hszu : (Try.prog.info? 5).map (·.size) = some 1 := by kernel_rfl
      have i0 : (0 : Int) ≤ (a : Int) := by omega
      have i1 : (a : Int) ≤ (q : Int) := by omega
      have i2 : (q : Int) ≤ (c' : Int) := by omega
      have hwp : IntKind.i64.wrap ((a : Int) + xs.length) = p := by rw [show (a : Int) + xs.length = p by omega]; exact IntWalk.i64_in _ (by omega)
      go_upto_region 6 with fail
      rcases (show a < c' ∨ (c' = a ∧ q = a ∧ L = a ∧ p = a ∧ xs.length = 0) by omega) with h1 | ⟨h1, h2, h3, h4, h5⟩
      · skip
        have hca : ¬ c' = a := by omega
        have HFIT := Lib.hid (show s' + a + xs.length ≤ R[n'].length by omega)
        have HHN : Hid (xs.length = Nat.min xs.length (q - a)) := Lib.hid (by show xs.length = min xs.length (q - a); omega)
        have H10 : Hid (∀ W, Below w5.heap.size w5.drew W → (Below w5.heap.size w5 W ∧ W.heap[gb5]? = some (.cells #[.slice (some ⟨gb, 0, none⟩) R.length k5, .int .i64 n', .int .i64 s', .int .i64 L, .int .i64 c', .int .i64 a, .int .i64 q] 34) ∧ W.ownsRow lo5 5 1 (.slice (some ⟨gr, 0, none⟩) R[n'].length cap) R[n'].length (intV .u8 R[n']) ∧ (0 < xs.length → ∃ ad, LA = some ad ∧ ∀ j v, (intV .u8 xs)[j]? = some v → W.cell? (ad.add j) = some v)) ∧ W.cell? ⟨gb5, 0, none⟩ = some (.slice (some ⟨gb, 0, none⟩) R.length k5) ∧ W.cell? ⟨gb5, 1, none⟩ = some (.int .i64 n') ∧ W.cell? ⟨gb5, 2, none⟩ = some (.int .i64 s') ∧ W.cell? ⟨gb5, 3, none⟩ = some (.int .i64 L) ∧ W.cell? ⟨gb5, 4, none⟩ = some (.int .i64 c') ∧ W.cell? ⟨gb5, 5, none⟩ = some (.int .i64 a) ∧ W.cell? ⟨gb5, 6, none⟩ = some (.int .i64 q)) := Lib.hid (fun W hb => by
          have hc10 : Below w5.heap.size w5 W := (Below.refl _ _).drew.trans hb
          have hx := (hc10.block _ hgb5).trans HX5.out
          exact ⟨⟨hc10, hx, own_below HRO.out hc10, src_cells ((HL.out.below (HB5.out.trans (hc10.mono HB5.out.size))).more (Nat.le_trans HB5.out.size hc10.size))⟩, gap_cells hx⟩)
        have H11 : Hid (∀ W W', Below w5.heap.size w5 W → W.heap[gb5]? = some (.cells #[.slice (some ⟨gb, 0, none⟩) R.length k5, .int .i64 n', .int .i64 s', .int .i64 L, .int .i64 c', .int .i64 a, .int .i64 q] 34) → W'.ownsRow lo5 5 1 (.slice (some ⟨gr, 0, none⟩) R[n'].length cap) R[n'].length (intV .u8 (over R[n'] (s' + a) xs)) → W.grownBy W' (some gr) → (W'.setCell ⟨gb5, 5, none⟩ (.int .i64 p) |> fun W => W.heap[gb5]? = some (.cells #[.slice (some ⟨gb, 0, none⟩) R.length k5, .int .i64 n', .int .i64 s', .int .i64 L, .int .i64 c', .int .i64 p, .int .i64 q] 34) ∧ OwnM W lo5 hi5 (.slice (some ⟨gb, 0, none⟩) R.length k5) R' ∧ Below w.heap.size w W ∧ W.heap[w.heap.size + 1]? = some (.cells #[.slice none 0 0, .int .i64 0, .int .i64 0, .int .i64 0, .int .i64 0, .int .i64 0, .int .i64 0] 34) ∧ w5.heap.size ≤ W.heap.size) ∧ W'.frozen? ⟨gb5, 5, none⟩ = false ∧ W'.cell? ⟨gb5, 0, none⟩ = some (.slice (some ⟨gb, 0, none⟩) R.length k5) ∧ W'.cell? ⟨gb5, 1, none⟩ = some (.int .i64 n') ∧ W'.cell? ⟨gb5, 2, none⟩ = some (.int .i64 s') ∧ W'.cell? ⟨gb5, 3, none⟩ = some (.int .i64 L) ∧ W'.cell? ⟨gb5, 4, none⟩ = some (.int .i64 c') ∧ W'.cell? ⟨gb5, 5, none⟩ = some (.int .i64 a) ∧ W'.cell? ⟨gb5, 6, none⟩ = some (.int .i64 q)) := Lib.hid (fun W W' hb hx hown hg => by
          have hx2 := grown_block hg hx hgne
          have hG := (HG5.out.below hb)
          have hB := HB5.out.trans (hb.mono HB5.out.size)
          obtain ⟨_, _, _, _, _, hf, _⟩ := gap_frozen hx2
          refine ⟨⟨by simpa using cells_put (i := 5) (v := .int .i64 (p : Nat)) hx2, ?_, ?_, ?_, ?_⟩, hf, gap_cells hx2⟩
          · rw [HRES.out]
            exact own_setC (HSE.out W' _ (over_len HFIT.out) hown ((grown_of_below hb (some gr)).trans hg)) HOU.out
          · exact (grown_below hB hB.size hg hgrw).setCell hgw _
          · exact keep_set (grown_block hg hG.res hgnr) hg1w
          · rw [World.size_setCell]; exact Nat.le_trans hb.size hg.size)
        go_cut [] (fun W => W.heap[gb5]? = some (.cells #[.slice (some ⟨gb, 0, none⟩) R.length k5, .int .i64 n', .int .i64 s', .int .i64 L, .int .i64 c', .int .i64 p, .int .i64 q] 34) ∧ OwnM W lo5 hi5 (.slice (some ⟨gb, 0, none⟩) R.length k5) R' ∧ Below w.heap.size w W ∧ W.heap[w.heap.size + 1]? = some (.cells #[.slice none 0 0, .int .i64 0, .int .i64 0, .int .i64 0, .int .i64 0, .int .i64 0, .int .i64 0] 34) ∧ w5.heap.size ≤ W.heap.size)
        case first =>
          go_region_law (first | (go_simp; go_at_call 91; (with_reducible refine HST.out.mono ?_); rintro e w10 ⟨⟨ov, rfl, hov⟩, hb10⟩; have hov1 := hov (by omega); have hovs : s' = ov := (by omega); subst hovs; clear hov1; obtain ⟨HF10, y0, y1, y2, y3, y4, y5, y6⟩ := H10.out w10 hb10; have HZ10 := Lib.hid HF10; clear HF10 hb10 hov) | (refine step_copy_row0 (by rfl) _ _ 46 46 (by rfl) Try.underlying46 hszu (some ⟨gr, s' + a, none⟩) LA (q - a) (c' - a) xs.length lc (by rfl) (by rfl) gr lo5 cap R[n'] HZ10.out.2.2.1 (s' + a) xs xs.length rfl HHN.out (fun _ => rfl) HFIT.out HZ10.out.2.2.2 ?_; intro w11 hown11 hg11; obtain ⟨HFN, zf5, z0, z1, z2, z3, z4, z5, z6⟩ := H11.out _ w11 HZ10.out.1 HZ10.out.2.1 hown11 hg11; have HFIN := Lib.hid HFN; clear HFN hown11 hg11))
          all_goals (go_wp2_with fail)
          all_goals go_meet
          all_goals (with_reducible exact HFIN.out)
        case rest =>
          obtain ⟨w11, hw11⟩ : ∃ w11, w11 = wc := ⟨_, rfl⟩
          subst hw11
          obtain ⟨hx11, ho11, hb11, hr11, hs11⟩ := hcut
          have HO11 := Lib.hid ho11
          have HB11 := Lib.hid hb11
          obtain ⟨z0, z1, z2, z3, z4, z5, z6⟩ := gap_cells hx11
          obtain ⟨r0, r1, r2, r3, r4, r5, r6⟩ := gap_cells hr11
          obtain ⟨f0, f1, f2, f3, f4, f5, f6⟩ := gap_frozen hr11
          clear hx11 ho11 hb11 hr11 x0 x1 x2 x3 x4 x5 x6
          go_wp2_with fail
          refine bodyPost_ret (v := .tuple #[.agg #[.slice (some ⟨gb, 0, none⟩) R.length k5, .int .i64 n', .int .i64 s', .int .i64 L, .int .i64 c', .int .i64 p, .int .i64 q], .bool true]) (by simp [results, Try.results42, go_sem, r0, r1, r2, r3, r4, r5, r6]) rfl ⟨_, by rw [HV.out], ?_, by (repeat (first | (with_reducible exact Below.refl _ _) | (with_reducible refine Below.drew ?_) | ((with_reducible refine Below.alloc ?_ ?hB _); case hB => (first | (with_reducible exact Nat.le_refl _) | omega | (simp; done) | (simp; omega))) | ((with_reducible refine Below.setCell ?_ ?hB _); case hB => (first | (with_reducible exact Nat.le_refl _) | omega | (simp; done) | (simp; omega))))); exact HB11.out⟩
          rw [HV.out]
          have hfin := own_seven (g := w.heap.size + 1) (v0 := .slice (some ⟨gb, 0, none⟩) R.length k5) (v1 := .int .i64 n') (v2 := .int .i64 s') (v3 := .int .i64 L) (v4 := .int .i64 c') (v5 := .int .i64 p) (v6 := .int .i64 q) HO11.out (.inl (by omega))
          first | (with_reducible exact own_finG hfin (by rw [size_seven]; omega) (by omega)) | (with_reducible exact own_drewG hfin (by rw [size_seven]; omega) (by omega))
      · skip
        subst h1
        subst h2
        subst h3
        subst h4
        obtain rfl : xs = [] := List.eq_nil_of_length_eq_zero h5
        have hwa : IntKind.i64.wrap (p : Int) = p := IntWalk.i64_in _ (by omega)
        have HYL : Hid (([] : List Int).length = 0) := Lib.hid rfl
        have HHN : Hid (0 = Nat.min 0 0) := Lib.hid (by show 0 = min 0 0; have := HF.out.fit; rfl)
        have HFIT := Lib.hid (show s' + p + ([] : List Int).length ≤ R[n'].length by rw [HYL.out]; have := HF.out.fit; dsimp only [List.length_nil] at this; omega)
        go_region_held3 (fun W => W.cell? ⟨gb5, 0, none⟩ = some (.slice (some ⟨gb, 0, none⟩) R.length k5) ∧ W.cell? ⟨gb5, 1, none⟩ = some (.int .i64 n') ∧ W.cell? ⟨gb5, 2, none⟩ = some (.int .i64 s') ∧ W.cell? ⟨gb5, 3, none⟩ = some (.int .i64 p) ∧ W.cell? ⟨gb5, 4, none⟩ = some (.int .i64 p) ∧ W.cell? ⟨gb5, 5, none⟩ = some (.int .i64 p) ∧ W.cell? ⟨gb5, 6, none⟩ = some (.int .i64 p))
          (first | (with_reducible exact ⟨x0, x1, x2, x3, x4, x5, x6⟩) | (with_reducible exact ⟨y0, y1, y2, y3, y4, y5, y6⟩) | (with_reducible exact ⟨v0, v1, v2, v3, v4, v5, v6⟩) | (with_reducible exact ⟨z0, z1, z2, z3, z4, z5, z6⟩) | fail)
          (first | (go_at_call 91; (with_reducible refine HST.out.mono ?_); rintro e w10 ⟨⟨ov, rfl, hov⟩, hb10⟩; have hc10 : Below w5.heap.size w5 w10 := (Below.refl _ _).drew.trans hb10; have HX10 := Lib.hid ((hc10.block _ hgb5).trans HX5.out); obtain ⟨y0, y1, y2, y3, y4, y5, y6⟩ := gap_cells HX10.out; have HG10 := Lib.hid (HG5.out.below hc10); have HB10 := Lib.hid hc10; have hs10 := hc10.size; have HRO10 := Lib.hid (own_below HRO.out hc10); have hrow10 : Hid (w10.ownsRow lo5 5 1 (.slice (some ⟨gr, 0, none⟩) R[n'].length cap) R[n'].length (intV .u8 R[n'])) := Lib.hid HRO10.out; have HLS := Lib.hid ((HL.out.below (HB5.out.trans (hc10.mono HB5.out.size))).more (Nat.le_trans HB5.out.size hc10.size)); have HHS := Lib.hid (src_cells HLS.out); clear hb10 hc10 hov) | (refine step_copy_row0 (by rfl) _ _ 46 46 (by rfl) Try.underlying46 hszu (some ⟨gr, ov, none⟩) LA 0 0 0 lc (by rfl) (by rfl) gr lo5 cap R[n'] hrow10.out (s' + p) [] 0 HYL.out HHN.out (fun h => absurd h (Nat.lt_irrefl _)) HFIT.out (fun h => absurd h (Nat.lt_irrefl _)) ?_; intro w11 hown11 hg11; have HX11 := Lib.hid (grown_block hg11 HX10.out hgne); obtain ⟨z0, z1, z2, z3, z4, z5, z6⟩ := gap_cells HX11.out; obtain ⟨zf0, zf1, zf2, zf3, zf4, zf5, zf6⟩ := gap_frozen HX11.out; obtain ⟨v0, v1, v2, v3, v4, v5, v6⟩ := gap_cells (show (w11.setCell ⟨gb5, 5, none⟩ (.int .i64 (p : Nat))).heap[gb5]? = some (.cells #[.slice (some ⟨gb, 0, none⟩) R.length k5, .int .i64 n', .int .i64 s', .int .i64 p, .int .i64 p, .int .i64 p, .int .i64 p] 34) from by simpa using cells_put (i := 5) (v := .int .i64 (p : Nat)) HX11.out); have HRS := Lib.hid (grown_block hg11 HG10.out.res hgnr)))
        have HOM : Hid (OwnM w11 lo5 hi5 (.slice (some ⟨gb, 0, none⟩) R.length k5) R') := Lib.hid (by
          rw [HRES.out]
          exact HSE.out w11 _ (over_len HFIT.out) hown11 ((grown_of_below HB10.out (some gr)).trans hg11))
        have hB10 := HB5.out.trans (HB10.out.mono HB5.out.size)
        have HB11 := Lib.hid (grown_below hB10 hB10.size hg11 (by omega))
        obtain ⟨r0, r1, r2, r3, r4, r5, r6⟩ := gap_cells HRS.out
        obtain ⟨f0, f1, f2, f3, f4, f5, f6⟩ := gap_frozen HRS.out
        have hs11 : w5.heap.size ≤ w11.heap.size := Nat.le_trans hs10 hg11.size
        clear hown11 hg11 hB10
        go_wp2_with fail
        refine bodyPost_ret (v := .tuple #[.agg #[.slice (some ⟨gb, 0, none⟩) R.length k5, .int .i64 n', .int .i64 s', .int .i64 p, .int .i64 p, .int .i64 p, .int .i64 p], .bool true]) (by simp [results, Try.results42, go_sem, r0, r1, r2, r3, r4, r5, r6]) rfl ⟨_, by rw [HV.out], ?_, by (repeat (first | (with_reducible exact Below.refl _ _) | (with_reducible refine Below.drew ?_) | ((with_reducible refine Below.alloc ?_ ?hB _); case hB => (first | (with_reducible exact Nat.le_refl _) | omega | (simp; done) | (simp; omega))) | ((with_reducible refine Below.setCell ?_ ?hB _); case hB => (first | (with_reducible exact Nat.le_refl _) | omega | (simp; done) | (simp; omega))))); exact HB11.out⟩
        rw [HV.out]
        have hfin := own_seven (g := w.heap.size + 1) (v0 := .slice (some ⟨gb, 0, none⟩) R.length k5) (v1 := .int .i64 n') (v2 := .int .i64 s') (v3 := .int .i64 p) (v4 := .int .i64 p) (v5 := .int .i64 p) (v6 := .int .i64 p) (own_setC (g := gb5) (i := 5) (u := .int .i64 p) HOM.out HOU.out) (.inl (by omega))
        first | (with_reducible exact own_finG hfin (by rw [size_seven, World.size_setCell]; omega) (by omega)) | (with_reducible exact own_drewG hfin (by rw [size_seven, World.size_setCell]; omega) (by omega))
set_option maxRecDepth 100000 in
set_option maxHeartbeats 1600000 in
theorem implPutBytes_calls (A : Option Addr) (cm : Nat) (m : List (List Int)) (g : Gp) (LA : Option Addr) (lc : Nat) (xs : List Int) (w : World) (hr : Rd2 w w.heap.size A m) (hn : m.length ≤ maxLen) (hx : GArgW g) (hx1 : xs.length ≤ lc) (hx2 : xs.length ≤ 2097152) (hl : Rd w w.heap.size LA (intV .u8 xs)) :
    Calls Try.prog 42 #[.agg #[.slice A m.length cm, .int .i64 g.w.arr, .int .i64 g.w.start, .int .i64 g.w.len, .int .i64 g.w.cap, .int .i64 g.fr, .int .i64 g.up], .slice LA xs.length lc] w fun e w' => ∃ v, e = .returned (.tuple #[.agg #[v, .int .i64 (putBytesR m g xs).2.1.w.arr, .int .i64 (putBytesR m g xs).2.1.w.start, .int .i64 (putBytesR m g xs).2.1.w.len, .int .i64 (putBytesR m g xs).2.1.w.cap, .int .i64 (putBytesR m g xs).2.1.fr, .int .i64 (putBytesR m g xs).2.1.up], .bool (putBytesR m g xs).2.2]) ∧ OwnM w' w.heap.size w'.heap.size v (putBytesR m g xs).1 ∧ Below w.heap.size w w' := by
  by_cases hok : GpOK m g
  · rw [putBytesR, if_pos hok]
    exact implPut_ok A cm m g LA lc xs w hr hn hok hx hx1 hx2 hl
  · have HV : Hid (putBytesR m g xs = ([], zeroGp, false)) := Lib.hid (by rw [putBytesR, if_neg hok])
    obtain ⟨w0, hw0, hb0, hz0, hgg⟩ := enterGG A m.length cm g w
    have HC := Lib.hid (implIsGap_calls A cm m g w0 ((hr.below hb0).more hb0.size) hn hx)
    have HB := Lib.hid hb0
    have HW := Lib.hid hw0
    have HGG := Lib.hid hgg
    obtain ⟨c0, d0, d1, d2, d3, d4, d5⟩ := gap_cells hgg.par
    rw [decide_eq_false hok] at HC
    clear hr hb0 hw0 hgg hz0 hok hl
    go_enter Try.func42, Try.ntmps42
    go_wp2_with fail
    rw [HW.out]
    refine HC.out.mono ?_
    rintro e w2 ⟨rfl, hb2⟩
    have HB2 := Lib.hid (HB.out.trans (hb2.mono HB.out.size))
    have HG2 := Lib.hid (HGG.out.below hb2)
    clear hb2 c0 d0 d1 d2 d3 d4 d5
    obtain ⟨r0, r1, r2, r3, r4, r5, r6⟩ := gap_cells HG2.out.res
    obtain ⟨f0, f1, f2, f3, f4, f5, f6⟩ := gap_frozen HG2.out.res
    go_wp2_with fail
    refine bodyPost_ret (v := .tuple #[.agg #[.slice none 0 0, .int .i64 0, .int .i64 0, .int .i64 0, .int .i64 0, .int .i64 0, .int .i64 0], .bool false]) (by simp [results, Try.results42, go_sem, r0, r1, r2, r3, r4, r5, r6]) rfl ⟨_, by rw [HV.out]; rfl, by rw [HV.out]; exact own_none _ _ _, by (repeat (first | (with_reducible exact Below.refl _ _) | (with_reducible refine Below.drew ?_) | ((with_reducible refine Below.alloc ?_ ?hB _); case hB => (first | (with_reducible exact Nat.le_refl _) | omega | (simp; done) | (simp; omega))) | ((with_reducible refine Below.setCell ?_ ?hB _); case hB => (first | (with_reducible exact Nat.le_refl _) | omega | (simp; done) | (simp; omega))))); exact HB2.out⟩
end Go.Proofs.Ytkclpppnjfhbpaa
