/-
  CloseGap of spec and impl.
-/
import Derived.Test.YtkclpppnjfhbpaaGpY
import Derived.Test.YtkclpppnjfhbpaaWin3
namespace Go.Proofs.Ytkclpppnjfhbpaa
open Go.RowKit

theorem meetG_new {w3 w5 : World} {lo : Nat} {A : Option Addr} {k : Nat} {R : List (List Int)} {y : Gp} (ho : OwnM w5 lo w5.heap.size (.slice A R.length k) R) (hc : Below w3.heap.size w3 w5) (h1 : w3.heap.size ≤ lo) (h2 : lo ≤ w5.heap.size) :
    ∃ (g lo hi : Nat) (v : Value), Value.pointer (some ⟨w5.heap.size, 0, none⟩) = .pointer (some ⟨g, 0, none⟩) ∧ GBox (w5.alloc (.cells #[.slice A R.length k, .int .i64 y.w.arr, .int .i64 y.w.start, .int .i64 y.w.len, .int .i64 y.w.cap, .int .i64 y.fr, .int .i64 y.up] 34)) w3.heap.size g lo hi v R y ∧ Below w3.heap.size w3 (w5.alloc (.cells #[.slice A R.length k, .int .i64 y.w.arr, .int .i64 y.w.start, .int .i64 y.w.len, .int .i64 y.w.cap, .int .i64 y.fr, .int .i64 y.up] 34)) :=
  ⟨w5.heap.size, lo, w5.heap.size, _, rfl, GBox.mk' (heap_alloc_new _ _) (ho.below ((Below.refl _ _).alloc (Nat.le_refl _) _)) hc.size h1 (by simp) (by simp; omega) (.inr (Nat.le_refl _)), hc.alloc hc.size _⟩
theorem meetG_old {w3 w5 : World} {lo g0 : Nat} {A : Option Addr} {k : Nat} {R : List (List Int)} {y : Gp} {u0 u1 u2 u3 u4 u5 u6 : Value} (ho : OwnM w5 lo w5.heap.size (.slice A R.length k) R) (hc : Below w3.heap.size w3 w5) (hz : w5.heap[g0]? = some (.cells #[u0, u1, u2, u3, u4, u5, u6] 34)) (h1 : w3.heap.size ≤ g0) (h2 : g0 < lo) (h3 : lo ≤ w5.heap.size) :
    ∃ (g lo hi : Nat) (v : Value), Value.pointer (some ⟨g0, 0, none⟩) = .pointer (some ⟨g, 0, none⟩) ∧ GBox (((((((w5.setCell ⟨g0, 0, none⟩ (.slice A R.length k)).setCell ⟨g0, 1, none⟩ (.int .i64 y.w.arr)).setCell ⟨g0, 2, none⟩ (.int .i64 y.w.start)).setCell ⟨g0, 3, none⟩ (.int .i64 y.w.len)).setCell ⟨g0, 4, none⟩ (.int .i64 y.w.cap)).setCell ⟨g0, 5, none⟩ (.int .i64 y.fr)).setCell ⟨g0, 6, none⟩ (.int .i64 y.up)) w3.heap.size g lo hi v R y ∧
      Below w3.heap.size w3 (((((((w5.setCell ⟨g0, 0, none⟩ (.slice A R.length k)).setCell ⟨g0, 1, none⟩ (.int .i64 y.w.arr)).setCell ⟨g0, 2, none⟩ (.int .i64 y.w.start)).setCell ⟨g0, 3, none⟩ (.int .i64 y.w.len)).setCell ⟨g0, 4, none⟩ (.int .i64 y.w.cap)).setCell ⟨g0, 5, none⟩ (.int .i64 y.fr)).setCell ⟨g0, 6, none⟩ (.int .i64 y.up)) :=
  ⟨g0, lo, w5.heap.size, _, rfl, GBox.mk' (gap_set hz) (own_seven ho (.inl h2)) h1 (by omega) (by rw [size_seven]; exact Nat.le_refl _) (by rw [size_seven]; exact h3) (.inl h2), ((((((hc.setCell h1 _).setCell h1 _).setCell h1 _).setCell h1 _).setCell h1 _).setCell h1 _).setCell h1 _⟩

/-- A gap that came in, and the answer's two blocks, a gap and a window that are zero as yet. -/
structure GGW (W : World) (b : Nat) (A : Option Addr) (n c : Nat) (g : Gp) : Prop where
  gg : GG W b A n c g
  resW : W.heap[b + 1 + 1]? = some (.cells #[.int .i64 0, .int .i64 0, .int .i64 0, .int .i64 0] 32)
theorem GGW.below {W W' : World} {b : Nat} {A : Option Addr} {n c : Nat} {g : Gp} (h : GGW W b A n c g) (hb : Below W.heap.size W W') : GGW W' b A n c g :=
  ⟨h.gg.below hb, (hb.block _ (Array.getElem?_eq_some_iff.1 h.resW).1).trans h.resW⟩
theorem enterGGW (A : Option Addr) (n c : Nat) (g : Gp) (w : World) :
    ∃ w0, ((w.alloc (.cells #[.slice A n c, .int .i64 g.w.arr, .int .i64 g.w.start, .int .i64 g.w.len, .int .i64 g.w.cap, .int .i64 g.fr, .int .i64 g.up] 34)).alloc (.cells #[.slice none 0 0, .int .i64 0, .int .i64 0, .int .i64 0, .int .i64 0, .int .i64 0, .int .i64 0] 34)).alloc (.cells #[.int .i64 0, .int .i64 0, .int .i64 0, .int .i64 0] 32) = w0 ∧ Below w.heap.size w w0 ∧ w0.heap.size = w.heap.size + 3 ∧ GGW w0 w.heap.size A n c g := by
  obtain ⟨h1, h2, h3, h4, h5⟩ := enter3 w (.cells #[.slice A n c, .int .i64 g.w.arr, .int .i64 g.w.start, .int .i64 g.w.len, .int .i64 g.w.cap, .int .i64 g.fr, .int .i64 g.up] 34) (.cells #[.slice none 0 0, .int .i64 0, .int .i64 0, .int .i64 0, .int .i64 0, .int .i64 0, .int .i64 0] 34) (.cells #[.int .i64 0, .int .i64 0, .int .i64 0, .int .i64 0] 32)
  exact ⟨_, rfl, h1, h5, ⟨h2, h3⟩, h4⟩
theorem own_eleven {w : World} {lo hi g h : Nat} {v v0 v1 v2 v3 v4 v5 v6 u0 u1 u2 u3 : Value} {m : List (List Int)} (ho : OwnM w lo hi v m) (h1 : g < lo ∨ hi ≤ g) (h2 : h < lo ∨ hi ≤ h) :
    OwnM (((((((((((w.setCell ⟨g, 0, none⟩ v0).setCell ⟨g, 1, none⟩ v1).setCell ⟨g, 2, none⟩ v2).setCell ⟨g, 3, none⟩ v3).setCell ⟨g, 4, none⟩ v4).setCell ⟨g, 5, none⟩ v5).setCell ⟨g, 6, none⟩ v6).setCell ⟨h, 0, none⟩ u0).setCell ⟨h, 1, none⟩ u1).setCell ⟨h, 2, none⟩ u2).setCell ⟨h, 3, none⟩ u3) lo hi v m :=
  own_setC (own_setC (own_setC (own_setC (own_seven ho h1) h2) h2) h2) h2
theorem size_eleven {w : World} {g h : Nat} {v0 v1 v2 v3 v4 v5 v6 u0 u1 u2 u3 : Value} :
    (((((((((((w.setCell ⟨g, 0, none⟩ v0).setCell ⟨g, 1, none⟩ v1).setCell ⟨g, 2, none⟩ v2).setCell ⟨g, 3, none⟩ v3).setCell ⟨g, 4, none⟩ v4).setCell ⟨g, 5, none⟩ v5).setCell ⟨g, 6, none⟩ v6).setCell ⟨h, 0, none⟩ u0).setCell ⟨h, 1, none⟩ u1).setCell ⟨h, 2, none⟩ u2).setCell ⟨h, 3, none⟩ u3).heap.size = w.heap.size := by simp only [World.size_setCell]


set_option maxRecDepth 100000 in
set_option maxHeartbeats 3200000 in
theorem specCloseGap_calls (A : Option Addr) (cm : Nat) (m : List (List Int)) (g : Gp) (w : World) (hr : Rd2 w w.heap.size A m) (hn : m.length ≤ maxLen) :
    Calls Try.prog 61 #[.agg #[.slice A m.length cm, .int .i64 g.w.arr, .int .i64 g.w.start, .int .i64 g.w.len, .int .i64 g.w.cap, .int .i64 g.fr, .int .i64 g.up]] w fun e w' => ∃ v, e = .returned (.tuple #[.agg #[v, .int .i64 (closeGapR m g).2.1.w.arr, .int .i64 (closeGapR m g).2.1.w.start, .int .i64 (closeGapR m g).2.1.w.len, .int .i64 (closeGapR m g).2.1.w.cap, .int .i64 (closeGapR m g).2.1.fr, .int .i64 (closeGapR m g).2.1.up], .agg #[.int .i64 (closeGapR m g).2.2.1.arr, .int .i64 (closeGapR m g).2.2.1.start, .int .i64 (closeGapR m g).2.2.1.len, .int .i64 (closeGapR m g).2.2.1.cap], .bool (closeGapR m g).2.2.2]) ∧ OwnM w' w.heap.size w'.heap.size v (closeGapR m g).1 ∧ Below w.heap.size w w' := by
  obtain ⟨w0, hw0, hb0, hz0, hgg⟩ := enterGGW A m.length cm g w
  have HC := Lib.hid (specGap_calls A cm m g w0 ((hr.below hb0).more hb0.size) hn)
  have HB := Lib.hid hb0
  have HW := Lib.hid hw0
  have HGG := Lib.hid hgg
  obtain ⟨c0, d0, d1, d2, d3, d4, d5⟩ := gap_cells hgg.gg.par
  by_cases hok : GpOK m g
  · rw [decide_eq_true hok] at HC
    have hsm := hok.1.small
    have hok2 := hok.2
    obtain ⟨_, _, _, _, hl0, hl1, hc0, hc1, hlc, hsc⟩ := hsm
    obtain ⟨h1, h2, h3⟩ := hok2
    obtain ⟨R, y, C, hmv⟩ : ∃ R y C, moveGapR m g (g.w.len - (g.up - g.fr)) = (R, y, C, true) := ⟨_, _, _, by rw [moveGapR, if_pos ⟨hok, by omega, Int.le_refl _⟩]⟩
    have HMV : Hid (∀ W, Below w.heap.size w W → Calls Try.prog 95 #[.agg #[.slice A m.length cm, .int .i64 g.w.arr, .int .i64 g.w.start, .int .i64 g.w.len, .int .i64 g.w.cap, .int .i64 g.fr, .int .i64 g.up], .int .i64 (g.w.len - (g.up - g.fr))] W fun e w' => ∃ v, e = .returned (.tuple #[.agg #[v, .int .i64 y.w.arr, .int .i64 y.w.start, .int .i64 y.w.len, .int .i64 y.w.cap, .int .i64 y.fr, .int .i64 y.up], .int .i64 C]) ∧ OwnM w' W.heap.size w'.heap.size v R ∧ Below W.heap.size W w') := Lib.hid (fun W hb => by
      have h := move_at hok ⟨by omega, Int.le_refl _⟩ A cm W ((hr.below hb).more hb.size)
      rw [hmv] at h
      exact h)
    have HLEN := Lib.hid (fun W => specLong_calls A m.length cm g W (by omega) (by omega) (by omega))
    have HY : Hid (y = ⟨g.w, g.w.len - (g.up - g.fr), g.w.len⟩) := Lib.hid (by
      rw [moveGapR, if_pos ⟨hok, by omega, Int.le_refl _⟩] at hmv
      injection hmv with _ hmv
      injection hmv with hmv
      rw [← hmv, show g.w.len - (g.up - g.fr) + (g.up - g.fr) = g.w.len by omega])
    have HV : Hid (closeGapR m g = (R, y, ⟨y.w.arr, y.w.start, y.fr, y.w.cap⟩, true)) := Lib.hid (by
      rw [HY.out, closeGapR, if_pos hok]
      rw [moveGapR, if_pos ⟨hok, by omega, Int.le_refl _⟩] at hmv
      injection hmv with hmv _
      rw [← hmv]
      have e : (g.w.len - (g.up - g.fr)).toNat = g.w.len.toNat - (g.up.toNat - g.fr.toNat) := by omega
      rw [e])
    have HYB : Hid (0 ≤ y.fr ∧ y.fr ≤ y.w.cap ∧ y.w.cap ≤ 64 ∧ 0 ≤ y.w.start ∧ y.w.start ≤ 64) := Lib.hid (by rw [HY.out]; dsimp only; omega)
    skip
    skip
    skip
    clear hr hb0 hw0 hgg hok hmv
    generalize hL : g.w.len - (g.up - g.fr) = L at *
    clear hL
    go_enter Try.func61, Try.ntmps61
    go_wp2_with fail
    rw [HW.out]
    refine HC.out.mono ?_
    rintro e w3 ⟨rfl, hb3⟩
    have HB3 := Lib.hid (HB.out.trans (hb3.mono HB.out.size))
    have HG3 := Lib.hid (HGG.out.below hb3)
    have hs0 := HB3.out.size
    have lw := (Array.getElem?_eq_some_iff.1 HG3.out.resW).1
    clear hb3 c0 d0 d1 d2 d3 d4 d5
    have HA3 := Lib.hid (fun (W : World) (hb : Below w3.heap.size w3 W) => gap_cells (HG3.out.gg.below hb).par)
    have hcd : Below w3.heap.size w3 w3.drew := (Below.refl _ _).drew
    have hca : Below w3.heap.size w3 (w3.alloc (.cells #[.slice none 0 0, .int .i64 0, .int .i64 0, .int .i64 0, .int .i64 0, .int .i64 0, .int .i64 0] 34)).drew := ((Below.refl _ _).alloc (Nat.le_refl _) _).drew
    go_upto_region 3 with fail
    go_cut [5] (fun s5 wx => ∃ (g5 lo5 hi5 : Nat) (v5 : Value), s5 = .pointer (some ⟨g5, 0, none⟩) ∧ GBox wx w3.heap.size g5 lo5 hi5 v5 R y ∧ Below w3.heap.size w3 wx)
    case first =>
      go_region_held3 (fun W => W.cell? ⟨w.heap.size, 0, none⟩ = some (.slice A m.length cm) ∧ W.cell? ⟨w.heap.size, 1, none⟩ = some (.int .i64 g.w.arr) ∧ W.cell? ⟨w.heap.size, 2, none⟩ = some (.int .i64 g.w.start) ∧ W.cell? ⟨w.heap.size, 3, none⟩ = some (.int .i64 g.w.len) ∧ W.cell? ⟨w.heap.size, 4, none⟩ = some (.int .i64 g.w.cap) ∧ W.cell? ⟨w.heap.size, 5, none⟩ = some (.int .i64 g.fr) ∧ W.cell? ⟨w.heap.size, 6, none⟩ = some (.int .i64 g.up))
        (first | (with_reducible exact HA3.out _ hcd) | (with_reducible exact HA3.out _ hca) | (with_reducible exact HA3.out _ hc5) | (with_reducible exact HA3.out _ hc5z) | (with_reducible exact HA3.out _ hc5v) | (with_reducible exact HA3.out _ hc4) | (with_reducible exact HA3.out _ hc4z) | (with_reducible exact HA3.out _ hc5s))
        (first | (go_at_call 94; (with_reducible refine (HLEN.out w3.drew).mono ?_); rintro e w4 ⟨rfl, hb4⟩; have hc4 : Below w3.heap.size w3 w4 := hcd.trans hb4; have hc4z := hc4.alloc hc4.size (.cells #[.slice none 0 0, .int .i64 0, .int .i64 0, .int .i64 0, .int .i64 0, .int .i64 0, .int .i64 0] 34); have hs34 := hc4.size) | (go_at_call 94; (with_reducible refine (HLEN.out (w3.alloc (.cells #[.slice none 0 0, .int .i64 0, .int .i64 0, .int .i64 0, .int .i64 0, .int .i64 0, .int .i64 0] 34)).drew).mono ?_); rintro e w4 ⟨rfl, hb4⟩; have hc4 : Below w3.heap.size w3 w4 := hca.trans (hb4.mono hca.size); have HZ4 := Lib.hid (show w4.heap[w3.heap.size]? = some (.cells #[.slice none 0 0, .int .i64 0, .int .i64 0, .int .i64 0, .int .i64 0, .int .i64 0, .int .i64 0] 34) from box_new_d hb4); have hg4 := al_led hb4; have hs34 := hc4.size) | (go_at_call 95; have hq4 := HZ4.out; (with_reducible refine (HMV.out w4 (HB3.out.trans (hc4.mono hs0))).mono ?_); rintro e w5 ⟨v5, rfl, ho5, hb5⟩; obtain ⟨AM, kM, rfl, hkM⟩ := ho5.form; have hc5 : Below w3.heap.size w3 w5 := hc4.trans (hb5.mono hc4.size); have hs45 := hb5.size; have HZ5 := Lib.hid ((hb5.block _ (Array.getElem?_eq_some_iff.1 hq4).1).trans hq4); have HM5 := Lib.hid (fun (_ : True) => meetG_old (y := y) ho5 hc5 HZ5.out (Nat.le_refl _) hg4 hs45); obtain ⟨y0, y1, y2, y3, y4, y5, y6⟩ := gap_cells HZ5.out; obtain ⟨z0, z1, z2, z3, z4, z5, z6⟩ := gap_frozen HZ5.out; have hc5s := (((((((hc5.setCell (p := ⟨w3.heap.size, 0, none⟩) (Nat.le_refl _) (.slice AM R.length kM)).setCell (p := ⟨w3.heap.size, 1, none⟩) (Nat.le_refl _) (.int .i64 y.w.arr)).setCell (p := ⟨w3.heap.size, 2, none⟩) (Nat.le_refl _) (.int .i64 y.w.start)).setCell (p := ⟨w3.heap.size, 3, none⟩) (Nat.le_refl _) (.int .i64 y.w.len)).setCell (p := ⟨w3.heap.size, 4, none⟩) (Nat.le_refl _) (.int .i64 y.w.cap)).setCell (p := ⟨w3.heap.size, 5, none⟩) (Nat.le_refl _) (.int .i64 y.fr)).setCell (p := ⟨w3.heap.size, 6, none⟩) (Nat.le_refl _) (.int .i64 y.up))) | (go_at_call 95; (with_reducible refine (HMV.out w4 (HB3.out.trans (hc4.mono hs0))).mono ?_); rintro e w5 ⟨v5, rfl, ho5, hb5⟩; obtain ⟨AM, kM, rfl, hkM⟩ := ho5.form; have hc5 : Below w3.heap.size w3 w5 := hc4.trans (hb5.mono hc4.size); have hs45 := hb5.size; have hc5z := hc5.alloc hc5.size (.cells #[.slice none 0 0, .int .i64 0, .int .i64 0, .int .i64 0, .int .i64 0, .int .i64 0, .int .i64 0] 34); have hc5v := hc5.alloc hc5.size (.cells #[.slice AM R.length kM, .int .i64 y.w.arr, .int .i64 y.w.start, .int .i64 y.w.len, .int .i64 y.w.cap, .int .i64 y.fr, .int .i64 y.up] 34); have HM5 := Lib.hid (fun (_ : True) => meetG_new (y := y) ho5 hc5 hs34 hs45)) | (go_at_call 95; (with_reducible refine (HMV.out (w4.alloc (.cells #[.slice none 0 0, .int .i64 0, .int .i64 0, .int .i64 0, .int .i64 0, .int .i64 0, .int .i64 0] 34)) (HB3.out.trans (hc4z.mono hs0))).mono ?_); rintro e w5 ⟨v5, rfl, ho5, hb5⟩; obtain ⟨AM, kM, rfl, hkM⟩ := ho5.form; have hc5 : Below w3.heap.size w3 w5 := hc4z.trans (hb5.mono hc4z.size); have hs45 := al_le hb5; have HZ5 := Lib.hid (show w5.heap[w4.heap.size]? = some (.cells #[.slice none 0 0, .int .i64 0, .int .i64 0, .int .i64 0, .int .i64 0, .int .i64 0, .int .i64 0] 34) from box_new hb5); have HM5 := Lib.hid (fun (_ : True) => meetG_old (y := y) (own_al ho5) hc5 HZ5.out hs34 (Nat.lt_succ_self _) hs45); obtain ⟨y0, y1, y2, y3, y4, y5, y6⟩ := gap_cells HZ5.out; obtain ⟨z0, z1, z2, z3, z4, z5, z6⟩ := gap_frozen HZ5.out; have hc5s := (((((((hc5.setCell (p := ⟨w4.heap.size, 0, none⟩) hs34 (.slice AM R.length kM)).setCell (p := ⟨w4.heap.size, 1, none⟩) hs34 (.int .i64 y.w.arr)).setCell (p := ⟨w4.heap.size, 2, none⟩) hs34 (.int .i64 y.w.start)).setCell (p := ⟨w4.heap.size, 3, none⟩) hs34 (.int .i64 y.w.len)).setCell (p := ⟨w4.heap.size, 4, none⟩) hs34 (.int .i64 y.w.cap)).setCell (p := ⟨w4.heap.size, 5, none⟩) hs34 (.int .i64 y.fr)).setCell (p := ⟨w4.heap.size, 6, none⟩) hs34 (.int .i64 y.up))))
      all_goals (go_wp2_with fail)
      all_goals go_meet
      all_goals (with_reducible exact HM5.out True.intro)
    case rest =>
      obtain ⟨g5, lo5, hi5, v5, rfl, hm5, hb5⟩ := hcut
      obtain ⟨w5, hw5⟩ : ∃ w5, w5 = wc := ⟨_, rfl⟩
      subst hw5
      obtain ⟨A5, k5, rfl, hk5⟩ := hm5.own.form
      have HM5 := Lib.hid hm5
      have HG5 := Lib.hid (HG3.out.below hb5)
      have HB5 := Lib.hid (HB3.out.trans (hb5.mono hs0))
      have hg5 := hm5.bg
      have hlo5 := hm5.blo
      have hhi5 := hm5.hiW
      clear hm5 hb5 hk5 hcd hca
      have HSL : Hid (∀ W, Calls Try.prog 105 #[.agg #[.int .i64 y.w.arr, .int .i64 y.w.start, .int .i64 y.w.len, .int .i64 y.w.cap], .int .i64 0, .int .i64 y.fr, .int .i64 y.w.cap] W fun e w' => e = .returned (.agg #[.int .i64 y.w.arr, .int .i64 y.w.start, .int .i64 y.fr, .int .i64 y.w.cap]) ∧ Below W.heap.size W w') := Lib.hid fun W => by
        have hb := HYB.out
        have h := specSlice_calls y.w.arr y.w.start y.w.len y.w.cap 0 y.fr y.w.cap W (by omega) (by omega) (by omega) (by omega)
        rw [Int.add_zero, Int.sub_zero, Int.sub_zero] at h
        exact h
      have HLB := Lib.hid (fun (W : World) (h : W.heap[g5]? = some (.cells #[.slice A5 R.length k5, .int .i64 y.w.arr, .int .i64 y.w.start, .int .i64 y.w.len, .int .i64 y.w.cap, .int .i64 y.fr, .int .i64 y.up] 34)) => gap_cells h)
      have HK0 := Lib.hid (HLB.out w5.drew (block_drew HM5.out.box))
      go_wp2_with fail
      go_region_held3 (fun W => W.cell? ⟨g5, 0, none⟩ = some (.slice A5 R.length k5) ∧ W.cell? ⟨g5, 1, none⟩ = some (.int .i64 y.w.arr) ∧ W.cell? ⟨g5, 2, none⟩ = some (.int .i64 y.w.start) ∧ W.cell? ⟨g5, 3, none⟩ = some (.int .i64 y.w.len) ∧ W.cell? ⟨g5, 4, none⟩ = some (.int .i64 y.w.cap) ∧ W.cell? ⟨g5, 5, none⟩ = some (.int .i64 y.fr) ∧ W.cell? ⟨g5, 6, none⟩ = some (.int .i64 y.up))
        (first | (with_reducible exact HK0.out) | (with_reducible exact HK1.out) | (with_reducible exact HK2.out) | (with_reducible exact HK3.out) | (with_reducible exact HK4.out) | (with_reducible exact HK5.out))
        (first | (go_at_call 105; (with_reducible refine (HSL.out w5.drew).mono ?_); rintro e w6 ⟨rfl, hb6⟩; have hc6 : Below w5.heap.size w5 w6 := (Below.refl _ _).drew.trans hb6; have hm6 := HM5.out.below hc6; have HG6 := Lib.hid (HG5.out.below hc6); have HK1 := Lib.hid (HLB.out _ hm6.box); have HK2 := Lib.hid (HLB.out _ (gap_keep (q := w.heap.size + 1) (v0 := .slice A5 R.length k5) (v1 := .int .i64 y.w.arr) (v2 := .int .i64 y.w.start) (v3 := .int .i64 y.w.len) (v4 := .int .i64 y.w.cap) (v5 := .int .i64 y.fr) (v6 := .int .i64 y.up) hm6.box (by omega))); have HK3 := Lib.hid (HLB.out _ (keep_set4 (h := w.heap.size + 1 + 1) (u0 := .int .i64 y.w.arr) (u1 := .int .i64 y.w.start) (u2 := .int .i64 y.fr) (u3 := .int .i64 y.w.cap) hm6.box (by omega))); have HK4 := Lib.hid (HLB.out _ (keep_set4 (h := w.heap.size + 1 + 1) (u0 := .int .i64 y.w.arr) (u1 := .int .i64 y.w.start) (u2 := .int .i64 y.fr) (u3 := .int .i64 y.w.cap) (gap_keep (q := w.heap.size + 1) (v0 := .slice A5 R.length k5) (v1 := .int .i64 y.w.arr) (v2 := .int .i64 y.w.start) (v3 := .int .i64 y.w.len) (v4 := .int .i64 y.w.cap) (v5 := .int .i64 y.fr) (v6 := .int .i64 y.up) hm6.box (by omega)) (by omega))); have HK5 := Lib.hid (HLB.out _ (gap_keep (q := w.heap.size + 1) (v0 := .slice A5 R.length k5) (v1 := .int .i64 y.w.arr) (v2 := .int .i64 y.w.start) (v3 := .int .i64 y.w.len) (v4 := .int .i64 y.w.cap) (v5 := .int .i64 y.fr) (v6 := .int .i64 y.up) (keep_set4 (h := w.heap.size + 1 + 1) (u0 := .int .i64 y.w.arr) (u1 := .int .i64 y.w.start) (u2 := .int .i64 y.fr) (u3 := .int .i64 y.w.cap) hm6.box (by omega)) (by omega))); have HO6 := Lib.hid hm6.own; have hw6 := hc6.size; have HB6 := Lib.hid (HB5.out.trans (hc6.mono HB5.out.size)); obtain ⟨r0, r1, r2, r3, r4, r5, r6⟩ := gap_cells HG6.out.gg.res; obtain ⟨f0, f1, f2, f3, f4, f5, f6⟩ := gap_frozen HG6.out.gg.res; obtain ⟨q0, q1, q2, q3⟩ := four_cells HG6.out.resW; obtain ⟨p0, p1, p2, p3⟩ := four_frozen HG6.out.resW))
      go_wp2_with fail
      refine bodyPost_ret (v := .tuple #[.agg #[.slice A5 R.length k5, .int .i64 y.w.arr, .int .i64 y.w.start, .int .i64 y.w.len, .int .i64 y.w.cap, .int .i64 y.fr, .int .i64 y.up], .agg #[.int .i64 y.w.arr, .int .i64 y.w.start, .int .i64 y.fr, .int .i64 y.w.cap], .bool true]) (by simp [results, Try.results61, go_sem, r0, r1, r2, r3, r4, r5, r6, q0, q1, q2, q3]) rfl ⟨_, by rw [HV.out], ?_, by (repeat (first | (with_reducible exact Below.refl _ _) | (with_reducible refine Below.drew ?_) | ((with_reducible refine Below.alloc ?_ ?hB _); case hB => (first | (with_reducible exact Nat.le_refl _) | omega | (simp; done) | (simp; omega))) | ((with_reducible refine Below.setCell ?_ ?hB _); case hB => (first | (with_reducible exact Nat.le_refl _) | omega | (simp; done) | (simp; omega))))); exact HB6.out⟩
      rw [HV.out, size_eleven]
      exact (own_eleven HO6.out (.inl (by omega)) (.inl (by omega))).mono (by omega) (by omega)
  · rw [decide_eq_false hok] at HC
    have HV : Hid (closeGapR m g = ([], zeroGp, ⟨0, 0, 0, 0⟩, false)) := Lib.hid (by rw [closeGapR, if_neg hok])
    clear hr hb0 hw0 hgg hok
    go_enter Try.func61, Try.ntmps61
    go_wp2_with fail
    rw [HW.out]
    refine HC.out.mono ?_
    rintro e w2 ⟨rfl, hb2⟩
    have HB2 := Lib.hid (HB.out.trans (hb2.mono HB.out.size))
    have HG2 := Lib.hid (HGG.out.below hb2)
    clear hb2 c0 d0 d1 d2 d3 d4 d5
    obtain ⟨r0, r1, r2, r3, r4, r5, r6⟩ := gap_cells HG2.out.gg.res
    obtain ⟨f0, f1, f2, f3, f4, f5, f6⟩ := gap_frozen HG2.out.gg.res
    obtain ⟨q0, q1, q2, q3⟩ := four_cells HG2.out.resW
    obtain ⟨p0, p1, p2, p3⟩ := four_frozen HG2.out.resW
    go_wp2_with fail
    refine bodyPost_ret (v := .tuple #[.agg #[.slice none 0 0, .int .i64 0, .int .i64 0, .int .i64 0, .int .i64 0, .int .i64 0, .int .i64 0], .agg #[.int .i64 0, .int .i64 0, .int .i64 0, .int .i64 0], .bool false]) (by simp [results, Try.results61, go_sem, r0, r1, r2, r3, r4, r5, r6, q0, q1, q2, q3]) rfl ⟨_, by rw [HV.out]; rfl, by rw [HV.out]; exact own_none _ _ _, by (repeat (first | (with_reducible exact Below.refl _ _) | (with_reducible refine Below.drew ?_) | ((with_reducible refine Below.alloc ?_ ?hB _); case hB => (first | (with_reducible exact Nat.le_refl _) | omega | (simp; done) | (simp; omega))) | ((with_reducible refine Below.setCell ?_ ?hB _); case hB => (first | (with_reducible exact Nat.le_refl _) | omega | (simp; done) | (simp; omega))))); exact HB2.out⟩

set_option maxRecDepth 100000 in
set_option maxHeartbeats 3200000 in
theorem implCloseGap_calls (A : Option Addr) (cm : Nat) (m : List (List Int)) (g : Gp) (w : World) (hr : Rd2 w w.heap.size A m) (hn : m.length ≤ maxLen) (hx : GArgW g) :
    Calls Try.prog 62 #[.agg #[.slice A m.length cm, .int .i64 g.w.arr, .int .i64 g.w.start, .int .i64 g.w.len, .int .i64 g.w.cap, .int .i64 g.fr, .int .i64 g.up]] w fun e w' => ∃ v, e = .returned (.tuple #[.agg #[v, .int .i64 (closeGapR m g).2.1.w.arr, .int .i64 (closeGapR m g).2.1.w.start, .int .i64 (closeGapR m g).2.1.w.len, .int .i64 (closeGapR m g).2.1.w.cap, .int .i64 (closeGapR m g).2.1.fr, .int .i64 (closeGapR m g).2.1.up], .agg #[.int .i64 (closeGapR m g).2.2.1.arr, .int .i64 (closeGapR m g).2.2.1.start, .int .i64 (closeGapR m g).2.2.1.len, .int .i64 (closeGapR m g).2.2.1.cap], .bool (closeGapR m g).2.2.2]) ∧ OwnM w' w.heap.size w'.heap.size v (closeGapR m g).1 ∧ Below w.heap.size w w' := by
  obtain ⟨w0, hw0, hb0, hz0, hgg⟩ := enterGGW A m.length cm g w
  have HC := Lib.hid (implIsGap_calls A cm m g w0 ((hr.below hb0).more hb0.size) hn hx)
  have HB := Lib.hid hb0
  have HW := Lib.hid hw0
  have HGG := Lib.hid hgg
  obtain ⟨c0, d0, d1, d2, d3, d4, d5⟩ := gap_cells hgg.gg.par
  by_cases hok : GpOK m g
  · rw [decide_eq_true hok] at HC
    have hsm := hok.1.small
    have hok2 := hok.2
    obtain ⟨_, _, _, _, hl0, hl1, hc0, hc1, hlc, hsc⟩ := hsm
    obtain ⟨h1, h2, h3⟩ := hok2
    obtain ⟨R, y, C, hmv⟩ : ∃ R y C, moveGapR m g (g.w.len - (g.up - g.fr)) = (R, y, C, true) := ⟨_, _, _, by rw [moveGapR, if_pos ⟨hok, by omega, Int.le_refl _⟩]⟩
    have HMV : Hid (∀ W, Below w.heap.size w W → Calls Try.prog 37 #[.agg #[.slice A m.length cm, .int .i64 g.w.arr, .int .i64 g.w.start, .int .i64 g.w.len, .int .i64 g.w.cap, .int .i64 g.fr, .int .i64 g.up], .int .i64 (g.w.len - (g.up - g.fr))] W fun e w' => ∃ v, e = .returned (.tuple #[.agg #[v, .int .i64 y.w.arr, .int .i64 y.w.start, .int .i64 y.w.len, .int .i64 y.w.cap, .int .i64 y.fr, .int .i64 y.up], .int .i64 C, .bool true]) ∧ OwnM w' W.heap.size w'.heap.size v R ∧ Below W.heap.size W w') := Lib.hid (fun W hb => by
      have h := implMoveGap_calls A cm m g (g.w.len - (g.up - g.fr)) W ((hr.below hb).more hb.size) hn hx
      rw [hmv] at h
      exact h)
    have HLEN := Lib.hid (fun W => length_calls A m.length cm g W (by omega) (by omega) (by omega))
    have HY : Hid (y = ⟨g.w, g.w.len - (g.up - g.fr), g.w.len⟩) := Lib.hid (by
      rw [moveGapR, if_pos ⟨hok, by omega, Int.le_refl _⟩] at hmv
      injection hmv with _ hmv
      injection hmv with hmv
      rw [← hmv, show g.w.len - (g.up - g.fr) + (g.up - g.fr) = g.w.len by omega])
    have HV : Hid (closeGapR m g = (R, y, ⟨y.w.arr, y.w.start, y.fr, y.w.cap⟩, true)) := Lib.hid (by
      rw [HY.out, closeGapR, if_pos hok]
      rw [moveGapR, if_pos ⟨hok, by omega, Int.le_refl _⟩] at hmv
      injection hmv with hmv _
      rw [← hmv]
      have e : (g.w.len - (g.up - g.fr)).toNat = g.w.len.toNat - (g.up.toNat - g.fr.toNat) := by omega
      rw [e])
    have HYB : Hid (0 ≤ y.fr ∧ y.fr ≤ y.w.cap ∧ y.w.cap ≤ 64 ∧ 0 ≤ y.w.start ∧ y.w.start ≤ 64) := Lib.hid (by rw [HY.out]; dsimp only; omega)
    have HWY : Hid (WinOK R y.w) := Lib.hid (by rw [moveGapR, if_pos ⟨hok, by omega, Int.le_refl _⟩] at hmv; injection hmv with hmv _; obtain ⟨n, s, l, c, a, b, hnl, rfl, hab, hbl, _⟩ := hok.nat; rw [HY.out, ← hmv]; simp only [Int.toNat_natCast]; dsimp only at h1 h2 h3; exact moveM_ok hok.1 hab hbl (by omega))
    have HWA : Hid (WArg y.w) := Lib.hid (by rw [HY.out]; exact hx.1)
    have HRL := Lib.hid (show R.length ≤ maxLen by have := HWY.out.1.1; simp only [maxLen]; omega)
    clear hr hb0 hw0 hgg hok hmv hx
    generalize hL : g.w.len - (g.up - g.fr) = L at *
    clear hL
    go_enter Try.func62, Try.ntmps62
    go_wp2_with fail
    rw [HW.out]
    refine HC.out.mono ?_
    rintro e w3 ⟨rfl, hb3⟩
    have HB3 := Lib.hid (HB.out.trans (hb3.mono HB.out.size))
    have HG3 := Lib.hid (HGG.out.below hb3)
    have hs0 := HB3.out.size
    have lw := (Array.getElem?_eq_some_iff.1 HG3.out.resW).1
    clear hb3 c0 d0 d1 d2 d3 d4 d5
    have HA3 := Lib.hid (fun (W : World) (hb : Below w3.heap.size w3 W) => gap_cells (HG3.out.gg.below hb).par)
    have hcd : Below w3.heap.size w3 w3.drew := (Below.refl _ _).drew
    have hca : Below w3.heap.size w3 (w3.alloc (.cells #[.slice none 0 0, .int .i64 0, .int .i64 0, .int .i64 0, .int .i64 0, .int .i64 0, .int .i64 0] 34)).drew := ((Below.refl _ _).alloc (Nat.le_refl _) _).drew
    go_upto_region 3 with fail
    go_cut [5] (fun s5 wx => ∃ (g5 lo5 hi5 : Nat) (v5 : Value), s5 = .pointer (some ⟨g5, 0, none⟩) ∧ GBox wx w3.heap.size g5 lo5 hi5 v5 R y ∧ Below w3.heap.size w3 wx)
    case first =>
      go_region_held3 (fun W => W.cell? ⟨w.heap.size, 0, none⟩ = some (.slice A m.length cm) ∧ W.cell? ⟨w.heap.size, 1, none⟩ = some (.int .i64 g.w.arr) ∧ W.cell? ⟨w.heap.size, 2, none⟩ = some (.int .i64 g.w.start) ∧ W.cell? ⟨w.heap.size, 3, none⟩ = some (.int .i64 g.w.len) ∧ W.cell? ⟨w.heap.size, 4, none⟩ = some (.int .i64 g.w.cap) ∧ W.cell? ⟨w.heap.size, 5, none⟩ = some (.int .i64 g.fr) ∧ W.cell? ⟨w.heap.size, 6, none⟩ = some (.int .i64 g.up))
        (first | (with_reducible exact HA3.out _ hcd) | (with_reducible exact HA3.out _ hca) | (with_reducible exact HA3.out _ hc5) | (with_reducible exact HA3.out _ hc5z) | (with_reducible exact HA3.out _ hc5v) | (with_reducible exact HA3.out _ hc4) | (with_reducible exact HA3.out _ hc4z) | (with_reducible exact HA3.out _ hc5s))
        (first | (go_at_call 92; (with_reducible refine (HLEN.out w3.drew).mono ?_); rintro e w4 ⟨rfl, hb4⟩; have hc4 : Below w3.heap.size w3 w4 := hcd.trans hb4; have hc4z := hc4.alloc hc4.size (.cells #[.slice none 0 0, .int .i64 0, .int .i64 0, .int .i64 0, .int .i64 0, .int .i64 0, .int .i64 0] 34); have hs34 := hc4.size) | (go_at_call 92; (with_reducible refine (HLEN.out (w3.alloc (.cells #[.slice none 0 0, .int .i64 0, .int .i64 0, .int .i64 0, .int .i64 0, .int .i64 0, .int .i64 0] 34)).drew).mono ?_); rintro e w4 ⟨rfl, hb4⟩; have hc4 : Below w3.heap.size w3 w4 := hca.trans (hb4.mono hca.size); have HZ4 := Lib.hid (show w4.heap[w3.heap.size]? = some (.cells #[.slice none 0 0, .int .i64 0, .int .i64 0, .int .i64 0, .int .i64 0, .int .i64 0, .int .i64 0] 34) from box_new_d hb4); have hg4 := al_led hb4; have hs34 := hc4.size) | (go_at_call 37; have hq4 := HZ4.out; (with_reducible refine (HMV.out w4 (HB3.out.trans (hc4.mono hs0))).mono ?_); rintro e w5 ⟨v5, rfl, ho5, hb5⟩; obtain ⟨AM, kM, rfl, hkM⟩ := ho5.form; have hc5 : Below w3.heap.size w3 w5 := hc4.trans (hb5.mono hc4.size); have hs45 := hb5.size; have HZ5 := Lib.hid ((hb5.block _ (Array.getElem?_eq_some_iff.1 hq4).1).trans hq4); have HM5 := Lib.hid (fun (_ : True) => meetG_old (y := y) ho5 hc5 HZ5.out (Nat.le_refl _) hg4 hs45); obtain ⟨y0, y1, y2, y3, y4, y5, y6⟩ := gap_cells HZ5.out; obtain ⟨z0, z1, z2, z3, z4, z5, z6⟩ := gap_frozen HZ5.out; have hc5s := (((((((hc5.setCell (p := ⟨w3.heap.size, 0, none⟩) (Nat.le_refl _) (.slice AM R.length kM)).setCell (p := ⟨w3.heap.size, 1, none⟩) (Nat.le_refl _) (.int .i64 y.w.arr)).setCell (p := ⟨w3.heap.size, 2, none⟩) (Nat.le_refl _) (.int .i64 y.w.start)).setCell (p := ⟨w3.heap.size, 3, none⟩) (Nat.le_refl _) (.int .i64 y.w.len)).setCell (p := ⟨w3.heap.size, 4, none⟩) (Nat.le_refl _) (.int .i64 y.w.cap)).setCell (p := ⟨w3.heap.size, 5, none⟩) (Nat.le_refl _) (.int .i64 y.fr)).setCell (p := ⟨w3.heap.size, 6, none⟩) (Nat.le_refl _) (.int .i64 y.up))) | (go_at_call 37; (with_reducible refine (HMV.out w4 (HB3.out.trans (hc4.mono hs0))).mono ?_); rintro e w5 ⟨v5, rfl, ho5, hb5⟩; obtain ⟨AM, kM, rfl, hkM⟩ := ho5.form; have hc5 : Below w3.heap.size w3 w5 := hc4.trans (hb5.mono hc4.size); have hs45 := hb5.size; have hc5z := hc5.alloc hc5.size (.cells #[.slice none 0 0, .int .i64 0, .int .i64 0, .int .i64 0, .int .i64 0, .int .i64 0, .int .i64 0] 34); have hc5v := hc5.alloc hc5.size (.cells #[.slice AM R.length kM, .int .i64 y.w.arr, .int .i64 y.w.start, .int .i64 y.w.len, .int .i64 y.w.cap, .int .i64 y.fr, .int .i64 y.up] 34); have HM5 := Lib.hid (fun (_ : True) => meetG_new (y := y) ho5 hc5 hs34 hs45)) | (go_at_call 37; (with_reducible refine (HMV.out (w4.alloc (.cells #[.slice none 0 0, .int .i64 0, .int .i64 0, .int .i64 0, .int .i64 0, .int .i64 0, .int .i64 0] 34)) (HB3.out.trans (hc4z.mono hs0))).mono ?_); rintro e w5 ⟨v5, rfl, ho5, hb5⟩; obtain ⟨AM, kM, rfl, hkM⟩ := ho5.form; have hc5 : Below w3.heap.size w3 w5 := hc4z.trans (hb5.mono hc4z.size); have hs45 := al_le hb5; have HZ5 := Lib.hid (show w5.heap[w4.heap.size]? = some (.cells #[.slice none 0 0, .int .i64 0, .int .i64 0, .int .i64 0, .int .i64 0, .int .i64 0, .int .i64 0] 34) from box_new hb5); have HM5 := Lib.hid (fun (_ : True) => meetG_old (y := y) (own_al ho5) hc5 HZ5.out hs34 (Nat.lt_succ_self _) hs45); obtain ⟨y0, y1, y2, y3, y4, y5, y6⟩ := gap_cells HZ5.out; obtain ⟨z0, z1, z2, z3, z4, z5, z6⟩ := gap_frozen HZ5.out; have hc5s := (((((((hc5.setCell (p := ⟨w4.heap.size, 0, none⟩) hs34 (.slice AM R.length kM)).setCell (p := ⟨w4.heap.size, 1, none⟩) hs34 (.int .i64 y.w.arr)).setCell (p := ⟨w4.heap.size, 2, none⟩) hs34 (.int .i64 y.w.start)).setCell (p := ⟨w4.heap.size, 3, none⟩) hs34 (.int .i64 y.w.len)).setCell (p := ⟨w4.heap.size, 4, none⟩) hs34 (.int .i64 y.w.cap)).setCell (p := ⟨w4.heap.size, 5, none⟩) hs34 (.int .i64 y.fr)).setCell (p := ⟨w4.heap.size, 6, none⟩) hs34 (.int .i64 y.up))))
      all_goals (go_wp2_with fail)
      all_goals go_meet
      all_goals (with_reducible exact HM5.out True.intro)
    case rest =>
      obtain ⟨g5, lo5, hi5, v5, rfl, hm5, hb5⟩ := hcut
      obtain ⟨w5, hw5⟩ : ∃ w5, w5 = wc := ⟨_, rfl⟩
      subst hw5
      obtain ⟨A5, k5, rfl, hk5⟩ := hm5.own.form
      have HM5 := Lib.hid hm5
      have HG5 := Lib.hid (HG3.out.below hb5)
      have HB5 := Lib.hid (HB3.out.trans (hb5.mono hs0))
      have hg5 := hm5.bg
      have hlo5 := hm5.blo
      have hhi5 := hm5.hiW
      clear hm5 hb5 hk5 hcd hca
      have HSL : Hid (∀ W, Below w5.heap.size w5 W → Calls Try.prog 106 #[.agg #[.slice A5 R.length k5], .agg #[.int .i64 y.w.arr, .int .i64 y.w.start, .int .i64 y.w.len, .int .i64 y.w.cap], .int .i64 0, .int .i64 y.fr] W fun e w' => e = .returned (.tuple #[.agg #[.int .i64 y.w.arr, .int .i64 y.w.start, .int .i64 y.fr, .int .i64 y.w.cap], .bool true]) ∧ Below W.heap.size W w') := Lib.hid fun W hb => by
        have hyb := HYB.out
        have h := implSliceTwo_calls A5 k5 R y.w 0 y.fr W (HM5.out.below hb).own.reads HRL.out HWA.out
        rw [sliceV, if_pos ⟨HWY.out, Int.le_refl _, hyb.1, hyb.2.1, Int.le_refl _⟩, Int.add_zero, Int.sub_zero, Int.sub_zero] at h
        exact h
      have HLB := Lib.hid (fun (W : World) (h : W.heap[g5]? = some (.cells #[.slice A5 R.length k5, .int .i64 y.w.arr, .int .i64 y.w.start, .int .i64 y.w.len, .int .i64 y.w.cap, .int .i64 y.fr, .int .i64 y.up] 34)) => gap_cells h)
      obtain ⟨c0, d0, d1, d2, d3, d4, d5⟩ := HLB.out w5 HM5.out.box
      go_wp2_with fail
      refine (HSL.out w5 (Below.refl _ _)).mono ?_
      rintro e w6 ⟨rfl, hb6⟩
      obtain ⟨w7, hw7⟩ : ∃ w7, w6.alloc (.cells #[.int .i64 y.w.arr, .int .i64 y.w.start, .int .i64 y.fr, .int .i64 y.w.cap] 32) = w7 := ⟨_, rfl⟩
      have hb7 : Below w6.heap.size w6 w7 := by rw [← hw7]; exact (Below.refl _ _).alloc (Nat.le_refl _) _
      have HX := Lib.hid (show w7.heap[w6.heap.size]? = some (.cells #[.int .i64 y.w.arr, .int .i64 y.w.start, .int .i64 y.fr, .int .i64 y.w.cap] 32) by rw [← hw7]; exact heap_alloc_new _ _)
      have HM7 := Lib.hid ((HM5.out.below hb6).below hb7)
      have HG7 := Lib.hid ((HG5.out.below hb6).below hb7)
      have HB7 := Lib.hid ((HB5.out.trans (hb6.mono HB5.out.size)).trans (hb7.mono (Nat.le_trans HB5.out.size hb6.size)))
      have HW7 := Lib.hid hw7
      have hs6 := hb6.size
      have hs7 := hb7.size
      have hs5 := (Array.getElem?_eq_some_iff.1 HG5.out.resW).1
      clear hb6 hb7 hw7 c0 d0 d1 d2 d3 d4 d5
      have HLC := Lib.hid (fun (W : World) (h : W.heap[g5]? = some (.cells #[.slice A5 R.length k5, .int .i64 y.w.arr, .int .i64 y.w.start, .int .i64 y.w.len, .int .i64 y.w.cap, .int .i64 y.fr, .int .i64 y.up] 34)) (h' : W.heap[w6.heap.size]? = some (.cells #[.int .i64 y.w.arr, .int .i64 y.w.start, .int .i64 y.fr, .int .i64 y.w.cap] 32)) => And.intro (gap_cells h) (four_cells h'))
      have HK0 := Lib.hid (HLC.out w7.drew (block_drew HM7.out.box) (block_drew HX.out))
      have HK1 := Lib.hid (HLC.out _ (block_drew (gap_keep (q := w.heap.size + 1) (v0 := .slice A5 R.length k5) (v1 := .int .i64 y.w.arr) (v2 := .int .i64 y.w.start) (v3 := .int .i64 y.w.len) (v4 := .int .i64 y.w.cap) (v5 := .int .i64 y.fr) (v6 := .int .i64 y.up) HM7.out.box (by omega))) (block_drew (gap_keep (q := w.heap.size + 1) (v0 := .slice A5 R.length k5) (v1 := .int .i64 y.w.arr) (v2 := .int .i64 y.w.start) (v3 := .int .i64 y.w.len) (v4 := .int .i64 y.w.cap) (v5 := .int .i64 y.fr) (v6 := .int .i64 y.up) HX.out (by omega))))
      have HK2 := Lib.hid (HLC.out _ (block_drew (keep_set4 (h := w.heap.size + 1 + 1) (u0 := .int .i64 y.w.arr) (u1 := .int .i64 y.w.start) (u2 := .int .i64 y.fr) (u3 := .int .i64 y.w.cap) HM7.out.box (by omega))) (block_drew (keep_set4 (h := w.heap.size + 1 + 1) (u0 := .int .i64 y.w.arr) (u1 := .int .i64 y.w.start) (u2 := .int .i64 y.fr) (u3 := .int .i64 y.w.cap) HX.out (by omega))))
      have HK3 := Lib.hid (HLC.out _ (block_drew (keep_set4 (h := w.heap.size + 1 + 1) (u0 := .int .i64 y.w.arr) (u1 := .int .i64 y.w.start) (u2 := .int .i64 y.fr) (u3 := .int .i64 y.w.cap) (gap_keep (q := w.heap.size + 1) (v0 := .slice A5 R.length k5) (v1 := .int .i64 y.w.arr) (v2 := .int .i64 y.w.start) (v3 := .int .i64 y.w.len) (v4 := .int .i64 y.w.cap) (v5 := .int .i64 y.fr) (v6 := .int .i64 y.up) HM7.out.box (by omega)) (by omega))) (block_drew (keep_set4 (h := w.heap.size + 1 + 1) (u0 := .int .i64 y.w.arr) (u1 := .int .i64 y.w.start) (u2 := .int .i64 y.fr) (u3 := .int .i64 y.w.cap) (gap_keep (q := w.heap.size + 1) (v0 := .slice A5 R.length k5) (v1 := .int .i64 y.w.arr) (v2 := .int .i64 y.w.start) (v3 := .int .i64 y.w.len) (v4 := .int .i64 y.w.cap) (v5 := .int .i64 y.fr) (v6 := .int .i64 y.up) HX.out (by omega)) (by omega))))
      have HK4 := Lib.hid (HLC.out _ (block_drew (gap_keep (q := w.heap.size + 1) (v0 := .slice A5 R.length k5) (v1 := .int .i64 y.w.arr) (v2 := .int .i64 y.w.start) (v3 := .int .i64 y.w.len) (v4 := .int .i64 y.w.cap) (v5 := .int .i64 y.fr) (v6 := .int .i64 y.up) (keep_set4 (h := w.heap.size + 1 + 1) (u0 := .int .i64 y.w.arr) (u1 := .int .i64 y.w.start) (u2 := .int .i64 y.fr) (u3 := .int .i64 y.w.cap) HM7.out.box (by omega)) (by omega))) (block_drew (gap_keep (q := w.heap.size + 1) (v0 := .slice A5 R.length k5) (v1 := .int .i64 y.w.arr) (v2 := .int .i64 y.w.start) (v3 := .int .i64 y.w.len) (v4 := .int .i64 y.w.cap) (v5 := .int .i64 y.fr) (v6 := .int .i64 y.up) (keep_set4 (h := w.heap.size + 1 + 1) (u0 := .int .i64 y.w.arr) (u1 := .int .i64 y.w.start) (u2 := .int .i64 y.fr) (u3 := .int .i64 y.w.cap) HX.out (by omega)) (by omega))))
      obtain ⟨⟨c0, d0, d1, d2, d3, d4, d5⟩, k0, k1, k2, k3⟩ := HK0.out
      obtain ⟨⟨c0', d0', d1', d2', d3', d4', d5'⟩, k0', k1', k2', k3'⟩ := HK1.out
      obtain ⟨⟨c0'', d0'', d1'', d2'', d3'', d4'', d5''⟩, k0'', k1'', k2'', k3''⟩ := HK2.out
      obtain ⟨⟨a0, a1, a2, a3, a4, a5, a6⟩, b0, b1, b2, b3⟩ := HK3.out
      obtain ⟨⟨e0, e1, e2, e3, e4, e5, e6⟩, x0, x1, x2, x3⟩ := HK4.out
      obtain ⟨r0, r1, r2, r3, r4, r5, r6⟩ := gap_cells HG7.out.gg.res
      obtain ⟨f0, f1, f2, f3, f4, f5, f6⟩ := gap_frozen HG7.out.gg.res
      obtain ⟨q0, q1, q2, q3⟩ := four_cells HG7.out.resW
      obtain ⟨p0, p1, p2, p3⟩ := four_frozen HG7.out.resW
      go_upto_region 5 with fail
      rw [HW7.out]
      go_region_held3 (fun W => W.cell? ⟨g5, 0, none⟩ = some (.slice A5 R.length k5) ∧ W.cell? ⟨g5, 1, none⟩ = some (.int .i64 y.w.arr) ∧ W.cell? ⟨g5, 2, none⟩ = some (.int .i64 y.w.start) ∧ W.cell? ⟨g5, 3, none⟩ = some (.int .i64 y.w.len) ∧ W.cell? ⟨g5, 4, none⟩ = some (.int .i64 y.w.cap) ∧ W.cell? ⟨g5, 5, none⟩ = some (.int .i64 y.fr) ∧ W.cell? ⟨g5, 6, none⟩ = some (.int .i64 y.up) ∧ W.cell? ⟨w6.heap.size, 0, none⟩ = some (.int .i64 y.w.arr) ∧ W.cell? ⟨w6.heap.size, 1, none⟩ = some (.int .i64 y.w.start) ∧ W.cell? ⟨w6.heap.size, 2, none⟩ = some (.int .i64 y.fr) ∧ W.cell? ⟨w6.heap.size, 3, none⟩ = some (.int .i64 y.w.cap))
        (first | (with_reducible exact ⟨c0, d0, d1, d2, d3, d4, d5, k0, k1, k2, k3⟩) | (with_reducible exact ⟨c0', d0', d1', d2', d3', d4', d5', k0', k1', k2', k3'⟩) | (with_reducible exact ⟨c0'', d0'', d1'', d2'', d3'', d4'', d5'', k0'', k1'', k2'', k3''⟩) | (with_reducible exact ⟨a0, a1, a2, a3, a4, a5, a6, b0, b1, b2, b3⟩) | (with_reducible exact ⟨e0, e1, e2, e3, e4, e5, e6, x0, x1, x2, x3⟩))
        (fail)
      go_wp2_with fail
      refine bodyPost_ret (v := .tuple #[.agg #[.slice A5 R.length k5, .int .i64 y.w.arr, .int .i64 y.w.start, .int .i64 y.w.len, .int .i64 y.w.cap, .int .i64 y.fr, .int .i64 y.up], .agg #[.int .i64 y.w.arr, .int .i64 y.w.start, .int .i64 y.fr, .int .i64 y.w.cap], .bool true]) (by simp [results, Try.results62, go_sem, r0, r1, r2, r3, r4, r5, r6, q0, q1, q2, q3]) rfl ⟨_, by rw [HV.out], ?_, by (repeat (first | (with_reducible exact Below.refl _ _) | (with_reducible refine Below.drew ?_) | ((with_reducible refine Below.alloc ?_ ?hB _); case hB => (first | (with_reducible exact Nat.le_refl _) | omega | (simp; done) | (simp; omega))) | ((with_reducible refine Below.setCell ?_ ?hB _); case hB => (first | (with_reducible exact Nat.le_refl _) | omega | (simp; done) | (simp; omega))))); exact HB7.out⟩
      rw [HV.out]
      have hhi7 := HM7.out.hiW
      have hfin := own_eleven (g := w.heap.size + 1) (h := w.heap.size + 1 + 1) (v0 := .slice A5 R.length k5) (v1 := .int .i64 y.w.arr) (v2 := .int .i64 y.w.start) (v3 := .int .i64 y.w.len) (v4 := .int .i64 y.w.cap) (v5 := .int .i64 y.fr) (v6 := .int .i64 y.up) (u0 := .int .i64 y.w.arr) (u1 := .int .i64 y.w.start) (u2 := .int .i64 y.fr) (u3 := .int .i64 y.w.cap) HM7.out.own (.inl (by omega)) (.inl (by omega))
      first | (with_reducible exact own_finG hfin (by rw [size_eleven]; exact hhi7) (by omega)) | (with_reducible exact own_drewG hfin (by rw [size_eleven]; exact hhi7) (by omega))
  · rw [decide_eq_false hok] at HC
    have HV : Hid (closeGapR m g = ([], zeroGp, ⟨0, 0, 0, 0⟩, false)) := Lib.hid (by rw [closeGapR, if_neg hok])
    clear hr hb0 hw0 hgg hok
    go_enter Try.func62, Try.ntmps62
    go_wp2_with fail
    rw [HW.out]
    refine HC.out.mono ?_
    rintro e w2 ⟨rfl, hb2⟩
    have HB2 := Lib.hid (HB.out.trans (hb2.mono HB.out.size))
    have HG2 := Lib.hid (HGG.out.below hb2)
    clear hb2 c0 d0 d1 d2 d3 d4 d5
    obtain ⟨r0, r1, r2, r3, r4, r5, r6⟩ := gap_cells HG2.out.gg.res
    obtain ⟨f0, f1, f2, f3, f4, f5, f6⟩ := gap_frozen HG2.out.gg.res
    obtain ⟨q0, q1, q2, q3⟩ := four_cells HG2.out.resW
    obtain ⟨p0, p1, p2, p3⟩ := four_frozen HG2.out.resW
    go_wp2_with fail
    refine bodyPost_ret (v := .tuple #[.agg #[.slice none 0 0, .int .i64 0, .int .i64 0, .int .i64 0, .int .i64 0, .int .i64 0, .int .i64 0], .agg #[.int .i64 0, .int .i64 0, .int .i64 0, .int .i64 0], .bool false]) (by simp [results, Try.results62, go_sem, r0, r1, r2, r3, r4, r5, r6, q0, q1, q2, q3]) rfl ⟨_, by rw [HV.out]; rfl, by rw [HV.out]; exact own_none _ _ _, by (repeat (first | (with_reducible exact Below.refl _ _) | (with_reducible refine Below.drew ?_) | ((with_reducible refine Below.alloc ?_ ?hB _); case hB => (first | (with_reducible exact Nat.le_refl _) | omega | (simp; done) | (simp; omega))) | ((with_reducible refine Below.setCell ?_ ?hB _); case hB => (first | (with_reducible exact Nat.le_refl _) | omega | (simp; done) | (simp; omega))))); exact HB2.out⟩
end Go.Proofs.Ytkclpppnjfhbpaa
